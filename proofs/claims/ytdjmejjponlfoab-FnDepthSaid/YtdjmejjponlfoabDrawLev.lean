/-
  Drawn levels.
-/
import Derived.Test.YtdjmejjponlfoabGD
import Derived.Test.YtdjmejjponlfoabDepO
namespace Go.Proofs.Ytdjmejjponlfoab
open Go.RowKit Wire

/-- a number of an owned row of levels is stored -/
theorem own_put3 {w : World} {base n c q : Nat} {T : TypeId} {zs : List Int} (h : w.ownsRow base T 3 (.slice (some ⟨q, 0, none⟩) n c) n (nums zs)) (j : Nat) (y : Int) :
    (w.setCell ⟨q, j, none⟩ (.int .i64 y)).ownsRow base T 3 (.slice (some ⟨q, 0, none⟩) n c) n (nums (zs.set j y)) := by
  refine ⟨by have := h.1; rw [nums_length] at this ⊢; rw [List.length_set]; exact this, ?_⟩
  rcases h.2 with ⟨h1, _⟩ | ⟨g, cap, cur, hv, hbg, hh, hnc, hcm, hsz, htk⟩
  · simp at h1
  · injection hv with e1 _ e3
    injection e1 with e1
    injection e1 with e1
    subst e1 e3
    exact .inr ⟨_, _, cur.setIfInBounds j (.int .i64 y), rfl, hbg, by simp [World.setCell, Array.getElem?_modify, hh], hnc, hcm, by simpa using hsz, by rw [Array.toList_setIfInBounds, List.take_set, htk, nums_set]⟩
theorem own_free3 {w : World} {base n c q : Nat} {T : TypeId} {zs : List Int} (h : w.ownsRow base T 3 (.slice (some ⟨q, 0, none⟩) n c) n (nums zs)) (j : Nat) (hj : j < n * 3) :
    w.cell? ⟨q, j, none⟩ = some (.int .i64 (num zs j)) ∧ w.frozen? ⟨q, j, none⟩ = false := by
  refine ⟨?_, ?_⟩
  · rw [h.cellAt j hj]
    exact nums_get (by have := h.1; rw [nums_length] at this; omega)
  · rcases h.2 with ⟨h1, _⟩ | ⟨g, cap, cur, hv, _, hh, _⟩
    · simp at h1
    · injection hv with e1 _ _
      injection e1 with e1
      injection e1 with e1
      subst e1
      simp [World.frozen?, hh]
set_option linter.unusedVariables false in
set_option linter.unusedSimpArgs false in
set_option maxHeartbeats 3200000 in
set_option maxRecDepth 100000 in
theorem levels_any (s : Int) (g : Nat) (A : Option Addr) (len cap p : Nat) (w : World) (hr : RdAt w g A len cap p) (hs : Src w g A len) (hl : len ≤ 9223372036854775807) :
    Calls Try.prog 68 #[.pointer (some ⟨g, 0, none⟩), .int .i64 s] w fun e w' => ∃ r n zs p', e = .returned r ∧ n ≤ 20 ∧ w'.ownsRow w.heap.size 57 3 r n (nums zs) ∧ RdAt w' g A len cap p' ∧ w.grownBy w' (some g) := by
  have hlt := hr.lt
  go_enter Try.func68, Try.ntmps68
  go_wp2_with fail
  refine (book_any g A len cap _ w hr hs hl).mono ?_
  rintro e w1 ⟨v1, n1, z1, v2, n2, z2, p1, rfl, hn1, hn2, TR, hr1, hg1⟩
  obtain ⟨A1, c1, A2, c2, rfl, rfl⟩ := TR.slices
  go_wp2_with fail
  refine (spec_DepthO A1 n1 c1 A2 n2 c2 z1 z2 s w1 (Lst.of_own TR.one) (Lst.of_own TR.two) (by omega) (by omega) (own_nil TR.one) (own_nil TR.two)).mono ?_
  have hN := depN_le (side := s) (za := z1) (zb := z2) (n := n1) (m := n2)
  generalize depN (bookB z1 n1 z2 n2) s z1 n1 z2 n2 = N at *
  generalize depZ (bookB z1 n1 z2 n2) s z1 n1 z2 n2 = zs at *
  rintro e w2 ⟨⟨r, rfl, TL⟩, hb2⟩
  have hr2 : RdAt w2 g A len cap p1 := ⟨hr1.1, (hb2.block g hr1.lt).trans hr1.2⟩
  have hg2 := only_below hg1 hb2
  have hs1 : w.heap.size ≤ w1.heap.size := hg1.size
  replace TL := own_mono TL hs1
  obtain ⟨A6, c6, rfl, _, _⟩ := own_slice TL
  clear TR hr1 hg1 hb2 hs1
  go_wp2_with fail
  refine (once_any 12 g A len cap _ w2 hr2 (hs.keep hg2 (Nat.le_of_lt hlt)) hl (by omega) (by omega)).mono ?_
  rintro e w3 ⟨bb, p3, rfl, hr3, hg3⟩
  replace TL := own_apart TL hg3 (fun q hq e => by injection e with e; have := (TL.lt q hq).1; omega)
  replace hg3 := only_trans hg2 hg3
  clear hr2 hg2
  rcases bb with _ | _
  · go_wp2_with fail
    go_ret
    exact ⟨_, _, _, _, rfl, hN, TL, hr3, hg3⟩
  · rcases Nat.eq_zero_or_pos N with hz | hpos
    · subst hz
      go_wp2_with fail
      go_ret
      exact ⟨_, _, _, _, rfl, hN, TL, hr3, hg3⟩
    · obtain ⟨qq, cc, hv, hbq, hlq⟩ := TL.form hpos
      injection hv with e1 _ e3
      subst e1 e3
      have hp2 : (0 : Int) < (N : Int) := by omega
      have hp3 : ((N : Int) > 0) = True := by simp; omega
      go_wp2_with fail
      refine (off_any 0 20 g A len cap _ w3 hr3 (hs.keep hg3 (Nat.le_of_lt hlt)) hl (by omega) (by omega) (by omega)).mono ?_
      rintro e w4 ⟨y, p4, hy, rfl, hr4, hg4⟩
      replace TL := own_apart TL hg4 (fun q hq e => by injection e with e; have := (TL.lt q hq).1; omega)
      replace hg4 := only_trans hg3 hg4
      obtain ⟨x0, x1⟩ := own_free3 TL 1 (by omega)
      have TS := Lib.hid (own_put3 TL 1 y)
      have RR := Lib.hid hr4
      have RB := Lib.hid hg4
      clear hr3 hg3 hr4 hg4 TL
      go_wp2_with fail
      go_ret
      refine ⟨_, _, _, _, rfl, hN, TS.out, ⟨RR.out.1, (Below.heap_setCell _ ⟨qq, 1, none⟩ _ g (show g ≠ qq by omega)).trans RR.out.2⟩, only_setCell RB.out (p := ⟨qq, 1, none⟩) (.inr hbq) _⟩
set_option linter.unusedVariables false in
set_option linter.unusedSimpArgs false in
set_option maxHeartbeats 3200000 in
set_option maxRecDepth 100000 in
theorem DrawCost_any (A : Option Addr) (len cap : Nat) (w : World) (hs : Src w w.heap.size A len) (hl : len ≤ 9223372036854775807) :
    Calls Try.prog 33 #[.slice A len cap] w fun e w' => ∃ r n zs q, e = .returned (.tuple #[r, .int .i64 q]) ∧ I64 q ∧ n ≤ 20 ∧ w'.ownsRow w.heap.size 57 3 r n (nums zs) ∧ Below w.heap.size w w' := by
  have hsrc : ∀ w', Below w.heap.size w w' → ∀ g, w.heap.size ≤ g → Src w' g A len := fun w' hb g hg i hi => by
    obtain ⟨b, o, n, h1, h2, h3, h4, h5⟩ := hs i hi
    exact ⟨b, o, n, h1, Nat.lt_of_lt_of_le h2 hg, h3, h4, (hb.cell (p := ⟨b, o + i, none⟩) h2).trans h5⟩
  go_enter Try.func33, Try.ntmps33
  go_wp2_with fail
  refine (open_any A len cap _).mono ?_
  rintro e w1 ⟨rfl, rfl⟩
  have hr0 : RdAt (w.alloc (.cells #[.slice A len cap, .int .i64 0] 102)) w.heap.size A len cap 0 := ⟨Nat.zero_le _, heap_alloc_new w _⟩
  have hb0 : Below w.heap.size w (w.alloc (.cells #[.slice A len cap, .int .i64 0] 102)) := (Below.refl _ _).alloc (Nat.le_refl _) _
  have hlt0 : w.heap.size < (w.alloc (.cells #[.slice A len cap, .int .i64 0] 102)).heap.size := by simp
  generalize w.alloc (.cells #[.slice A len cap, .int .i64 0] 102) = w0 at *
  have hk : ∀ wx wy, Below w.heap.size w wx → wx.grownBy wy (some w.heap.size) → Below w.heap.size w wy := fun wx wy hx hy => hx.grown hy hx.size (fun k h => by injection h with h; omega)
  have HK := Lib.hid hk
  clear hk
  go_wp2_with fail
  refine (side_any w.heap.size A len cap _ w0 hr0 (hsrc w0 hb0 _ (Nat.le_refl _)) hl).mono ?_
  rintro e w2 ⟨s, p2, hs2, rfl, hr2, hg2⟩
  have hb2 := HK.out _ _ hb0 hg2
  have hz2 := hg2.size
  go_wp2_with fail
  refine (levels_any s w.heap.size A len cap _ w2 hr2 (hsrc w2 hb2 _ (Nat.le_refl _)) hl).mono ?_
  rintro e w3 ⟨r, n, zs, p3, rfl, hn, TL, hr3, hg3⟩
  have hb3 := HK.out _ _ hb2 hg3
  go_wp2_with fail
  refine (off_any 0 20 w.heap.size A len cap _ w3 hr3 (hsrc w3 hb3 _ (Nat.le_refl _)) hl (by omega) (by omega) (by omega)).mono ?_
  rintro e w4 ⟨q, p4, hq, rfl, hr4, hg4⟩
  have hb4 := HK.out _ _ hb3 hg4
  replace TL := own_apart TL hg4 (fun q hq e => by injection e with e; have := (TL.lt q hq).1; omega)
  go_wp2_with fail
  exact bodyPost_ret (v := .tuple #[r, .int .i64 q]) (by simp [results, Try.results33, go_sem]) rfl ⟨_, _, _, _, rfl, hq, hn, own_mono TL (by omega), hb4⟩
end Go.Proofs.Ytdjmejjponlfoab
