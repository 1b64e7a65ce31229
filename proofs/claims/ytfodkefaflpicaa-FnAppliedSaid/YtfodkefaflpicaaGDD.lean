/-
  DrawLev, DrawDel.
-/
import Derived.Test.YtfodkefaflpicaaGD
import Derived.Test.YtfodkefaflpicaaGDE
import Derived.Test.YtfodkefaflpicaaGAP
namespace Go.Proofs.Ytfodkefaflpicaa
open Go.RowKit Wire

/-- a number of an owned row of levels is stored -/
theorem own_put3 {w : World} {base n c q : Nat} {T : TypeId} {zs : List Int} (h : w.ownsRow base T 3 (.slice (some ⟨q, 0, none⟩) n c) n (nums zs)) (j : Nat) (y : Int) :
    (w.setCell ⟨q, j, none⟩ (.int .i64 y)).ownsRow base T 3 (.slice (some ⟨q, 0, none⟩) n c) n (nums (zs.set j y)) := by
  refine ⟨by have := h.1; rw [nums_length] at this ⊢; rw [List.length_set]; exact this, ?_⟩
  rcases h.2 with ⟨h1, _⟩ | ⟨g, cap, cur, hv, hbg, hh, hnc, hcm, hsz, htk⟩
  · simp at h1
  · injection hv with e1 _ e3
    injection e1 with e1
    injection e1 with e1
    subst e1 e3
    exact .inr ⟨_, _, cur.setIfInBounds j (.int .i64 y), rfl, hbg, by simp [World.setCell, Array.getElem?_modify, hh], hnc, hcm, by simpa using hsz, by rw [Array.toList_setIfInBounds, List.take_set, htk, nums_set]⟩
theorem own_free3 {w : World} {base n c q : Nat} {T : TypeId} {zs : List Int} (h : w.ownsRow base T 3 (.slice (some ⟨q, 0, none⟩) n c) n (nums zs)) (j : Nat) (hj : j < n * 3) :
    w.cell? ⟨q, j, none⟩ = some (.int .i64 (num zs j)) ∧ w.frozen? ⟨q, j, none⟩ = false := by
  refine ⟨?_, ?_⟩
  · rw [h.cellAt j hj]
    exact nums_get (by have := h.1; rw [nums_length] at this; omega)
  · rcases h.2 with ⟨h1, _⟩ | ⟨g, cap, cur, hv, _, hh, _⟩
    · simp at h1
    · injection hv with e1 _ _
      injection e1 with e1
      injection e1 with e1
      subst e1
      simp [World.frozen?, hh]
set_option linter.unusedVariables false in
set_option linter.unusedSimpArgs false in
set_option maxHeartbeats 3200000 in
set_option maxRecDepth 100000 in
theorem levels_any (s : Int) (g : Nat) (A : Option Addr) (len cap p : Nat) (w : World) (hr : RdAt w g A len cap p) (hs : Src w g A len) (hl : len ≤ 9223372036854775807) :
    Calls Try.prog 62 #[.pointer (some ⟨g, 0, none⟩), .int .i64 s] w fun e w' => ∃ r n zs p', e = .returned r ∧ n ≤ 20 ∧ w'.ownsRow w.heap.size 94 3 r n (nums zs) ∧ RdAt w' g A len cap p' ∧ w.grownBy w' (some g) := by
  have hlt := hr.lt
  go_enter Try.func62, Try.ntmps62
  go_wp2_with fail
  refine (book_any g A len cap _ w hr hs hl).mono ?_
  rintro e w1 ⟨v1, n1, z1, v2, n2, z2, p1, rfl, hn1, hn2, TR, hr1, hg1⟩
  obtain ⟨A1, c1, A2, c2, rfl, rfl⟩ := TR.slices
  go_wp2_with fail
  refine (spec_DepthO A1 n1 c1 A2 n2 c2 z1 z2 s w1 (Lst.of_own TR.one) (Lst.of_own TR.two) (by omega) (by omega) (own_nil TR.one) (own_nil TR.two)).mono ?_
  have hN := depN_le (side := s) (za := z1) (zb := z2) (n := n1) (m := n2)
  generalize depN (bookB z1 n1 z2 n2) s z1 n1 z2 n2 = N at *
  generalize depZ (bookB z1 n1 z2 n2) s z1 n1 z2 n2 = zs at *
  rintro e w2 ⟨⟨r, rfl, TL⟩, hb2⟩
  have hr2 : RdAt w2 g A len cap p1 := ⟨hr1.1, (hb2.block g hr1.lt).trans hr1.2⟩
  have hg2 := only_below hg1 hb2
  have hs1 : w.heap.size ≤ w1.heap.size := hg1.size
  replace TL := own_mono TL hs1
  obtain ⟨A6, c6, rfl, _, _⟩ := own_slice TL
  clear TR hr1 hg1 hb2 hs1
  go_wp2_with fail
  refine (once_any 12 g A len cap _ w2 hr2 (hs.keep hg2 (Nat.le_of_lt hlt)) hl (by omega) (by omega)).mono ?_
  rintro e w3 ⟨bb, p3, rfl, hr3, hg3⟩
  replace TL := own_apart TL hg3 (fun q hq e => by injection e with e; have := (TL.lt q hq).1; omega)
  replace hg3 := only_trans hg2 hg3
  clear hr2 hg2
  rcases bb with _ | _
  · go_wp2_with fail
    go_ret
    exact ⟨_, _, _, _, rfl, hN, TL, hr3, hg3⟩
  · rcases Nat.eq_zero_or_pos N with hz | hpos
    · subst hz
      go_wp2_with fail
      go_ret
      exact ⟨_, _, _, _, rfl, hN, TL, hr3, hg3⟩
    · obtain ⟨qq, cc, hv, hbq, hlq⟩ := TL.form hpos
      injection hv with e1 _ e3
      subst e1 e3
      have hp2 : (0 : Int) < (N : Int) := by omega
      have hp3 : ((N : Int) > 0) = True := by simp; omega
      go_wp2_with fail
      refine (off_any 0 20 g A len cap _ w3 hr3 (hs.keep hg3 (Nat.le_of_lt hlt)) hl (by omega) (by omega) (by omega)).mono ?_
      rintro e w4 ⟨y, p4, hy, rfl, hr4, hg4⟩
      replace TL := own_apart TL hg4 (fun q hq e => by injection e with e; have := (TL.lt q hq).1; omega)
      replace hg4 := only_trans hg3 hg4
      obtain ⟨x0, x1⟩ := own_free3 TL 1 (by omega)
      have TS := Lib.hid (own_put3 TL 1 y)
      have RR := Lib.hid hr4
      have RB := Lib.hid hg4
      clear hr3 hg3 hr4 hg4 TL
      go_wp2_with fail
      go_ret
      refine ⟨_, _, _, _, rfl, hN, TS.out, ⟨RR.out.1, (Below.heap_setCell _ ⟨qq, 1, none⟩ _ g (show g ≠ qq by omega)).trans RR.out.2⟩, only_setCell RB.out (p := ⟨qq, 1, none⟩) (.inr hbq) _⟩
end Go.Proofs.Ytfodkefaflpicaa

namespace Go.Proofs.Ytfodkefaflpicaa
open Go.RowKit Wire

theorem dlt_few (side : Int) (za : List Int) (n : Nat) (zb : List Int) (m : Nat) : (dltZ side za n zb m).length ≤ (n + m) * 3 := by
  obtain ⟨j, h1, h2⟩ := goneL_len za zb m n
  obtain ⟨i, h3, h4⟩ := comeL_len za zb n m
  unfold dltZ
  split
  · rw [List.length_append, h1, h3]; omega
  · simp
theorem own_set_other {w : World} {base sz n q : Nat} {e : TypeId} {v : Value} {xs : List Value} (h : w.ownsRow base e sz v n xs) (hq : v.ownBlock ≠ some q) (j : Nat) (y : Value) : (w.setCell ⟨q, j, none⟩ y).ownsRow base e sz v n xs := by
  refine ⟨h.1, ?_⟩
  rcases h.2 with a | ⟨g, cap, cur, hv, hbg, hh, hr⟩
  · exact .inl a
  · refine .inr ⟨g, cap, cur, hv, hbg, ?_, hr⟩
    rw [Below.heap_setCell w ⟨q, j, none⟩ y g (fun e => hq (by rw [hv]; show some g = some q; rw [e]))]
    exact hh
set_option linter.unusedVariables false in
set_option linter.unusedSimpArgs false in
set_option maxHeartbeats 3200000 in
set_option maxRecDepth 100000 in
theorem DrawDepthDelta_any (A : Option Addr) (len cap : Nat) (w : World) (hs : Src w w.heap.size A len) (hl : len ≤ 9223372036854775807) :
    Calls Try.prog 17 #[.slice A len cap] w fun e w' => ∃ r1 n za r2 m zb x, e = .returned (.tuple #[r1, r2, .int .i64 x]) ∧ n ≤ 20 ∧ m ≤ 20 ∧ w'.ownsRow w.heap.size 94 3 r1 n (nums za) ∧ w'.ownsRow w.heap.size 94 3 r2 m (nums zb) ∧ Below w.heap.size w w' := by
  have hsrc : ∀ w', Below w.heap.size w w' → ∀ g, w.heap.size ≤ g → Src w' g A len := fun w' hb g hg i hi => by
    obtain ⟨b, o, n, h1, h2, h3, h4, h5⟩ := hs i hi
    exact ⟨b, o, n, h1, Nat.lt_of_lt_of_le h2 hg, h3, h4, (hb.cell (p := ⟨b, o + i, none⟩) h2).trans h5⟩
  go_enter Try.func17, Try.ntmps17
  go_wp2_with fail
  refine (open_any A len cap _).mono ?_
  rintro e w1 ⟨rfl, rfl⟩
  have hr0 : RdAt (w.alloc (.cells #[.slice A len cap, .int .i64 0] 119)) w.heap.size A len cap 0 := ⟨Nat.zero_le _, heap_alloc_new w _⟩
  have hb0 : Below w.heap.size w (w.alloc (.cells #[.slice A len cap, .int .i64 0] 119)) := (Below.refl _ _).alloc (Nat.le_refl _) _
  have hlt0 : w.heap.size < (w.alloc (.cells #[.slice A len cap, .int .i64 0] 119)).heap.size := by simp
  generalize w.alloc (.cells #[.slice A len cap, .int .i64 0] 119) = w0 at *
  have hk : ∀ wx wy, Below w.heap.size w wx → wx.grownBy wy (some w.heap.size) → Below w.heap.size w wy := fun wx wy hx hy => hx.grown hy hx.size (fun k h => by injection h with h; omega)
  have HK := Lib.hid hk
  clear hk
  go_wp2_with fail
  refine (side_any w.heap.size A len cap _ w0 hr0 (hsrc w0 hb0 _ (Nat.le_refl _)) hl).mono ?_
  rintro e w2 ⟨s, p2, hs2, rfl, hr2, hg2⟩
  have hb2 := HK.out _ _ hb0 hg2
  have hz2 := hg2.size
  go_wp2_with fail
  refine (levels_any s w.heap.size A len cap _ w2 hr2 (hsrc w2 hb2 _ (Nat.le_refl _)) hl).mono ?_
  rintro e w3 ⟨r, n, za, p3, rfl, hn, TL, hr3, hg3⟩
  have hb3 := HK.out _ _ hb2 hg3
  have hz3 := hg3.size
  go_wp2_with fail
  refine (levels_any s w.heap.size A len cap _ w3 hr3 (hsrc w3 hb3 _ (Nat.le_refl _)) hl).mono ?_
  rintro e w4 ⟨r4, m, zb, p4, rfl, hm, TM, hr4, hg4⟩
  have hb4 := HK.out _ _ hb3 hg4
  have hz4 := hg4.size
  replace TL := own_apart TL hg4 (fun q hq e => by injection e with e; have := (TL.lt q hq).1; omega)
  go_wp2_with fail
  exact bodyPost_ret (v := .tuple #[r, r4, .int .i64 s]) (by simp [results, Try.results17, go_sem]) rfl ⟨_, _, _, _, _, _, _, rfl, hn, hm, own_mono TL (by omega), own_mono TM (by omega), hb4⟩
set_option linter.unusedVariables false in
set_option linter.unusedSimpArgs false in
set_option maxHeartbeats 3200000 in
set_option maxRecDepth 100000 in
theorem DrawDepthApplied_any (A : Option Addr) (len cap : Nat) (w : World) (hs : Src w w.heap.size A len) (hl : len ≤ 9223372036854775807) :
    Calls Try.prog 22 #[.slice A len cap] w fun e w' => ∃ r1 n za r2 m zd x, e = .returned (.tuple #[r1, r2, .int .i64 x]) ∧ n ≤ 20 ∧ m ≤ 40 ∧ w'.ownsRow w.heap.size 94 3 r1 n (nums za) ∧ w'.ownsRow w.heap.size 94 3 r2 m (nums zd) ∧ Below w.heap.size w w' := by
  have hsrc : ∀ w', Below w.heap.size w w' → ∀ g, w.heap.size ≤ g → Src w' g A len := fun w' hb g hg i hi => by
    obtain ⟨b, o, n, h1, h2, h3, h4, h5⟩ := hs i hi
    exact ⟨b, o, n, h1, Nat.lt_of_lt_of_le h2 hg, h3, h4, (hb.cell (p := ⟨b, o + i, none⟩) h2).trans h5⟩
  go_enter Try.func22, Try.ntmps22
  go_wp2_with fail
  refine (open_any A len cap _).mono ?_
  rintro e w1 ⟨rfl, rfl⟩
  have hr0 : RdAt (w.alloc (.cells #[.slice A len cap, .int .i64 0] 119)) w.heap.size A len cap 0 := ⟨Nat.zero_le _, heap_alloc_new w _⟩
  have hb0 : Below w.heap.size w (w.alloc (.cells #[.slice A len cap, .int .i64 0] 119)) := (Below.refl _ _).alloc (Nat.le_refl _) _
  have hlt0 : w.heap.size < (w.alloc (.cells #[.slice A len cap, .int .i64 0] 119)).heap.size := by simp
  generalize w.alloc (.cells #[.slice A len cap, .int .i64 0] 119) = w0 at *
  have hk : ∀ wx wy, Below w.heap.size w wx → wx.grownBy wy (some w.heap.size) → Below w.heap.size w wy := fun wx wy hx hy => hx.grown hy hx.size (fun k h => by injection h with h; omega)
  have HK := Lib.hid hk
  clear hk
  go_wp2_with fail
  refine (side_any w.heap.size A len cap _ w0 hr0 (hsrc w0 hb0 _ (Nat.le_refl _)) hl).mono ?_
  rintro e w2 ⟨s, p2, hs2, rfl, hr2, hg2⟩
  have hb2 := HK.out _ _ hb0 hg2
  have hz2 := hg2.size
  go_wp2_with fail
  refine (levels_any s w.heap.size A len cap _ w2 hr2 (hsrc w2 hb2 _ (Nat.le_refl _)) hl).mono ?_
  rintro e w3 ⟨r, n, za, p3, rfl, hn, TL, hr3, hg3⟩
  have hb3 := HK.out _ _ hb2 hg3
  have hz3 := hg3.size
  go_wp2_with fail
  refine (levels_any s w.heap.size A len cap _ w3 hr3 (hsrc w3 hb3 _ (Nat.le_refl _)) hl).mono ?_
  rintro e w4 ⟨r4, m, zb, p4, rfl, hm, TM, hr4, hg4⟩
  have hb4 := HK.out _ _ hb3 hg4
  have hz4 := hg4.size
  replace TL := own_apart TL hg4 (fun q hq e => by injection e with e; have := (TL.lt q hq).1; omega)
  obtain ⟨A1, c1, rfl, _, _⟩ := own_slice TL
  obtain ⟨A2, c2, rfl, _, _⟩ := own_slice TM
  go_wp2_with fail
  refine (spec_DepthDelta A1 n c1 za A2 m c2 zb s w4 (Lst.of_own TL) (by omega) (Lst.of_own TM) (by omega)).mono ?_
  have hsm := dlt_few s za n zb m
  generalize dltB s za n zb m = ub at *
  generalize dltZ s za n zb m = zd at *
  rintro e w5 ⟨⟨vD, N, rfl, hN, TD⟩, hb5⟩
  have hN40 : N ≤ 40 := by omega
  have TLB := Lib.hid TL
  replace TL := own_below TL hb5
  have hr5 : RdAt w5 w.heap.size A len cap p4 := ⟨hr4.1, (hb5.block _ hr4.lt).trans hr4.2⟩
  have hz5 := hb5.size
  have hb6 := hb4.trans (hb5.mono hb4.size)
  have hDL : ∀ q, vD.ownBlock = some q → (Value.slice A1 n c1).ownBlock ≠ some q := fun q hq e => by
    have a := (TD.lt q hq).1
    have b := (TL.lt q e).2
    exact absurd ((TLB.out.lt q e).2) (by omega)
  obtain ⟨AD, cD, rfl, _, _⟩ := own_slice TD
  clear TM hr4 hb5
  go_wp2_with fail
  refine (once_any 6 w.heap.size A len cap _ w5 hr5 (hsrc w5 hb6 _ (Nat.le_refl _)) hl (by omega) (by omega)).mono ?_
  rintro e w7 ⟨bb, p7, rfl, hr7, hg7⟩
  have hb7 := HK.out _ _ hb6 hg7
  replace TL := own_apart TL hg7 (fun q hq e => by injection e with e; have := (TL.lt q hq).1; omega)
  replace TD := own_apart TD hg7 (fun q hq e => by injection e with e; have := (TD.lt q hq).1; omega)
  rcases bb with _ | _
  · go_wp2_with fail
    exact bodyPost_ret (v := .tuple #[.slice A1 n c1, .slice AD N cD, .int .i64 s]) (by simp [results, Try.results22, go_sem]) rfl ⟨_, _, _, _, _, _, _, rfl, hn, hN40, own_mono TL (by omega), own_mono TD (by omega), hb7⟩
  · rcases Nat.eq_zero_or_pos N with hz | hpos
    · subst hz
      go_wp2_with fail
      exact bodyPost_ret (v := .tuple #[.slice A1 n c1, .slice AD 0 cD, .int .i64 s]) (by simp [results, Try.results22, go_sem]) rfl ⟨_, _, _, _, _, _, _, rfl, hn, by omega, own_mono TL (by omega), own_mono TD (by omega), hb7⟩
    · obtain ⟨qq, cc, hv, hbq, hlq⟩ := TD.form hpos
      injection hv with e1 _ e3
      subst e1 e3
      have hp2 : (0 : Int) < (N : Int) := by omega
      go_wp2_with fail
      refine (off_any 97 103 w.heap.size A len cap _ w7 hr7 (hsrc w7 hb7 _ (Nat.le_refl _)) hl (by omega) (by omega) (by omega)).mono ?_
      rintro e w8 ⟨y, p8, hy, rfl, hr8, hg8⟩
      have hb8 := HK.out _ _ hb7 hg8
      replace TL := own_apart TL hg8 (fun q hq e => by injection e with e; have := (TL.lt q hq).1; omega)
      replace TD := own_apart TD hg8 (fun q hq e => by injection e with e; have := (TD.lt q hq).1; omega)
      obtain ⟨x0, x1⟩ := own_free3 TD 0 (by omega)
      have TS := Lib.hid (own_mono (own_put3 TD 0 y) (show w.heap.size ≤ _ by omega))
      have TK := Lib.hid (own_mono (own_set_other TL (show (Value.slice A1 n c1).ownBlock ≠ some qq from hDL qq rfl) 0 (.int .i64 y)) (show w.heap.size ≤ _ by omega))
      have RB := Lib.hid (hb8.setCell (p := ⟨qq, 0, none⟩) (show w.heap.size ≤ qq by omega) (.int .i64 y))
      clear hr7 hg7 hr8 hg8 TL TD hDL
      go_wp2_with fail
      exact bodyPost_ret (v := .tuple #[.slice A1 n c1, .slice (some ⟨qq, 0, none⟩) N cD, .int .i64 s]) (by simp [results, Try.results22, go_sem]) rfl ⟨_, _, _, _, _, _, _, rfl, hn, hN40, TK.out, TS.out, RB.out⟩
end Go.Proofs.Ytfodkefaflpicaa
