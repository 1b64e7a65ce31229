/-
  Drawn levels and a side.
-/
import Derived.Test.YtdjmejjponlfoabDrawLev
import Derived.Test.YtdjmejjponlfoabGD
namespace Go.Proofs.Ytdjmejjponlfoab
open Go.RowKit Wire

set_option linter.unusedVariables false in
set_option linter.unusedSimpArgs false in
set_option maxHeartbeats 3200000 in
set_option maxRecDepth 100000 in
theorem DrawLevelsOk_any (A : Option Addr) (len cap : Nat) (w : World) (hs : Src w w.heap.size A len) (hl : len ≤ 9223372036854775807) :
    Calls Try.prog 27 #[.slice A len cap] w fun e w' => ∃ r n zs x, e = .returned (.tuple #[r, .int .i64 x]) ∧ n ≤ 20 ∧ w'.ownsRow w.heap.size 57 3 r n (nums zs) ∧ Below w.heap.size w w' := by
  have hsrc : ∀ w', Below w.heap.size w w' → ∀ g, w.heap.size ≤ g → Src w' g A len := fun w' hb g hg i hi => by
    obtain ⟨b, o, n, h1, h2, h3, h4, h5⟩ := hs i hi
    exact ⟨b, o, n, h1, Nat.lt_of_lt_of_le h2 hg, h3, h4, (hb.cell (p := ⟨b, o + i, none⟩) h2).trans h5⟩
  go_enter Try.func27, Try.ntmps27
  go_wp2_with fail
  refine (open_any A len cap _).mono ?_
  rintro e w1 ⟨rfl, rfl⟩
  have hr0 : RdAt (w.alloc (.cells #[.slice A len cap, .int .i64 0] 102)) w.heap.size A len cap 0 := ⟨Nat.zero_le _, heap_alloc_new w _⟩
  have hb0 : Below w.heap.size w (w.alloc (.cells #[.slice A len cap, .int .i64 0] 102)) := (Below.refl _ _).alloc (Nat.le_refl _) _
  have hlt0 : w.heap.size < (w.alloc (.cells #[.slice A len cap, .int .i64 0] 102)).heap.size := by simp
  generalize w.alloc (.cells #[.slice A len cap, .int .i64 0] 102) = w0 at *
  have hk : ∀ wx wy, Below w.heap.size w wx → wx.grownBy wy (some w.heap.size) → Below w.heap.size w wy := fun wx wy hx hy => hx.grown hy hx.size (fun k h => by injection h with h; omega)
  have HK := Lib.hid hk
  clear hk
  go_wp2_with fail
  refine (side_any w.heap.size A len cap _ w0 hr0 (hsrc w0 hb0 _ (Nat.le_refl _)) hl).mono ?_
  rintro e w2 ⟨s, p2, hs2, rfl, hr2, hg2⟩
  have hb2 := HK.out _ _ hb0 hg2
  have hz2 := hg2.size
  go_wp2_with fail
  refine (levels_any s w.heap.size A len cap _ w2 hr2 (hsrc w2 hb2 _ (Nat.le_refl _)) hl).mono ?_
  rintro e w3 ⟨r, n, zs, p3, rfl, hn, TL, hr3, hg3⟩
  have hb3 := HK.out _ _ hb2 hg3
  go_wp2_with fail
  refine (once_any 6 w.heap.size A len cap _ w3 hr3 (hsrc w3 hb3 _ (Nat.le_refl _)) hl (by omega) (by omega)).mono ?_
  rintro e w4 ⟨bb, p4, rfl, hr4, hg4⟩
  have hb4 := HK.out _ _ hb3 hg4
  replace TL := own_apart TL hg4 (fun q hq e => by injection e with e; have := (TL.lt q hq).1; omega)
  cases bb
  · go_wp2_with fail
    exact bodyPost_ret (v := .tuple #[r, .int .i64 s]) (by simp [results, Try.results27, go_sem]) rfl ⟨_, _, _, _, rfl, hn, own_mono TL (by omega), hb4⟩
  · obtain ⟨x, hx⟩ : ∃ x, IntKind.i64.wrap (3 - s) = x := ⟨_, rfl⟩
    go_wp2_with fail
    exact bodyPost_ret (v := .tuple #[r, .int .i64 x]) (by first | (simp [results, Try.results27, go_sem]; done) | (simp [results, Try.results27, go_sem, ← hx]; done) | (simp [results, Try.results27, go_sem, ← hx]; rfl)) rfl ⟨_, _, _, _, rfl, hn, own_mono TL (by omega), hb4⟩
set_option linter.unusedVariables false in
set_option linter.unusedSimpArgs false in
set_option maxHeartbeats 3200000 in
set_option maxRecDepth 100000 in
theorem DrawDepth_any (A : Option Addr) (len cap : Nat) (w : World) (hs : Src w w.heap.size A len) (hl : len ≤ 9223372036854775807) :
    Calls Try.prog 25 #[.slice A len cap] w fun e w' => ∃ v1 n1 z1 v2 n2 z2 x, e = .returned (.tuple #[.agg #[v1, v2], .int .i64 x]) ∧ I64 x ∧ n1 ≤ 20 ∧ n2 ≤ 20 ∧ TwoRows w' w.heap.size v1 n1 z1 v2 n2 z2 ∧ Below w.heap.size w w' := by
  have b0 := heap_alloc_new w (.cells #[.slice none 0 0, .slice none 0 0] 26)
  have hbw : Below w.heap.size w (w.alloc (.cells #[.slice none 0 0, .slice none 0 0] 26)) := (Below.refl _ _).alloc (Nat.le_refl _) _
  have hsw : w.heap.size < (w.alloc (.cells #[.slice none 0 0, .slice none 0 0] 26)).heap.size := by simp
  have hs' : Src (w.alloc (.cells #[.slice none 0 0, .slice none 0 0] 26)) (w.alloc (.cells #[.slice none 0 0, .slice none 0 0] 26)).heap.size A len := fun i hi => by
    obtain ⟨b, o, n, h1, h2, h3, h4, h5⟩ := hs i hi
    exact ⟨b, o, n, h1, Nat.lt_trans h2 hsw, h3, h4, (hbw.cell (p := ⟨b, o + i, none⟩) h2).trans h5⟩
  go_enter Try.func25, Try.ntmps25
  go_wp2_with fail
  generalize (w.alloc (.cells #[.slice none 0 0, .slice none 0 0] 26)) = ww at *
  refine (DrawSide_any A len cap ww hs' hl).mono ?_
  rintro e w2 ⟨v1, n1, z1, v2, n2, z2, x, rfl, hx, hn1, hn2, TR, hb2⟩
  obtain ⟨A1, c1, A2, c2, rfl, rfl⟩ := TR.slices
  have r2 := (hb2.block w.heap.size (by omega)).trans b0
  have hB2 := hbw.trans (hb2.mono hbw.size)
  obtain ⟨b0, b1⟩ := cell2 r2
  have f0 := mfree r2 0
  have f1 := mfree r2 1
  go_wp2_with fail
  obtain ⟨g0, g1⟩ := mcell2 (mset2 (u := (.slice A1 n1 c1)) (v := (.slice A2 n2 c2)) r2)
  exact bodyPost_ret (v := .tuple #[.agg #[(.slice A1 n1 c1), (.slice A2 n2 c2)], .int .i64 x]) (by simp [results, Try.results25, go_sem, g0, g1]) rfl ⟨_, _, _, _, _, _, _, rfl, hx, hn1, hn2, ((TR.kept (set_grown w2 w.heap.size 0 (.slice A1 n1 c1)) (by omega)).kept (set_grown _ w.heap.size 1 (.slice A2 n2 c2)) (by omega)).mono (by omega), (hB2.setCell (p := ⟨w.heap.size, 0, none⟩) (Nat.le_refl _) _).setCell (p := ⟨w.heap.size, 1, none⟩) (Nat.le_refl _) _⟩
end Go.Proofs.Ytdjmejjponlfoab
