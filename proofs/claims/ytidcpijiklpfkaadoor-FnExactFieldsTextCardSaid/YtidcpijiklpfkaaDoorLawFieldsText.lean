/-
  The exact law of FieldsText.
-/
import Derived.Test.YtidcpijiklpfkaaDoorFlText
namespace Go.Proofs.YtidcpijiklpfkaaDoor
open Go.RowKit Wire

set_option linter.unusedSimpArgs false in
set_option maxHeartbeats 1600000 in
set_option maxRecDepth 100000 in
theorem law_FieldsText (A : Option Addr) (n c : Nat) (fs : List (Int × ByteArray)) (w : World) (hl : Flds w w.heap.size A n fs) (hs : ∀ k, k < n → (fV fs k).size ≤ maxLen) (hm : n ≤ maxLen) (hL : laidMetH Tryd.prog Rows.fnExactFieldsTextRow.laid w) :
    Calls Tryd.prog 3 #[.slice A n c] w fun e w' => e = .returned (.bool true) ∧ Below w.heap.size w w' := by
  have htab := tab_laid hL
  clear hL
  obtain ⟨X, hX⟩ : ∃ X, txV fs n = X := ⟨_, rfl⟩
  have HX := Lib.hid hX
  clear hX
  go_enter Tryd.func3, Tryd.ntmps3
  go_wp2_with fail
  refine (szFieldS_any _ _ _ _ _ hl hs hm).mono ?_
  rintro e w0 ⟨⟨z, rfl, hz⟩, hb0⟩
  rcases hz with rfl | ⟨hz0, hz1, hn, -⟩
  · go_wp2_with fail
    go_ret
    exact ⟨rfl, hb0⟩
  have hl0 := hl.later hb0
  have hz2 : decide (z < 0) = false := decide_eq_false (by omega)
  go_wp2_with fail
  refine (toFieldS_any _ _ _ fs _ hl0 hn).mono ?_
  rintro e w1 ⟨rfl, hr1, hb1⟩
  have hl1 := hl0.later hb1
  have hx1 := Flds.of_row (fs := fs) (n := n) hr1 (Nat.le_refl _) (fun _ _ => rfl)
  have hB1 := below_later hb0 hb1
  clear hr1 hl0 hb0 hb1
  go_wp2_with fail
  refine (spec_FieldsText _ _ _ fs _ hx1 hs hn).mono ?_
  rw [HX.out]
  rintro e w2 ⟨rfl, hb2⟩
  have hl1 := hl1.later hb2
  have hB1 := below_later hB1 hb2
  clear hx1 hb2
  go_wp2_with fail
  refine (toFieldS_any _ _ _ fs _ hl1 hn).mono ?_
  rintro e w3 ⟨rfl, hr3, hb3⟩
  have hl3 := hl1.later hb3
  have hx3 := Flds.of_row (fs := fs) (n := n) hr3 (Nat.le_refl _) (fun _ _ => rfl)
  have hB3 := below_later hB1 hb3
  clear hr3 hl1 hB1 hb3
  go_wp2_with fail
  refine (impl_FieldsText _ _ _ fs _ hx3 hs hn (tab_below htab hB3)).mono ?_
  rw [HX.out]
  rintro e w4 ⟨rfl, hb4⟩
  have hl4 := hl3.later hb4
  have hx4 := hx3.later hb4
  have hB4 := below_later hB3 hb4
  clear hl3 hx3 hB3 hb4
  go_wp2_with fail
  refine (toFieldS_any _ _ _ fs _ hl4 hn).mono ?_
  rintro e w5 ⟨rfl, hr5, hb5⟩
  have hx5 := Flds.of_row (fs := fs) (n := n) hr5 (Nat.le_refl _) (fun _ _ => rfl)
  have hy5 := hx4.later hb5
  have hB5 := below_later hB4 hb5
  clear hr5 hl4 hx4 hB4 hb5
  go_wp2_with fail
  refine (eqFieldS_same _ _ _ _ _ fs _ hy5 hx5 hn).mono ?_
  rintro e w6 ⟨rfl, hb6⟩
  go_wp2_with fail
  go_ret
  exact ⟨by first | rfl | simp, below_later hB5 hb6⟩
end Go.Proofs.YtidcpijiklpfkaaDoor
