/-
  The exact laws on a text read piece by piece.
-/
import Derived.Test.YthmoddohkchhfaaSame
import Derived.Test.YthmoddohkchhfaaRd
import Derived.Test.YthmoddohkchhfaaLawInts
namespace Go.Proofs.Ythmoddohkchhfaa
open Go.RowKit Wire

set_option maxHeartbeats 1600000 in
set_option maxRecDepth 100000 in
theorem law_CmdsOf (s : ByteArray) (w : World) (_hm : s.size ≤ maxLen) :
    Calls Try.prog 6 #[.string s] w fun e w' => e = .returned (.bool true) ∧ Below w.heap.size w w' := by
  by_cases hbig : 1048576 < s.size
  · have t0 : decide (1048576 < (s.size : Int)) = true := decide_eq_true (by omega)
    go_enter Try.func6, Try.ntmps6
    go_wp2_with fail
    go_ret
    exact ⟨rfl, Below.refl _ _⟩
  have t0 : decide (1048576 < (s.size : Int)) = false := decide_eq_false (by omega)
  go_enter Try.func6, Try.ntmps6
  go_wp2_with fail
  refine (spec_CmdsOf_F rdCmd (fun t w ht => spec_rdCmd t w (by unfold maxLen; omega)) s w (by omega)).mono ?_
  rintro e w1 ⟨v0, rfl, ho0, hb1⟩
  obtain ⟨A0, d0, rfl, _, _⟩ := own_slice ho0
  go_wp2_with fail
  refine (impl_CmdsOf_F rdCmd (fun t w ht => impl_rdCmd t w (by unfold maxLen; omega)) s w1 (by omega)).mono ?_
  rintro e w2 ⟨v1, rfl, ho1, hb2⟩
  have hN : nfr s ≤ 1048576 := by unfold nfr; omega
  obtain ⟨A1, d1, rfl, _, _⟩ := own_slice ho1
  have hL0 := Lst.of_own ho0
  have hL1 := Lst.of_own ho1
  go_wp2_with fail
  refine (eqCmdS_same A1 A0 (nfr s) d1 d0 _ w2 hL1 (hL0.later hb2) hN).mono ?_
  rintro e w3 ⟨rfl, hb3⟩
  have ho3 := own_below ho1 hb3
  have hb13 := below_later' hb2 hb3
  have hb03 := below_later' hb1 hb13
  have hL03 := hL0.below hb13
  clear hL1
  go_wp2_with fail
  refine (markCmdS_any _ _ _ _ w3 ho3 hN).mono ?_
  rintro e w4 ⟨rfl, hM, hg⟩
  have hb04 : Below w.heap.size w w4 := hb03.grown hg hb03.size (fun q hq => Nat.le_trans hb1.size (ho3.lt q hq).1)
  have hL04 := hL03.grown hg hb13.size (fun q hq => (ho3.lt q hq).1)
  have hsz4 : w1.heap.size ≤ w4.heap.size := Nat.le_trans hb13.size hg.size
  clear hL0 hL03 hg ho3 ho1 ho0 hb1 hb2 hb3 hb13 hb03
  go_wp2_with fail
  refine (heldCmdS_any _ _ w4 hM hN).mono ?_
  rintro e w5 ⟨rfl, rfl⟩
  go_wp2_with fail
  refine (impl_CmdsOf_F rdCmd (fun t w ht => impl_rdCmd t w (by unfold maxLen; omega)) s w5 (by omega)).mono ?_
  rintro e w6 ⟨v2, rfl, ho2, hb6⟩
  obtain ⟨A2, d2, rfl, _, _⟩ := own_slice ho2
  have hL2 := Lst.of_own ho2
  have hL06 := (hL04.more hsz4).later hb6
  have hM6 := hM.below hb6
  have hb06 := below_later' hb04 hb6
  clear hL04 hM hb04 hb6
  go_wp2_with fail
  refine (eqCmdS_same A2 A0 (nfr s) d2 d0 _ w6 hL2 hL06 hN).mono ?_
  rintro e w7 ⟨rfl, hb7⟩
  have hM7 := hM6.below hb7
  have hb07 := below_later' hb06 hb7
  clear hL2 hL06 hM6 hb06 hb7
  go_wp2_with fail
  refine (heldCmdS_any _ _ w7 hM7 hN).mono ?_
  rintro e w8 ⟨rfl, rfl⟩
  go_wp2_with fail
  go_ret
  exact ⟨by first | rfl | simp, hb07⟩
end Go.Proofs.Ythmoddohkchhfaa
