/-
  The exact law of TakeFrames.
-/
import Derived.Test.YtfhjdelokhibhaaTakeS
import Derived.Test.YtfhjdelokhibhaaTakeFI
import Derived.Test.YtfhjdelokhibhaaStrL
namespace Go.Proofs.Ytfhjdelokhibhaa
open Go.RowKit Wire

theorem stF_len (s : ByteArray) : ∀ k, (stF s k).1.length ≤ k
  | 0 => Nat.le_refl _
  | k + 1 => by
    have h := stF_len s k
    rw [stF]
    split
    · simp; omega
    · omega
set_option maxHeartbeats 1600000 in
set_option maxRecDepth 100000 in
theorem law_TakeFrames (s : ByteArray) (w : World) (_hm : s.size ≤ maxLen) :
    Calls Try.prog 10 #[.string s] w fun e w' => e = .returned (.bool true) ∧ Below w.heap.size w w' := by
  by_cases hbig : 1048576 < s.size
  · have t0 : decide (1048576 < (s.size : Int)) = true := decide_eq_true (by omega)
    go_enter Try.func10, Try.ntmps10
    go_wp2_with fail
    go_ret
    exact ⟨rfl, Below.refl _ _⟩
  have t0 : decide (1048576 < (s.size : Int)) = false := decide_eq_false (by omega)
  have HS := Lib.hid (fun w => spec_TakeFrames s w (by omega))
  have HI := Lib.hid (fun w => impl_TakeFrames s w (by omega))
  have hN : (allF s).1.length ≤ 1048576 := Nat.le_trans (stF_len s s.size) (by omega)
  generalize allF s = r at *
  obtain ⟨l, at_⟩ := r
  simp only at hN HS HI
  obtain ⟨n, hn⟩ : ∃ n, l.length = n := ⟨_, rfl⟩
  rw [hn] at hN HS HI
  clear hn
  go_enter Try.func10, Try.ntmps10
  go_wp2_with fail
  refine (HS.out w).mono ?_
  rintro e w1 ⟨v0, rfl, ho0, hb1⟩
  obtain ⟨A0, d0, rfl, _, _⟩ := own_slice ho0
  go_wp2_with fail
  refine (HI.out w1).mono ?_
  rintro e w2 ⟨v1, rfl, ho1, hb2⟩
  obtain ⟨A1, d1, rfl, _, _⟩ := own_slice ho1
  have hL0 : SRow w1 w1.heap.size A0 n l := SRow.of_own ho0
  have hL1 : SRow w2 w2.heap.size A1 n l := SRow.of_own ho1
  go_wp2_with fail
  refine (eqStringS_same A1 A0 n d1 d0 l w2 hL1 ((hL0.below (Nat.le_refl _) hb2).more hb2.size) hN).mono ?_
  rintro e w3 ⟨rfl, hb3⟩
  have ho3 := own_below ho1 hb3
  have hb13 := below_later hb2 hb3
  have hb03 := below_later hb1 hb13
  have hL03 := hL0.below (Nat.le_refl _) hb13
  clear hL1
  go_wp2_with fail
  refine (markStringS_any _ _ _ _ w3 ho3 hN).mono ?_
  rintro e w4 ⟨rfl, hM, hg⟩
  have hb04 : Below w.heap.size w w4 := hb03.grown hg hb03.size (fun q hq => Nat.le_trans hb1.size (ho3.lt q hq).1)
  have hL04 := hL03.grown hg hb13.size (fun q hq => (ho3.lt q hq).1)
  have hsz4 : w1.heap.size ≤ w4.heap.size := Nat.le_trans hb13.size hg.size
  clear hL0 hL03 hg ho3 ho1 ho0 hb1 hb2 hb3 hb13 hb03
  go_wp2_with fail
  refine (heldStringS_any _ _ w4 hM hN).mono ?_
  rintro e w5 ⟨rfl, hb5⟩
  have hM5 := hM.below hb5
  have hL05 := (hL04.more hsz4).below (Nat.le_refl _) hb5
  have hb05 := below_later hb04 hb5
  have hsz5 := hb5.size
  clear hL04 hb04 hb5 hM
  go_wp2_with fail
  refine (HI.out w5).mono ?_
  rintro e w6 ⟨v2, rfl, ho2, hb6⟩
  obtain ⟨A2, d2, rfl, _, _⟩ := own_slice ho2
  have hL2 : SRow w6 w6.heap.size A2 n l := SRow.of_own ho2
  have hL06 := ((hL05.more hsz5).below (Nat.le_refl _) hb6).more hb6.size
  have hM6 := hM5.below hb6
  have hb06 := below_later hb05 hb6
  clear hL05 hM5 hb05 hb6
  go_wp2_with fail
  refine (eqStringS_same A2 A0 n d2 d0 l w6 hL2 hL06 hN).mono ?_
  rintro e w7 ⟨rfl, hb7⟩
  have hM7 := hM6.below hb7
  have hb07 := below_later hb06 hb7
  clear hL2 hL06 hM6 hb06 hb7
  go_wp2_with fail
  refine (heldStringS_any _ _ w7 hM7 hN).mono ?_
  rintro e w8 ⟨rfl, hb8⟩
  have hb08 := below_later hb07 hb8
  go_wp2_with fail
  go_ret
  exact ⟨by first | rfl | simp, hb08⟩
end Go.Proofs.Ytfhjdelokhibhaa
