/-
  The average price of some trades, in both programs.
-/
import Derived.Test.YteikflfchkmbnaaCndI
namespace Go.Proofs.Yteikflfchkmbnaa
open Go.RowKit Wire

def vwpV (zs : List Int) (n : Nat) : Int := if cndB zs n = true then woA zs n / qtA zs n else 0
set_option maxHeartbeats 800000 in
set_option maxRecDepth 100000 in
theorem spec_Vwap (A : Option Addr) (n c : Nat) (zs : List Int) (w : World) (hl : Lst w w.heap.size 2 A n zs) (hn : n ≤ 1048576) (_hcap : n ≤ c ∧ c ≤ maxLen) :
    Calls Try.prog 34 #[.slice A n c] w fun e w' => e = .returned (.int .i64 (vwpV zs n)) ∧ Below w.heap.size w w' := by
  rcases Bool.eq_false_or_eq_true (cndB zs n) with hb | hb
  · have HN := Lib.hid (cndV_yes hb)
    have HV : Hid (vwpV zs n = woA zs n / qtA zs n) := Lib.hid (by simp [vwpV, hb])
    have hok : 1 ≤ n ∧ trdTo zs n = true := by simp only [cndB, Bool.and_eq_true, decide_eq_true_eq] at hb; exact ⟨hb.1, hb.2.2⟩
    have hle : n ≤ 1000 := by simp only [cndB, Bool.and_eq_true, decide_eq_true_eq] at hb; exact hb.2.1
    obtain ⟨q0, q1⟩ := qtA_le hok.2 n (Nat.le_refl _)
    obtain ⟨z0, z1⟩ := woA_le hok.2 n (Nat.le_refl _)
    obtain ⟨hok1, _⟩ := hok
    go_enter Try.func34, Try.ntmps34
    go_wp2_with fail
    refine (spec_CandleOf _ n c zs _ hl hn).mono ?_
    rw [HN.out]
    rintro e w1 ⟨rfl, hb1⟩
    clear hb
    generalize num zs 0 = u0 at *
    generalize hiA zs n = u1 at *
    generalize loA zs n = u2 at *
    generalize num zs ((n - 1) * 2) = u3 at *
    generalize qtA zs n = u4 at *
    generalize woA zs n = u5 at *
    have hu : 1 ≤ u4 := by omega
    go_wp2_with fail
    go_ret
    exact ⟨by rw [HV.out]; first | rfl | go_num, hb1.alloc hb1.size _⟩
  · have HN := Lib.hid (cndV_no hb)
    have HV : Hid (vwpV zs n = 0) := Lib.hid (by simp [vwpV, hb])
    go_enter Try.func34, Try.ntmps34
    go_wp2_with fail
    refine (spec_CandleOf _ n c zs _ hl hn).mono ?_
    rw [HN.out]
    rintro e w1 ⟨rfl, hb1⟩
    clear hb
    go_wp2_with fail
    go_ret
    exact ⟨by rw [HV.out]; rfl, hb1.alloc hb1.size _⟩
set_option maxHeartbeats 800000 in
set_option maxRecDepth 100000 in
theorem impl_Vwap (A : Option Addr) (n c : Nat) (zs : List Int) (w : World) (hl : Lst w w.heap.size 2 A n zs) (hn : n ≤ 1048576) (hcap : n ≤ c ∧ c ≤ maxLen) :
    Calls Try.prog 33 #[.slice A n c] w fun e w' => e = .returned (.int .i64 (vwpV zs n)) ∧ Below w.heap.size w w' := by
  rcases Bool.eq_false_or_eq_true (cndB zs n) with hb | hb
  · have HN := Lib.hid (cndV_yes hb)
    have HV : Hid (vwpV zs n = woA zs n / qtA zs n) := Lib.hid (by simp [vwpV, hb])
    have hok : 1 ≤ n ∧ trdTo zs n = true := by simp only [cndB, Bool.and_eq_true, decide_eq_true_eq] at hb; exact ⟨hb.1, hb.2.2⟩
    have hle : n ≤ 1000 := by simp only [cndB, Bool.and_eq_true, decide_eq_true_eq] at hb; exact hb.2.1
    obtain ⟨q0, q1⟩ := qtA_le hok.2 n (Nat.le_refl _)
    obtain ⟨z0, z1⟩ := woA_le hok.2 n (Nat.le_refl _)
    obtain ⟨hok1, _⟩ := hok
    go_enter Try.func33, Try.ntmps33
    go_wp2_with fail
    refine (impl_CandleOf _ n c zs _ hl hn hcap).mono ?_
    rw [HN.out]
    rintro e w1 ⟨rfl, hb1⟩
    clear hb
    generalize num zs 0 = u0 at *
    generalize hiA zs n = u1 at *
    generalize loA zs n = u2 at *
    generalize num zs ((n - 1) * 2) = u3 at *
    generalize qtA zs n = u4 at *
    generalize woA zs n = u5 at *
    have hu : 1 ≤ u4 := by omega
    go_wp2_with fail
    go_ret
    exact ⟨by rw [HV.out]; first | rfl | go_num, hb1.alloc hb1.size _⟩
  · have HN := Lib.hid (cndV_no hb)
    have HV : Hid (vwpV zs n = 0) := Lib.hid (by simp [vwpV, hb])
    go_enter Try.func33, Try.ntmps33
    go_wp2_with fail
    refine (impl_CandleOf _ n c zs _ hl hn hcap).mono ?_
    rw [HN.out]
    rintro e w1 ⟨rfl, hb1⟩
    clear hb
    go_wp2_with fail
    go_ret
    exact ⟨by rw [HV.out]; rfl, hb1.alloc hb1.size _⟩
end Go.Proofs.Yteikflfchkmbnaa
