/-
  The gap at a price, as the laws count it.
-/
import Derived.Test.YtfodkefaflpicabAucP
namespace Go.Proofs.Ytfodkefaflpicab
open Go.RowKit Wire

theorem met_buy {zs : List Int} {k : Nat} {p : Int} (h : ordB zs k = true) : metB 1 (num zs (k * 4 + 2)) p = decide (p ≤ num zs (k * 4 + 2)) := by
  have h1 : 1 ≤ num zs (k * 4 + 2) := by simp [ordB, inB] at h; omega
  simp only [metB, betB]
  rw [beq_eq_false_iff_ne.2 (by omega)]
  rw [Bool.eq_iff_iff]
  first | (simp; done) | (simp; omega)
theorem met_sell {zs : List Int} {k : Nat} {p : Int} (h : ordB zs k = true) : metB 2 (num zs (k * 4 + 2)) p = decide (num zs (k * 4 + 2) ≤ p) := by
  have h1 : 1 ≤ num zs (k * 4 + 2) := by simp [ordB, inB] at h; omega
  simp only [metB, betB]
  rw [beq_eq_false_iff_ne.2 (by omega)]
  rw [Bool.eq_iff_iff]
  first | (simp; done) | (simp; omega)
set_option linter.unusedSimpArgs false in
set_option maxHeartbeats 3200000 in
set_option maxRecDepth 100000 in
theorem laws_gap (A : Option Addr) (n c : Nat) (za : List Int) (B : Option Addr) (m d : Nat) (zb : List Int) (p : Int) (w : World) (hl : Lst w w.heap.size 4 A n za) (hn : n ≤ 60) (hoa : allO za n = true) (hr : Lst w w.heap.size 4 B m zb) (hm : m ≤ 60) (hob : allO zb m = true) :
    Calls Try.prog 15 #[.slice A n c, .slice B m d, .int .i64 p] w fun e w' => e = .returned (.int .i64 (avG za zb n m p)) ∧ Below w.heap.size w w' := by
  have HOA := Lib.hid hoa
  have HOB := Lib.hid hob
  obtain ⟨s0, s1⟩ := sumW_le (side := 1) (p := p) hoa n (Nat.le_refl _)
  clear hoa hob
  go_enter Try.func15, Try.ntmps15
  go_wp2_with fail
  go_loopw [7, 8] (fun q i wr => ∃ k : Nat, k ≤ n ∧ i = .int .i64 (k : Int) ∧ q = .int .i64 (sumW 1 za p k) ∧ Below w.heap.size w wr) (fun _ i _ => n - (intOf i).toNat)
  case atStart => exact ⟨0, Nat.zero_le _, rfl, rfl, Below.refl _ _⟩
  case round =>
    obtain ⟨k, hk, rfl, rfl, hbel⟩ := hrel
    by_cases hlt : k < n
    · obtain ⟨b, o, rfl, hb, c0, c1, c2, c3⟩ := (hl.below hbel).row4 hlt
      clear hl
      have ho := allO_at n k HOA.out hlt
      obtain ⟨u0, u1⟩ := sumW_le (side := 1) (p := p) HOA.out k hk
      obtain ⟨q0, q1⟩ := ordB_qty ho
      have HS := Lib.hid (show sumW 1 za p (k + 1) = sumW 1 za p k + if metB 1 (num za (k * 4 + 2)) p = true then num za (k * 4 + 3) else 0 from rfl)
      have HM := Lib.hid (met_buy (p := p) ho)
      clear ho
      by_cases hp : p ≤ num za (k * 4 + 2)
      · have HE := Lib.hid (show sumW 1 za p (k + 1) = sumW 1 za p k + num za (k * 4 + 3) by rw [HS.out, HM.out]; simp [hp])
        go_wp2_with fail
        go_roundw
        case rel => exact ⟨k + 1, by omega, by go_num, by first | (rw [HE.out]; done) | (rw [HE.out]; go_num), hbel⟩
        case measure => simp [intOf]; omega
      · have HE := Lib.hid (show sumW 1 za p (k + 1) = sumW 1 za p k by rw [HS.out, HM.out]; simp [hp])
        go_wp2_with fail
        go_roundw
        case rel => exact ⟨k + 1, by omega, by go_num, by rw [HE.out], hbel⟩
        case measure => simp [intOf]; omega
    · obtain rfl : k = n := by omega
      clear hl
      go_wp2_with fail
      go_loopw [7, 9] (fun q i wr => ∃ j : Nat, j ≤ m ∧ i = .int .i64 (j : Int) ∧ q = .int .i64 (sumW 1 za p k - sumW 2 zb p j) ∧ Below w.heap.size w wr) (fun _ i _ => m - (intOf i).toNat)
      case atStart => exact ⟨0, Nat.zero_le _, rfl, by simp [sumW], hbel⟩
      case round =>
        obtain ⟨j, hj, rfl, rfl, hbel⟩ := hrel
        by_cases hlt2 : j < m
        · obtain ⟨b, o, rfl, hb, c0, c1, c2, c3⟩ := (hr.below hbel).row4 hlt2
          clear hr
          have ho := allO_at m j HOB.out hlt2
          obtain ⟨u0, u1⟩ := sumW_le (side := 2) (p := p) HOB.out j hj
          obtain ⟨q0, q1⟩ := ordB_qty ho
          have HS := Lib.hid (show sumW 2 zb p (j + 1) = sumW 2 zb p j + if metB 2 (num zb (j * 4 + 2)) p = true then num zb (j * 4 + 3) else 0 from rfl)
          have HM := Lib.hid (met_sell (p := p) ho)
          clear ho
          by_cases hp : num zb (j * 4 + 2) ≤ p
          · have HE := Lib.hid (show sumW 2 zb p (j + 1) = sumW 2 zb p j + num zb (j * 4 + 3) by rw [HS.out, HM.out]; simp [hp])
            go_wp2_with fail
            go_roundw
            case rel => exact ⟨j + 1, by omega, by go_num, by rw [HE.out]; exact congrArg _ (by omega), hbel⟩
            case measure => simp [intOf]; omega
          · have HE := Lib.hid (show sumW 2 zb p (j + 1) = sumW 2 zb p j by rw [HS.out, HM.out]; simp [hp])
            go_wp2_with fail
            go_roundw
            case rel => exact ⟨j + 1, by omega, by go_num, by rw [HE.out], hbel⟩
            case measure => simp [intOf]; omega
        · obtain rfl : j = m := by omega
          clear hr
          obtain ⟨u0, u1⟩ := sumW_le (side := 2) (p := p) HOB.out j (Nat.le_refl _)
          have HN := Lib.hid (show avG za zb k j p = max (sumW 1 za p k - sumW 2 zb p j) (-(sumW 1 za p k - sumW 2 zb p j)) by unfold avG; omega)
          go_wp2_with fail
          all_goals
            go_ret
            refine ⟨?_, hbel⟩
            rw [HN.out]
            refine congrArg (fun z => Ending.returned (.int .i64 z)) ?_
            omega
end Go.Proofs.Ytfodkefaflpicab
