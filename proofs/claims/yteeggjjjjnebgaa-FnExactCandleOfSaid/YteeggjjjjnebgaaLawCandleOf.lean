/-
  The exact law of CandleOf.
-/
import Derived.Test.YteeggjjjjnebgaaCndI
namespace Go.Proofs.Yteeggjjjjnebgaa
open Go.RowKit Wire

set_option linter.unusedSimpArgs false in
set_option maxHeartbeats 1600000 in
set_option maxRecDepth 100000 in
theorem law_CandleOf (A : Option Addr) (n c : Nat) (zs : List Int) (w : World) (hl : Lst w w.heap.size 2 A n zs) (hm : n ≤ maxLen) :
    Calls Try.prog 6 #[.slice A n c] w fun e w' => e = .returned (.bool true) ∧ Below w.heap.size w w' := by
  unfold maxLen at hm
  by_cases hbig : 1048576 < n
  · go_enter Try.func6, Try.ntmps6
    go_wp2_with fail
    refine (szTradeS_any _ _ _ _ _ (by omega) (by omega) (by omega)).mono ?_
    rw [if_pos (by omega)]
    rintro e w' ⟨rfl, rfl⟩
    go_wp2_with fail
    go_ret
    exact ⟨rfl, Below.refl _ _⟩
  have hn : n ≤ 1048576 := by omega
  have hz := hl.1
  obtain ⟨u0, u1, u2, u3, u4, u5, ub, hv⟩ : ∃ (u0 u1 u2 u3 u4 u5 : Int) (ub : Bool), cndV zs n = .tuple #[.agg #[.int .i64 u0, .int .i64 u1, .int .i64 u2, .int .i64 u3, .int .i64 u4, .int .i64 u5], .bool ub] := ⟨_, _, _, _, _, _, _, rfl⟩
  have HV := Lib.hid hv
  clear hv
  go_enter Try.func6, Try.ntmps6
  go_wp2_with fail
  refine (szTradeS_any _ _ _ _ _ (by omega) (by omega) (by omega)).mono ?_
  rw [if_neg (by omega)]
  rintro e w' ⟨rfl, rfl⟩
  go_wp2_with fail
  refine (toTradeS_any _ _ _ zs _ hl hn).mono ?_
  rintro e w1 ⟨rfl, hr1, hb1⟩
  have hl1 := hl.later hb1
  have hx1 := Lst.of_row (sz := 2) (zs := zs) (n := n) hr1 (Nat.le_refl _) hz (fun _ _ => rfl)
  clear hr1
  go_wp2_with fail
  refine (spec_CandleOf _ n n zs _ hx1 hn).mono ?_
  rw [HV.out]
  rintro e w2 ⟨rfl, hb2⟩
  have hb2' := hb2.alloc hb2.size (.cells #[.int .i64 u0, .int .i64 u1, .int .i64 u2, .int .i64 u3, .int .i64 u4, .int .i64 u5] 46)
  have hl2 := hl1.later hb2'
  have k1 := heap_alloc_new w2 (.cells #[.int .i64 u0, .int .i64 u1, .int .i64 u2, .int .i64 u3, .int .i64 u4, .int .i64 u5] 46)
  have hB2 := below_later hb1 hb2'
  clear hl1 hx1 hb1 hb2 hb2'
  go_wp2_with fail
  generalize w2.alloc (.cells #[.int .i64 u0, .int .i64 u1, .int .i64 u2, .int .i64 u3, .int .i64 u4, .int .i64 u5] 46) = w2' at *
  generalize w2.heap.size = G1 at *
  refine (toTradeS_any _ _ _ zs _ hl2 hn).mono ?_
  rintro e w3 ⟨rfl, hr3, hb3⟩
  have hl3 := hl2.later hb3
  have hx3 := Lst.of_row (sz := 2) (zs := zs) (n := n) hr3 (Nat.le_refl _) hz (fun _ _ => rfl)
  have k1 := (hb3.block G1 (heap_lt' k1)).trans k1
  have hB3 := below_later hB2 hb3
  clear hr3 hl2 hB2 hb3
  go_wp2_with fail
  refine (impl_CandleOf _ n zs _ hx3 hn).mono ?_
  rw [HV.out]
  rintro e w4 ⟨rfl, hb4⟩
  have hb4' := hb4.alloc hb4.size (.cells #[.int .i64 u0, .int .i64 u1, .int .i64 u2, .int .i64 u3, .int .i64 u4, .int .i64 u5] 46)
  have hl4 := hl3.later hb4'
  have hx4 := hx3.later hb4'
  have k1 := (hb4'.block G1 (heap_lt' k1)).trans k1
  have k2 := heap_alloc_new w4 (.cells #[.int .i64 u0, .int .i64 u1, .int .i64 u2, .int .i64 u3, .int .i64 u4, .int .i64 u5] 46)
  have hB4 := below_later hB3 hb4'
  clear hl3 hx3 hB3 hb4 hb4'
  obtain ⟨c0, c1, c2, c3, c4, c5⟩ := cell6 k1
  go_wp2_with fail
  generalize w4.alloc (.cells #[.int .i64 u0, .int .i64 u1, .int .i64 u2, .int .i64 u3, .int .i64 u4, .int .i64 u5] 46) = w4' at *
  generalize w4.heap.size = G2 at *
  clear c0 c1 c2 c3 c4 c5
  refine (eqCandle_one _ _ _ _ _ _ _).mono ?_
  rintro e w5 ⟨rfl, hb5⟩
  have hl5 := hl4.later hb5
  have hx5 := hx4.later hb5
  have hB5 := below_later hB4 hb5
  clear hl4 hx4 hB4 hb5 k1 k2
  go_wp2_with fail
  refine (toTradeS_any _ _ _ zs _ hl5 hn).mono ?_
  rintro e w6 ⟨rfl, hr6, hb6⟩
  have hx6 := Lst.of_row (sz := 2) (zs := zs) (n := n) hr6 (Nat.le_refl _) hz (fun _ _ => rfl)
  have hy6 := hx5.later hb6
  have hB6 := below_later hB5 hb6
  clear hr6 hl5 hx5 hB5 hb6
  go_wp2_with fail
  refine (eqTradeS_same _ _ _ _ _ zs _ hy6 hx6 hn).mono ?_
  rintro e w7 ⟨rfl, hb7⟩
  go_wp2_with fail
  go_ret
  exact ⟨by first | rfl | simp, below_later hB6 hb7⟩
end Go.Proofs.Yteeggjjjjnebgaa
