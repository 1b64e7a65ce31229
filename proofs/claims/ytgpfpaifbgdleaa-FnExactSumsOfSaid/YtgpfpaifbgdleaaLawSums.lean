/-
  The law on the sums of an order, walked.
-/
import Derived.Test.YtgpfpaifbgdleaaSums
namespace Go.Proofs.Ytgpfpaifbgdleaa
open Go.RowKit Wire

set_option maxHeartbeats 800000 in
set_option maxRecDepth 100000 in
theorem law_SumsOf (A : Option Addr) (n c : Nat) (zs : List Int) (sym id : Int) (w : World) (hl : Lst w w.heap.size 8 A n zs) (hm : n ≤ maxLen) :
    Calls Try.prog 7 #[.slice A n c, .int .i64 sym, .int .i64 id] w fun e w' => e = .returned (.bool true) ∧ Below w.heap.size w w' := by
  unfold maxLen at hm
  by_cases hbig : 1048576 < n
  · go_enter Try.func7, Try.ntmps7
    go_wp2_with fail
    refine (szRecS_any _ _ _ _ _ (by omega) (by omega) (by omega)).mono ?_
    rw [if_pos (by omega)]
    rintro e w' ⟨rfl, rfl⟩
    go_wp2_with fail
    go_ret
    exact ⟨rfl, Below.refl _ _⟩
  · have hn : n ≤ 1048576 := by omega
    have hz := hl.1
    go_enter Try.func7, Try.ntmps7
    go_wp2_with fail
    refine (szRecS_any _ _ _ _ _ (by omega) (by omega) (by omega)).mono ?_
    rw [if_neg (by omega)]
    rintro e w' ⟨rfl, rfl⟩
    go_wp2_with fail
    refine (toRecS_any _ _ _ zs _ hl hn).mono ?_
    rintro e w1 ⟨rfl, hr1, hb1⟩
    have hl1 := hl.later hb1
    have hx1 := Lst.of_row (sz := 8) (zs := zs) (n := n) hr1 (Nat.le_refl _) hz (fun _ _ => rfl)
    clear hr1
    go_wp2_with fail
    obtain ⟨sa, sb, sc, hV⟩ : ∃ sa sb sc : Int, sumsV zs n sym id = .agg #[.int .i64 sa, .int .i64 sb, .int .i64 sc] := by unfold sumsV; split <;> exact ⟨_, _, _, rfl⟩
    have HV := Lib.hid hV
    clear hV
    have hs2 := spec_SumsOf (some ⟨w.heap.size, 0, none⟩) n n zs sym id w1 hx1 hn
    rw [HV.out] at hs2
    refine hs2.mono ?_
    clear hs2
    rintro e w2 ⟨rfl, hb2⟩
    have hl2 := hl1.later hb2
    have hb2 := below_later hb1 hb2
    clear hl1 hx1 hb1
    have hlA := hl2.later ((Below.refl w2.heap.size w2).alloc (Nat.le_refl _) (.cells #[.int .i64 sa, .int .i64 sb, .int .i64 sc] 49))
    have hbA := hb2.alloc hb2.size (.cells #[.int .i64 sa, .int .i64 sb, .int .i64 sc] 49)
    have kW := heap_alloc_new w2 (.cells #[.int .i64 sa, .int .i64 sb, .int .i64 sc] 49)
    have hGs : w2.heap.size < (w2.alloc (.cells #[.int .i64 sa, .int .i64 sb, .int .i64 sc] 49)).heap.size := by simp
    go_wp2_with fail
    generalize hWB : (w2.alloc (.cells #[.int .i64 sa, .int .i64 sb, .int .i64 sc] 49)) = wb at *
    clear hWB hb2 hl2
    generalize w2.heap.size = G at *
    refine (toRecS_any _ _ _ zs _ hlA hn).mono ?_
    rintro e w3 ⟨rfl, hr3, hb3⟩
    have kW := (hb3.block G hGs).trans kW
    have hGs := Nat.lt_of_lt_of_le hGs hb3.size
    have hl3 := hlA.later hb3
    have hx3 := Lst.of_row (sz := 8) (zs := zs) (n := n) hr3 (Nat.le_refl _) hz (fun _ _ => rfl)
    have hb3 := below_later hbA hb3
    clear hr3 hlA hbA
    go_wp2_with fail
    have hs4 := impl_SumsOf (some ⟨wb.heap.size, 0, none⟩) n n zs sym id w3 hx3 hn
    rw [HV.out] at hs4
    refine hs4.mono ?_
    clear hs4
    rintro e w4 ⟨rfl, hb4⟩
    have kW := (hb4.block G hGs).trans kW
    have hGs := Nat.lt_of_lt_of_le hGs hb4.size
    have hl4 := hl3.later hb4
    have hx4 := hx3.later hb4
    have hb4 := below_later hb3 hb4
    clear hl3 hx3 hb3
    have hl5 := hl4.later ((Below.refl w4.heap.size w4).alloc (Nat.le_refl _) (.cells #[.int .i64 sa, .int .i64 sb, .int .i64 sc] 49))
    have hx5 := hx4.later ((Below.refl w4.heap.size w4).alloc (Nat.le_refl _) (.cells #[.int .i64 sa, .int .i64 sb, .int .i64 sc] 49))
    have hb5 := hb4.alloc hb4.size (.cells #[.int .i64 sa, .int .i64 sb, .int .i64 sc] 49)
    have kG := heap_alloc_new w4 (.cells #[.int .i64 sa, .int .i64 sb, .int .i64 sc] 49)
    have kW := (Below.heap_alloc w4 (.cells #[.int .i64 sa, .int .i64 sb, .int .i64 sc] 49) G hGs).trans kW
    obtain ⟨p0, p1, p2, _, _, _⟩ := cell3 kW
    obtain ⟨q0, q1, q2, _, _, _⟩ := cell3 kG
    clear kW kG hl4 hx4 hb4
    go_wp2_with fail
    refine (eqSums_same sa sb sc _).mono ?_
    rintro e w6 ⟨rfl, hb6⟩
    have hl6 := hl5.later hb6
    have hx6 := hx5.later hb6
    have hb6 := below_later hb5 hb6
    clear hl5 hx5 hb5 p0 p1 p2 q0 q1 q2
    go_wp2_with fail
    refine (toRecS_any _ _ _ zs _ hl6 hn).mono ?_
    rintro e w7 ⟨rfl, hr7, hb7⟩
    have hx7 := Lst.of_row (sz := 8) (zs := zs) (n := n) hr7 (Nat.le_refl _) hz (fun _ _ => rfl)
    have hy7 := hx6.later hb7
    have hb7 := below_later hb6 hb7
    clear hr7 hl6 hx6 hb6
    go_wp2_with fail
    refine (eqRecS_same _ _ _ _ _ zs _ hy7 hx7 hn).mono ?_
    rintro e w8 ⟨rfl, hb8⟩
    go_wp2_with fail
    go_ret
    exact ⟨by first | rfl | simp, below_later hb7 hb8⟩
end Go.Proofs.Ytgpfpaifbgdleaa
