/-
  The exact law of Vwap.
-/
import Derived.Test.YteeggjjjjnebgaaVwp
namespace Go.Proofs.Yteeggjjjjnebgaa
open Go.RowKit Wire

set_option linter.unusedSimpArgs false in
set_option maxHeartbeats 1600000 in
set_option maxRecDepth 100000 in
theorem law_Vwap (A : Option Addr) (n c : Nat) (zs : List Int) (w : World) (hl : Lst w w.heap.size 2 A n zs) (hm : n ≤ maxLen) :
    Calls Try.prog 9 #[.slice A n c] w fun e w' => e = .returned (.bool true) ∧ Below w.heap.size w w' := by
  unfold maxLen at hm
  by_cases hbig : 1048576 < n
  · go_enter Try.func9, Try.ntmps9
    go_wp2_with fail
    refine (szTradeS_any _ _ _ _ _ (by omega) (by omega) (by omega)).mono ?_
    rw [if_pos (by omega)]
    rintro e w' ⟨rfl, rfl⟩
    go_wp2_with fail
    go_ret
    exact ⟨rfl, Below.refl _ _⟩
  · have hn : n ≤ 1048576 := by omega
    have hz := hl.1
    go_enter Try.func9, Try.ntmps9
    go_wp2_with fail
    refine (szTradeS_any _ _ _ _ _ (by omega) (by omega) (by omega)).mono ?_
    rw [if_neg (by omega)]
    rintro e w' ⟨rfl, rfl⟩
    go_wp2_with fail
    refine (toTradeS_any _ _ _ zs _ hl hn).mono ?_
    rintro e w1 ⟨rfl, hr1, hb1⟩
    have hl1 := hl.later hb1
    have hx1 := Lst.of_row (sz := 2) (zs := zs) (n := n) hr1 (Nat.le_refl _) hz (fun _ _ => rfl)
    clear hr1
    go_wp2_with fail
    refine (spec_Vwap _ _ zs _ hx1 hn).mono ?_
    rintro e w2 ⟨rfl, hb2⟩
    have hl2 := hl1.later hb2
    have hb2 := below_later hb1 hb2
    clear hl1 hx1 hb1
    go_wp2_with fail
    refine (toTradeS_any _ _ _ zs _ hl2 hn).mono ?_
    rintro e w3 ⟨rfl, hr3, hb3⟩
    have hl3 := hl2.later hb3
    have hx3 := Lst.of_row (sz := 2) (zs := zs) (n := n) hr3 (Nat.le_refl _) hz (fun _ _ => rfl)
    have hb3 := below_later hb2 hb3
    clear hr3 hl2 hb2
    go_wp2_with fail
    refine (impl_Vwap _ _ zs _ hx3 hn).mono ?_
    rintro e w4 ⟨rfl, hb4⟩
    have hl4 := hl3.later hb4
    have hx4 := hx3.later hb4
    have hb4 := below_later hb3 hb4
    clear hl3 hx3 hb3
    go_wp2_with fail
    refine (toTradeS_any _ _ _ zs _ hl4 hn).mono ?_
    rintro e w5 ⟨rfl, hr5, hb5⟩
    have hx5 := Lst.of_row (sz := 2) (zs := zs) (n := n) hr5 (Nat.le_refl _) hz (fun _ _ => rfl)
    have hy5 := hx4.later hb5
    have hb5 := below_later hb4 hb5
    clear hr5 hl4 hx4 hb4
    go_wp2_with fail
    refine (eqTradeS_same _ _ _ _ _ zs _ hy5 hx5 hn).mono ?_
    rintro e w6 ⟨rfl, hb6⟩
    go_wp2_with fail
    go_ret
    exact ⟨by first | rfl | simp, below_later hb5 hb6⟩
end Go.Proofs.Yteeggjjjjnebgaa
