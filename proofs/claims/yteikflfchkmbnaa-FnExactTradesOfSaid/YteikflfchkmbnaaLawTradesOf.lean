/-
  The exact law of TradesOf.
-/
import Derived.Test.YteikflfchkmbnaaTrOfI
import Derived.Test.YteikflfchkmbnaaMark
import Derived.Test.YteikflfchkmbnaaPod
namespace Go.Proofs.Yteikflfchkmbnaa
open Go.RowKit Wire

theorem trM_le (zs : List Int) (sym : Int) (n : Nat) : trM zs sym n ≤ n := by
  unfold trM
  have := trN_le zs sym n
  split <;> omega
set_option linter.unusedSimpArgs false in
set_option maxHeartbeats 3200000 in
set_option maxRecDepth 100000 in
theorem law_TradesOf (A : Option Addr) (n c : Nat) (za : List Int) (sym : Int) (w : World) (hl : Lst w w.heap.size 8 A n za) (hnm : n ≤ maxLen) :
    Calls Try.prog 10 #[.slice A n c, .int .i64 sym] w fun e w' => e = .returned (.bool true) ∧ Below w.heap.size w w' := by
  unfold maxLen at hnm
  by_cases h1 : 1048576 < n
  · go_enter Try.func10, Try.ntmps10
    go_wp2_with fail
    refine (szRecS_any _ _ _ _ _ (by omega) (by omega) (by omega)).mono ?_
    rw [if_pos (by omega)]
    rintro e w' ⟨rfl, rfl⟩
    go_wp2_with fail
    go_ret
    exact ⟨rfl, Below.refl _ _⟩
  have hn : n ≤ 1048576 := by omega
  obtain ⟨L, hL, hL2, hL3⟩ : ∃ L : Int, (1048576 : Int) - (n : Int) = L ∧ 0 ≤ L ∧ L ≤ 1048576 := ⟨_, rfl, by omega, by omega⟩
  have hN1 := Nat.le_trans (trM_le za sym n) hn
  have HL := Lib.hid hL
  clear hL
  have hza := hl.1
  go_enter Try.func10, Try.ntmps10
  go_wp2_with fail
  refine (szRecS_any _ _ _ _ _ (by omega) (by omega) (by omega)).mono ?_
  rw [if_neg (by omega), HL.out]
  rintro e w' ⟨rfl, rfl⟩
  clear h1
  have hB : Below w.heap.size w w := Below.refl _ _
  have hl0 := hl
  have HS := Lib.hid (fun A c w hl => spec_TradesOf A n c za sym w hl hn)
  have HI := Lib.hid (fun A c w hl => impl_TradesOf A n c za sym w hl hn)
  generalize trV za sym n = Z at HS HI
  generalize trM za sym n = N at HS HI hN1
  go_wp2_with fail
  refine (toRecS_any _ _ _ za _ hl hn).mono ?_
  rintro e w1 ⟨rfl, R1, hb1⟩
  replace hl := hl.later hb1
  replace hB := below_later hB hb1
  have hx1 := Lst.of_row (sz := 8) (zs := za) (n := n) R1 (Nat.le_refl _) hza (fun _ _ => rfl)
  clear hb1 R1
  go_wp2_with fail
  refine (HS.out _ _ _ hx1).mono ?_
  rintro e w3 ⟨vW, rfl, OW, hb3⟩
  obtain ⟨AW, dW, rfl, _, _⟩ := own_slice OW
  have sW := OW.lt
  have s23 := hb3.size
  clear hx1
  replace hl := hl.later hb3
  replace hB := below_later hB hb3
  have low3 := hB.size
  clear hb3
  go_wp2_with fail
  refine (toRecS_any _ _ _ za _ hl hn).mono ?_
  rintro e w4 ⟨rfl, R4, hb4⟩
  replace hl := hl.later hb4
  replace OW := own_below OW hb4
  replace hB := below_later hB hb4
  have hx4 := Lst.of_row (sz := 8) (zs := za) (n := n) R4 (Nat.le_refl _) hza (fun _ _ => rfl)
  have s34 := hb4.size
  have l4 := R4.lt
  clear hb4
  go_wp2_with fail
  refine (HI.out _ _ _ hx4).mono ?_
  rintro e w6 ⟨vG, rfl, OG, hb6⟩
  obtain ⟨AG, dG, rfl, _, _⟩ := own_slice OG
  have sG := OG.lt
  replace hl := hl.later hb6
  replace OW := own_below OW hb6
  replace R4 := R4.of_block (hb6.block _ R4.lt)
  replace hx4 := hx4.later hb6
  replace hB := below_later hB hb6
  clear hb6
  go_wp2_with fail
  refine (eqTradeS_same AG AW N dG dW Z _ (Lst.of_own OG) (Lst.of_own OW) hN1).mono ?_
  rintro e w7 ⟨rfl, hb7⟩
  replace hl := hl.later hb7
  replace OW := own_below OW hb7
  replace R4 := R4.of_block (hb7.block _ R4.lt)
  replace hx4 := hx4.later hb7
  replace OG := own_below OG hb7
  replace hB := below_later hB hb7
  clear hb7
  go_wp2_with fail
  refine (toRecS_any _ _ _ za _ hl hn).mono ?_
  rintro e w8 ⟨rfl, R8, hb8⟩
  replace hl := hl.later hb8
  replace OW := own_below OW hb8
  replace R4 := R4.of_block (hb8.block _ R4.lt)
  replace hx4 := hx4.later hb8
  replace OG := own_below OG hb8
  replace hB := below_later hB hb8
  have hx8 := Lst.of_row (sz := 8) (zs := za) (n := n) R8 (Nat.le_refl _) hza (fun _ _ => rfl)
  clear hb8 R8
  go_wp2_with fail
  refine (eqRecS_same _ _ _ _ _ za _ hx4 hx8 hn).mono ?_
  rintro e w9 ⟨rfl, hb9⟩
  replace hl := hl.later hb9
  replace OW := own_below OW hb9
  replace R4 := R4.of_block (hb9.block _ R4.lt)
  replace hx4 := hx4.later hb9
  replace OG := own_below OG hb9
  replace hx8 := hx8.later hb9
  replace hB := below_later hB hb9
  clear hb9 hx4 hx8
  clear hl
  go_wp2_with fail
  refine (markRecS_own _ n n (n * 8) _ _ R4 (Nat.le_refl _) hn).mono ?_
  rintro e w12 ⟨rfl, _, hg⟩
  have hBs := hB.size
  replace hB := hB.grown hg hBs (fun q hq => by cases hq; exact low3)
  replace OW := OW.kept hg (.inr (fun e => by have := (sW _ e).2; omega))
  replace OG := OG.kept hg (.inr (fun e => by have := (sG _ e).1; omega))
  clear hg hBs R4
  have hk0 : decide ((n : Int) * 8 + 1 < 0) = false := decide_eq_false (by omega)
  go_wp2_with fail
  refine (eqTradeS_same AG AW N dG dW Z _ (Lst.of_own OG) (Lst.of_own OW) hN1).mono ?_
  rintro e w14 ⟨rfl, hb14⟩
  replace OW := own_below OW hb14
  replace OG := own_below OG hb14
  replace hB := below_later hB hb14
  clear hb14
  go_wp2_with fail
  refine (markTradeS_any _ (.slice AG N dG) N (nums Z) _ OG hN1).mono ?_
  rintro e w15 ⟨rfl, MG, hg⟩
  have hBs := hB.size
  replace hB := hB.grown hg hBs (fun q hq => by have := (sG q hq).1; omega)
  replace OW := OW.kept hg (by
    cases hq : (Value.slice AW N dW).ownBlock with
    | none => exact .inl rfl
    | some q => exact .inr (fun e => by have a := (sW q hq).2; have b := (sG q e.symm).1; omega))
  clear hg hBs OG
  have ht0 : decide ((N : Int) * 2 + 1 < 0) = false := decide_eq_false (by omega)
  go_wp2_with fail
  refine (heldTradeS_any _ N _ MG hN1).mono ?_
  rintro e w16 ⟨rfl, rfl⟩
  have hl : Lst w16 w16.heap.size 8 A n za := (hl0.below hB).more hB.size
  go_wp2_with fail
  refine (toRecS_any _ _ _ za _ hl hn).mono ?_
  rintro e w17 ⟨rfl, R17, hb17⟩
  replace OW := own_below OW hb17
  replace MG := MG.below hb17
  replace hl := hl.later hb17
  replace hB := below_later hB hb17
  have hx17 := Lst.of_row (sz := 8) (zs := za) (n := n) R17 (Nat.le_refl _) hza (fun _ _ => rfl)
  clear hb17 R17
  go_wp2_with fail
  refine (HI.out _ _ _ hx17).mono ?_
  rintro e w19 ⟨vH, rfl, OH, hb19⟩
  obtain ⟨AH, dH, rfl, _, _⟩ := own_slice OH
  clear hx17
  replace OW := own_below OW hb19
  replace MG := MG.below hb19
  replace hB := below_later hB hb19
  clear hb19 hl
  go_wp2_with fail
  refine (eqTradeS_same AH AW N dH dW Z _ (Lst.of_own OH) (Lst.of_own OW) hN1).mono ?_
  rintro e w20 ⟨rfl, hb20⟩
  replace OW := own_below OW hb20
  replace MG := MG.below hb20
  replace OH := own_below OH hb20
  replace hB := below_later hB hb20
  clear hb20
  go_wp2_with fail
  refine (heldTradeS_any _ N _ MG hN1).mono ?_
  rintro e w21 ⟨rfl, rfl⟩
  clear OW OH MG
  go_wp2_with fail
  go_ret
  exact ⟨by first | rfl | simp, hB⟩
end Go.Proofs.Yteikflfchkmbnaa
