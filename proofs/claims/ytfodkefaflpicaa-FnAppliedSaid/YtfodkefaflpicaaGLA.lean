/-
  LawDepthDelta, LawDepthApplied.
-/
import Derived.Test.YtfodkefaflpicaaDeltP
import Derived.Test.YtfodkefaflpicaaGAI
namespace Go.Proofs.Ytfodkefaflpicaa
open Go.RowKit Wire

set_option maxHeartbeats 1600000 in
set_option maxRecDepth 100000 in
theorem markLevelS_from (g n cap M : Nat) (K0 : Int) (f : Nat → Value) (w : World) (hr : w.rowIs g 94 M f) (hn : n * 3 ≤ M) (hb : n ≤ 1048576) (hK0 : 0 ≤ K0) (hK : K0 ≤ 16777216) :
    Calls Try.prog 28 #[.slice (some ⟨g, 0, none⟩) n cap, .int .i64 K0] w fun e w' => (∃ z : Int, 0 ≤ z ∧ z ≤ K0 + 3145728 ∧ e = .returned (.int .i64 z)) ∧ w.grownBy w' (some g) := by
  go_enter Try.func28, Try.ntmps28
  go_wp2_with fail
  go_loopw [1, 5] (fun kv i wr => ∃ k : Nat, k ≤ n ∧ i = .int .i64 (k : Int) ∧ kv = .int .i64 (K0 + (k : Int) * 3) ∧ (∃ f', wr.rowIs g 94 M f') ∧ w.grownBy wr (some g)) (fun _ i _ => n - (intOf i).toNat)
  case atStart => exact ⟨0, Nat.zero_le _, rfl, by simp, ⟨f, hr⟩, World.grownBy.refl _ _⟩
  case round =>
    obtain ⟨k, hk, rfl, rfl, ⟨f', hrow⟩, hg⟩ := hrel
    by_cases hlt : k < n
    · have z := hrow.frozen
      have hk8 : (k + 1) * 3 ≤ M := Nat.le_trans (Nat.mul_le_mul_right _ hlt) hn
      have c0 : wr.cell? ⟨g, k * 3, none⟩ = _ := hrow.cell (i := k * 3) (by omega)
      have c1 : wr.cell? ⟨g, k * 3 + 1, none⟩ = _ := hrow.cell (i := k * 3 + 1) (by omega)
      have c2 : wr.cell? ⟨g, k * 3 + 2, none⟩ = _ := hrow.cell (i := k * 3 + 2) (by omega)
      go_wp2_with fail
      go_roundw
      case rel => exact ⟨k + 1, by omega, by go_num, by go_num, ⟨_, ((hrow.set _ _).set _ _).set _ _⟩, mark_set (mark_set (mark_set hg _ _) _ _) _ _⟩
      case measure => simp [intOf]; omega
    · obtain rfl : k = n := by omega
      go_wp2_with fail
      go_ret
      exact ⟨⟨_, by omega, by omega, rfl⟩, hg⟩
theorem delt_small (side : Int) (za : List Int) (n : Nat) (zb : List Int) (m : Nat) : (dltZ side za n zb m).length ≤ (n + m) * 3 := by
  obtain ⟨j, h1, h2⟩ := goneL_len za zb m n
  obtain ⟨i, h3, h4⟩ := comeL_len za zb n m
  unfold dltZ
  split
  · rw [List.length_append, h1, h3]; omega
  · simp
end Go.Proofs.Ytfodkefaflpicaa

namespace Go.Proofs.Ytfodkefaflpicaa
open Go.RowKit Wire

theorem apl_small (side : Int) (za : List Int) (n : Nat) (zd : List Int) (m : Nat) (hz : za.length = n * 3) : (aplZ side za n zd m).length ≤ (n + m) * 3 := by
  unfold aplZ
  split
  · rename_i h
    have hb : lvsB side za n = true := by
      unfold aplB at h
      cases hh : lvsB side za n with
      | true => rfl
      | false => rw [hh] at h; simp at h
    obtain ⟨⟨N, h1, h2⟩, _⟩ := apl_ok (zd := zd) hz (LvOrd.of_lvTo (by simp [lvsB] at hb; exact hb.2.2)) m
    rw [h1]
    omega
  · simp
set_option linter.unusedSimpArgs false in
set_option maxHeartbeats 3200000 in
set_option maxRecDepth 100000 in
theorem law_DepthApplied (A : Option Addr) (n c : Nat) (za : List Int) (B : Option Addr) (m d : Nat) (zb : List Int) (side : Int) (w : World) (hl : Lst w w.heap.size 3 A n za) (hnm : n ≤ maxLen) (hr : Lst w w.heap.size 3 B m zb) (hmm : m ≤ maxLen) :
    Calls Try.prog 6 #[.slice A n c, .slice B m d, .int .i64 side] w fun e w' => e = .returned (.bool true) ∧ Below w.heap.size w w' := by
  unfold maxLen at hnm hmm
  by_cases h1 : 1048576 < n
  · go_enter Try.func6, Try.ntmps6
    go_wp2_with fail
    refine (szLevelS_any _ _ _ _ _ (by omega) (by omega) (by omega)).mono ?_
    rw [if_pos (by omega)]
    rintro e w' ⟨rfl, rfl⟩
    go_wp2_with fail
    go_ret
    exact ⟨rfl, Below.refl _ _⟩
  have hn : n ≤ 1048576 := by omega
  obtain ⟨L, hL, hL2, hL3⟩ : ∃ L : Int, (1048576 : Int) - (n : Int) = L ∧ 0 ≤ L ∧ L ≤ 1048576 := ⟨_, rfl, by omega, by omega⟩
  by_cases h2 : L < m
  · have HL := Lib.hid hL
    clear hL
    go_enter Try.func6, Try.ntmps6
    go_wp2_with fail
    refine (szLevelS_any _ _ _ _ _ (by omega) (by omega) (by omega)).mono ?_
    rw [if_neg (by omega), HL.out]
    rintro e w' ⟨rfl, rfl⟩
    go_wp2_with fail
    refine (szLevelS_any _ _ _ _ _ (by omega) (by omega) (by omega)).mono ?_
    rw [if_pos h2]
    rintro e w' ⟨rfl, rfl⟩
    go_wp2_with fail
    go_ret
    exact ⟨rfl, Below.refl _ _⟩
  obtain ⟨K, hK, hK2⟩ : ∃ K : Int, L - (m : Int) = K ∧ 0 ≤ K := ⟨_, rfl, by omega⟩
  have hm : m ≤ 1048576 := by omega
  have hNle := Nat.le_trans (apl_small side za n zb m hl.1) (show (n + m) * 3 ≤ 1048576 * 3 by omega)
  have HL := Lib.hid hL
  have HK := Lib.hid hK
  clear hL hK
  have hza := hl.1
  have hzb := hr.1
  go_enter Try.func6, Try.ntmps6
  go_wp2_with fail
  refine (szLevelS_any _ _ _ _ _ (by omega) (by omega) (by omega)).mono ?_
  rw [if_neg (by omega), HL.out]
  rintro e w' ⟨rfl, rfl⟩
  go_wp2_with fail
  refine (szLevelS_any _ _ _ _ _ (by omega) (by omega) (by omega)).mono ?_
  rw [if_neg (by omega), HK.out]
  rintro e w' ⟨rfl, rfl⟩
  clear h1 h2
  have hB : Below w.heap.size w w := Below.refl _ _
  have hl0 := hl
  have hr0 := hr
  generalize hZ : aplZ side za n zb m = Z at hNle
  have HZ := Lib.hid hZ
  clear hZ
  generalize hU : aplB side za n zb m = ub
  have HU := Lib.hid hU
  clear hU
  go_wp2_with fail
  refine (toLevelS_any _ _ _ za _ hl hn).mono ?_
  rintro e w1 ⟨rfl, R1, hb1⟩
  replace hl := hl.later hb1
  replace hr := hr.later hb1
  replace hB := below_later hB hb1
  have hx1 := Lst.of_row (sz := 3) (zs := za) (n := n) R1 (Nat.le_refl _) hza (fun _ _ => rfl)
  clear hb1 R1
  go_wp2_with fail
  refine (toLevelS_any _ _ _ zb _ hr hm).mono ?_
  rintro e w2 ⟨rfl, R2, hb2⟩
  replace hl := hl.later hb2
  replace hr := hr.later hb2
  replace hx1 := hx1.later hb2
  replace hB := below_later hB hb2
  have hx2 := Lst.of_row (sz := 3) (zs := zb) (n := m) R2 (Nat.le_refl _) hzb (fun _ _ => rfl)
  clear hb2 R2
  go_wp2_with fail
  refine (spec_DepthApplied _ n n za _ m m zb side _ hx1 (fun h => by cases h) hn hx2 hm).mono ?_
  rw [HU.out, HZ.out]
  rintro e w3 ⟨⟨vW, N, rfl, hN, OW⟩, hb3⟩
  obtain ⟨AW, dW, rfl, _, _⟩ := own_slice OW
  have hN1 : N ≤ 1048576 := by omega
  have sW := OW.lt
  have s23 := hb3.size
  clear hx1 hx2
  replace hl := hl.later hb3
  replace hr := hr.later hb3
  replace hB := below_later hB hb3
  have low3 := hB.size
  clear hb3
  go_wp2_with fail
  refine (toLevelS_any _ _ _ za _ hl hn).mono ?_
  rintro e w4 ⟨rfl, R4, hb4⟩
  replace hl := hl.later hb4
  replace hr := hr.later hb4
  replace OW := own_below OW hb4
  replace hB := below_later hB hb4
  have hx4 := Lst.of_row (sz := 3) (zs := za) (n := n) R4 (Nat.le_refl _) hza (fun _ _ => rfl)
  have s34 := hb4.size
  have l4 := R4.lt
  clear hb4
  go_wp2_with fail
  refine (toLevelS_any _ _ _ zb _ hr hm).mono ?_
  rintro e w5 ⟨rfl, R5, hb5⟩
  replace hl := hl.later hb5
  replace hr := hr.later hb5
  replace OW := own_below OW hb5
  replace R4 := R4.of_block (hb5.block _ R4.lt)
  replace hx4 := hx4.later hb5
  replace hB := below_later hB hb5
  have hx5 := Lst.of_row (sz := 3) (zs := zb) (n := m) R5 (Nat.le_refl _) hzb (fun _ _ => rfl)
  have s45 := hb5.size
  have l5 := R5.lt
  clear hb5
  go_wp2_with fail
  refine (impl_DepthApplied _ n n za _ m m zb side _ hx4 (fun h => by cases h) hn hx5 hm).mono ?_
  rw [HU.out, HZ.out]
  rintro e w6 ⟨⟨vG, N6, rfl, hN6, OG⟩, hb6⟩
  obtain ⟨AG, dG, rfl, _, _⟩ := own_slice OG
  obtain rfl : N6 = N := by omega
  have sG := OG.lt
  replace hl := hl.later hb6
  replace hr := hr.later hb6
  replace OW := own_below OW hb6
  replace R4 := R4.of_block (hb6.block _ R4.lt)
  replace hx4 := hx4.later hb6
  replace R5 := R5.of_block (hb6.block _ R5.lt)
  replace hx5 := hx5.later hb6
  replace hB := below_later hB hb6
  clear hb6
  go_wp2_with fail
  refine (eqLevelS_same AG AW N6 dG dW Z _ (Lst.of_own OG) (Lst.of_own OW) hN1).mono ?_
  rintro e w7 ⟨rfl, hb7⟩
  replace hl := hl.later hb7
  replace hr := hr.later hb7
  replace OW := own_below OW hb7
  replace R4 := R4.of_block (hb7.block _ R4.lt)
  replace hx4 := hx4.later hb7
  replace R5 := R5.of_block (hb7.block _ R5.lt)
  replace hx5 := hx5.later hb7
  replace OG := own_below OG hb7
  replace hB := below_later hB hb7
  clear hb7
  go_wp2_with fail
  refine (toLevelS_any _ _ _ za _ hl hn).mono ?_
  rintro e w8 ⟨rfl, R8, hb8⟩
  replace hl := hl.later hb8
  replace hr := hr.later hb8
  replace OW := own_below OW hb8
  replace R4 := R4.of_block (hb8.block _ R4.lt)
  replace hx4 := hx4.later hb8
  replace R5 := R5.of_block (hb8.block _ R5.lt)
  replace hx5 := hx5.later hb8
  replace OG := own_below OG hb8
  replace hB := below_later hB hb8
  have hx8 := Lst.of_row (sz := 3) (zs := za) (n := n) R8 (Nat.le_refl _) hza (fun _ _ => rfl)
  clear hb8 R8
  go_wp2_with fail
  refine (eqLevelS_same _ _ _ _ _ za _ hx4 hx8 hn).mono ?_
  rintro e w9 ⟨rfl, hb9⟩
  replace hl := hl.later hb9
  replace hr := hr.later hb9
  replace OW := own_below OW hb9
  replace R4 := R4.of_block (hb9.block _ R4.lt)
  replace hx4 := hx4.later hb9
  replace R5 := R5.of_block (hb9.block _ R5.lt)
  replace hx5 := hx5.later hb9
  replace OG := own_below OG hb9
  replace hx8 := hx8.later hb9
  replace hB := below_later hB hb9
  clear hb9 hx4 hx8
  go_wp2_with fail
  refine (toLevelS_any _ _ _ zb _ hr hm).mono ?_
  rintro e w10 ⟨rfl, R10, hb10⟩
  replace hl := hl.later hb10
  replace hr := hr.later hb10
  replace OW := own_below OW hb10
  replace R4 := R4.of_block (hb10.block _ R4.lt)
  replace R5 := R5.of_block (hb10.block _ R5.lt)
  replace hx5 := hx5.later hb10
  replace OG := own_below OG hb10
  replace hB := below_later hB hb10
  have hx10 := Lst.of_row (sz := 3) (zs := zb) (n := m) R10 (Nat.le_refl _) hzb (fun _ _ => rfl)
  clear hb10 R10
  go_wp2_with fail
  refine (eqLevelS_same _ _ _ _ _ zb _ hx5 hx10 hm).mono ?_
  rintro e w11 ⟨rfl, hb11⟩
  replace hl := hl.later hb11
  replace hr := hr.later hb11
  replace OW := own_below OW hb11
  replace R4 := R4.of_block (hb11.block _ R4.lt)
  replace R5 := R5.of_block (hb11.block _ R5.lt)
  replace hx5 := hx5.later hb11
  replace OG := own_below OG hb11
  replace hx10 := hx10.later hb11
  replace hB := below_later hB hb11
  clear hb11 hx5 hx10
  clear hl hr
  go_wp2_with fail
  refine (markLevelS_from _ n n (n * 3) 1 _ _ R4 (Nat.le_refl _) hn (by omega) (by omega)).mono ?_
  rintro e w12 ⟨⟨k1, k1a, k1b, rfl⟩, hg⟩
  have hBs := hB.size
  replace hB := hB.grown hg hBs (fun q hq => by cases hq; exact low3)
  replace OW := OW.kept hg (.inr (fun e => by have := (sW _ e).2; omega))
  replace OG := OG.kept hg (.inr (fun e => by have := (sG _ e).1; omega))
  replace R5 := R5.of_block (hg.block _ R5.lt (fun e => by injection e with e; omega))
  clear hg hBs R4
  go_wp2_with fail
  refine (markLevelS_from _ m m (m * 3) k1 _ _ R5 (Nat.le_refl _) hm k1a (by omega)).mono ?_
  rintro e w13 ⟨⟨k2, k2a, k2b, rfl⟩, hg⟩
  have hBs := hB.size
  replace hB := hB.grown hg hBs (fun q hq => by cases hq; omega)
  replace OW := OW.kept hg (.inr (fun e => by have := (sW _ e).2; omega))
  replace OG := OG.kept hg (.inr (fun e => by have := (sG _ e).1; omega))
  clear hg hBs R5
  have hk0 : decide (k2 < 0) = false := decide_eq_false (by omega)
  go_wp2_with fail
  refine (eqLevelS_same AG AW N6 dG dW Z _ (Lst.of_own OG) (Lst.of_own OW) hN1).mono ?_
  rintro e w14 ⟨rfl, hb14⟩
  replace OW := own_below OW hb14
  replace OG := own_below OG hb14
  replace hB := below_later hB hb14
  clear hb14
  go_wp2_with fail
  refine (markLevelS_any _ (.slice AG N6 dG) N6 (nums Z) _ OG hN1).mono ?_
  rintro e w15 ⟨rfl, MG, hg⟩
  have hBs := hB.size
  replace hB := hB.grown hg hBs (fun q hq => by have := (sG q hq).1; omega)
  replace OW := OW.kept hg (by
    cases hq : (Value.slice AW N6 dW).ownBlock with
    | none => exact .inl rfl
    | some q => exact .inr (fun e => by have a := (sW q hq).2; have b := (sG q e.symm).1; omega))
  clear hg hBs OG
  have ht0 : decide ((N6 : Int) * 3 + 1 < 0) = false := decide_eq_false (by omega)
  go_wp2_with fail
  refine (heldLevelS_any _ N6 _ MG hN1).mono ?_
  rintro e w16 ⟨rfl, rfl⟩
  have hl : Lst w16 w16.heap.size 3 A n za := (hl0.below hB).more hB.size
  have hr : Lst w16 w16.heap.size 3 B m zb := (hr0.below hB).more hB.size
  go_wp2_with fail
  refine (toLevelS_any _ _ _ za _ hl hn).mono ?_
  rintro e w17 ⟨rfl, R17, hb17⟩
  replace OW := own_below OW hb17
  replace MG := MG.below hb17
  replace hl := hl.later hb17
  replace hr := hr.later hb17
  replace hB := below_later hB hb17
  have hx17 := Lst.of_row (sz := 3) (zs := za) (n := n) R17 (Nat.le_refl _) hza (fun _ _ => rfl)
  clear hb17 R17
  go_wp2_with fail
  refine (toLevelS_any _ _ _ zb _ hr hm).mono ?_
  rintro e w18 ⟨rfl, R18, hb18⟩
  replace OW := own_below OW hb18
  replace MG := MG.below hb18
  replace hl := hl.later hb18
  replace hr := hr.later hb18
  replace hx17 := hx17.later hb18
  replace hB := below_later hB hb18
  have hx18 := Lst.of_row (sz := 3) (zs := zb) (n := m) R18 (Nat.le_refl _) hzb (fun _ _ => rfl)
  clear hb18 R18
  go_wp2_with fail
  refine (impl_DepthApplied _ n n za _ m m zb side _ hx17 (fun h => by cases h) hn hx18 hm).mono ?_
  rw [HU.out, HZ.out]
  rintro e w19 ⟨⟨vH, N7, rfl, hN7, OH⟩, hb19⟩
  obtain ⟨AH, dH, rfl, _, _⟩ := own_slice OH
  obtain rfl : N7 = N6 := by omega
  clear hx17 hx18
  replace OW := own_below OW hb19
  replace MG := MG.below hb19
  replace hB := below_later hB hb19
  clear hb19 hl hr
  go_wp2_with fail
  refine (eqLevelS_same AH AW N7 dH dW Z _ (Lst.of_own OH) (Lst.of_own OW) hN1).mono ?_
  rintro e w20 ⟨rfl, hb20⟩
  replace OW := own_below OW hb20
  replace MG := MG.below hb20
  replace OH := own_below OH hb20
  replace hB := below_later hB hb20
  clear hb20
  go_wp2_with fail
  refine (heldLevelS_any _ N7 _ MG hN1).mono ?_
  rintro e w21 ⟨rfl, rfl⟩
  clear OW OH MG
  go_wp2_with fail
  go_ret
  exact ⟨by first | rfl | simp, hB⟩
end Go.Proofs.Ytfodkefaflpicaa
