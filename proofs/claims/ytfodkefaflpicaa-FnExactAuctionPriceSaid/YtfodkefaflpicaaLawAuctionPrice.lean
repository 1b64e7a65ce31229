/-
  The exact law of AuctionPrice.
-/
import Derived.Test.YtfodkefaflpicaaAucQ
namespace Go.Proofs.Ytfodkefaflpicaa
open Go.RowKit Wire

set_option linter.unusedSimpArgs false in
set_option maxHeartbeats 1600000 in
set_option maxRecDepth 100000 in
theorem law_AuctionPrice (A : Option Addr) (n c : Nat) (za : List Int) (B : Option Addr) (m d : Nat) (zb : List Int) (w : World) (hl : Lst w w.heap.size 4 A n za) (hnm : n ≤ maxLen) (hr : Lst w w.heap.size 4 B m zb) (hmm : m ≤ maxLen) :
    Calls Try.prog 7 #[.slice A n c, .slice B m d] w fun e w' => e = .returned (.bool true) ∧ Below w.heap.size w w' := by
  unfold maxLen at hnm hmm
  by_cases h1 : 1048576 < n
  · go_enter Try.func7, Try.ntmps7
    go_wp2_with fail
    refine (szOrderS_any _ _ _ _ _ (by omega) (by omega) (by omega)).mono ?_
    rw [if_pos (by omega)]
    rintro e w' ⟨rfl, rfl⟩
    go_wp2_with fail
    go_ret
    exact ⟨rfl, Below.refl _ _⟩
  have hn : n ≤ 1048576 := by omega
  obtain ⟨L, hL, hL2, hL3⟩ : ∃ L : Int, (1048576 : Int) - (n : Int) = L ∧ 0 ≤ L ∧ L ≤ 1048576 := ⟨_, rfl, by omega, by omega⟩
  by_cases h2 : L < m
  · have HL := Lib.hid hL
    clear hL
    go_enter Try.func7, Try.ntmps7
    go_wp2_with fail
    refine (szOrderS_any _ _ _ _ _ (by omega) (by omega) (by omega)).mono ?_
    rw [if_neg (by omega), HL.out]
    rintro e w' ⟨rfl, rfl⟩
    go_wp2_with fail
    refine (szOrderS_any _ _ _ _ _ (by omega) (by omega) (by omega)).mono ?_
    rw [if_pos h2]
    rintro e w' ⟨rfl, rfl⟩
    go_wp2_with fail
    go_ret
    exact ⟨rfl, Below.refl _ _⟩
  obtain ⟨K, hK, hK2⟩ : ∃ K : Int, L - (m : Int) = K ∧ 0 ≤ K := ⟨_, rfl, by omega⟩
  have hm : m ≤ 1048576 := by omega
  have HL := Lib.hid hL
  have HK := Lib.hid hK
  clear hL hK
  have hza := hl.1
  have hzb := hr.1
  go_enter Try.func7, Try.ntmps7
  go_wp2_with fail
  refine (szOrderS_any _ _ _ _ _ (by omega) (by omega) (by omega)).mono ?_
  rw [if_neg (by omega), HL.out]
  rintro e w' ⟨rfl, rfl⟩
  go_wp2_with fail
  refine (szOrderS_any _ _ _ _ _ (by omega) (by omega) (by omega)).mono ?_
  rw [if_neg (by omega), HK.out]
  rintro e w' ⟨rfl, rfl⟩
  clear h1 h2
  obtain ⟨r1, hr1⟩ : ∃ x, (aucR za zb n m).1 = x := ⟨_, rfl⟩
  obtain ⟨r2, hr2⟩ : ∃ x, (aucR za zb n m).2 = x := ⟨_, rfl⟩
  have HR1 := Lib.hid hr1
  have HR2 := Lib.hid hr2
  clear hr1 hr2
  go_wp2_with fail
  refine (toOrderS_any _ _ _ za _ hl hn).mono ?_
  rintro e w1 ⟨rfl, hr1, hb1⟩
  replace hl := hl.later hb1
  replace hr := hr.later hb1
  have hx1 := Lst.of_row (sz := 4) (zs := za) (n := n) hr1 (Nat.le_refl _) hza (fun _ _ => rfl)
  have hB := hb1
  clear hr1
  clear hb1
  go_wp2_with fail
  refine (toOrderS_any _ _ _ zb _ hr hm).mono ?_
  rintro e w2 ⟨rfl, hr2, hb2⟩
  replace hl := hl.later hb2
  replace hr := hr.later hb2
  have hx2 := Lst.of_row (sz := 4) (zs := zb) (n := m) hr2 (Nat.le_refl _) hzb (fun _ _ => rfl)
  replace hB := below_later hB hb2
  clear hr2
  replace hx1 := hx1.later hb2
  clear hb2
  go_wp2_with fail
  refine (spec_AuctionPrice _ _ _ za _ _ _ zb _ hx1 (fun h => by cases h) hn hx2 (fun h => by cases h) hm).mono ?_
  rw [HR1.out, HR2.out]
  rintro e w3 ⟨rfl, hb3⟩
  replace hB := below_later hB hb3
  replace hl := hl.later hb3
  replace hr := hr.later hb3
  clear hb3 hx1 hx2
  go_wp2_with fail
  refine (toOrderS_any _ _ _ za _ hl hn).mono ?_
  rintro e w4 ⟨rfl, hr4, hb4⟩
  replace hl := hl.later hb4
  replace hr := hr.later hb4
  have hx4 := Lst.of_row (sz := 4) (zs := za) (n := n) hr4 (Nat.le_refl _) hza (fun _ _ => rfl)
  replace hB := below_later hB hb4
  clear hr4
  clear hb4
  go_wp2_with fail
  refine (toOrderS_any _ _ _ zb _ hr hm).mono ?_
  rintro e w5 ⟨rfl, hr5, hb5⟩
  replace hl := hl.later hb5
  replace hr := hr.later hb5
  have hx5 := Lst.of_row (sz := 4) (zs := zb) (n := m) hr5 (Nat.le_refl _) hzb (fun _ _ => rfl)
  replace hB := below_later hB hb5
  clear hr5
  replace hx4 := hx4.later hb5
  clear hb5
  go_wp2_with fail
  refine (impl_AuctionPrice _ _ _ za _ _ _ zb _ hx4 (fun h => by cases h) hn hx5 (fun h => by cases h) hm).mono ?_
  rw [HR1.out, HR2.out]
  rintro e w6 ⟨rfl, hb6⟩
  replace hB := below_later hB hb6
  replace hl := hl.later hb6
  replace hr := hr.later hb6
  replace hx4 := hx4.later hb6
  replace hx5 := hx5.later hb6
  clear hb6
  go_wp2_with fail
  refine (toOrderS_any _ _ _ za _ hl hn).mono ?_
  rintro e w7 ⟨rfl, hr7, hb7⟩
  replace hl := hl.later hb7
  replace hr := hr.later hb7
  have hx7 := Lst.of_row (sz := 4) (zs := za) (n := n) hr7 (Nat.le_refl _) hza (fun _ _ => rfl)
  replace hB := below_later hB hb7
  clear hr7
  replace hx4 := hx4.later hb7
  replace hx5 := hx5.later hb7
  clear hb7
  go_wp2_with fail
  refine (eqOrderS_same _ _ _ _ _ za _ hx4 hx7 hn).mono ?_
  rintro e w8 ⟨rfl, hb8⟩
  replace hB := below_later hB hb8
  replace hl := hl.later hb8
  replace hr := hr.later hb8
  replace hx5 := hx5.later hb8
  clear hb8 hx4 hx7
  go_wp2_with fail
  refine (toOrderS_any _ _ _ zb _ hr hm).mono ?_
  rintro e w9 ⟨rfl, hr9, hb9⟩
  replace hl := hl.later hb9
  replace hr := hr.later hb9
  have hx9 := Lst.of_row (sz := 4) (zs := zb) (n := m) hr9 (Nat.le_refl _) hzb (fun _ _ => rfl)
  replace hB := below_later hB hb9
  clear hr9
  replace hx5 := hx5.later hb9
  clear hb9
  go_wp2_with fail
  refine (eqOrderS_same _ _ _ _ _ zb _ hx5 hx9 hm).mono ?_
  rintro e w10 ⟨rfl, hb10⟩
  replace hB := below_later hB hb10
  clear hl hr hx5 hx9
  go_wp2_with fail
  go_ret
  exact ⟨by first | rfl | simp, hB⟩
end Go.Proofs.Ytfodkefaflpicaa
