/-
 Which books are right: the specification's functions.
-/
import Derived.Test.YtgjjdnojiegidaaGreatDoorTak
import Derived.Test.YtgjjdnojiegidaaGreatDoorBookW
namespace Go.Proofs.YtgjjdnojiegidaaGreatDoor
open Go.RowKit Wire
set_option maxHeartbeats 3200000
set_option maxRecDepth 100000
set_option linter.unusedSimpArgs false

theorem spec_l2Side (A : Option Addr) (n c : Nat) (zs : List Int) (side : Int) (w : World) (hl : Lst w w.heap.size 4 A n zs) (hn : n ≤ 1048576) :
 Calls Tryz.prog 32 #[.int .i64 side, .slice A n c] w fun e w' => e = .returned (.bool (sideB side zs n)) ∧ Below w.heap.size w w' := by
 have HS := Lib.hid (show sideB side zs n = (decide (n ≤ 20) && (allO zs n && srtO side zs n)) from rfl)
 go_enter Tryz.func32, Tryz.ntmps32
 go_wp2_with fail
 go_loopw [5] (fun i wr => ∃ k : Nat, k ≤ n ∧ i = .int .i64 (k : Int) ∧ allO zs k = true ∧ srtO side zs k = true ∧ Below w.heap.size w wr) (fun i _ => n - (intOf i).toNat)
 case atStart => exact ⟨0, Nat.zero_le _, rfl, rfl, rfl, Below.refl _ _⟩
 case round =>
  obtain ⟨k, hk, rfl, hall, hsrt, hbel⟩ := hrel
  have HL := Lib.hid hall
  have HT := Lib.hid hsrt
  have HB := Lib.hid hbel
  by_cases hlt : k < n
  · have HE := Lib.hid (ordB_eq zs k)
    have HA := Lib.hid (show allO zs (k + 1) = (allO zs k && ordB zs k) from rfl)
    rcases Bool.eq_false_or_eq_true (ordB zs k) with hat | hat
    · have HO := Lib.hid hat
      have hOB : ordI (num zs (k * 4)) (num zs (k * 4 + 1)) (num zs (k * 4 + 2)) (num zs (k * 4 + 3)) = true := hat
      clear hat hall hsrt
      rcases k with _ | j
      · obtain ⟨b, o, rfl, hb, c0, c1, c2, c3⟩ := (hl.below hbel).row4 hlt
        simp at c0 c1 c2 c3
        replace hOB : ordI (num zs 0) (num zs 1) (num zs 2) (num zs 3) = true := hOB
        clear hbel
        go_upto_region 4 with fail
        refine wp_region_held_drew (S := (fun w' => Below wr.heap.size wr w' ∧ w'.cell? ⟨b, o, none⟩ = some (.int .i64 (num zs 0)) ∧ w'.cell? ⟨b, o + 1, none⟩ = some (.int .i64 (num zs 1)) ∧ w'.cell? ⟨b, o + 2, none⟩ = some (.int .i64 (num zs 2)) ∧ w'.cell? ⟨b, o + 3, none⟩ = some (.int .i64 (num zs 3)))) (by kernel_rfl) ?hSq1xs (fun zH => ?restq1xs)
        case hSq1xs => (exact kp2)
        refine tkV 0 ?_
        refine tkV 1 ?_
        refine tkV 2 ?_
        refine tkV 3 ?_
        refine rd1 4 (fun K hK => ?_)
        go_simp
        (go_at_call 62; refine (spec_l2Order _ _ _ _ _).mono ?_; rw [hOB]; rintro e w' ⟨rfl, hb⟩)
        refine hK.out _ _ ?hSq1x5 (fun zH => ?restq1x5)
        case hSq1x5 => (exact kp2)
        clear hK K
        try simp only [Act.put, sA, sB, sC]
        refine tkV 5 ?_
        refine tkV 6 ?_
        refine tkV 7 ?_
        refine tkV 8 ?_
        refine tkV 9 ?_
        refine hdN 10 ?_
        refine hdN 11 ?_
        refine hdN 12 ?_
        refine hdN 13 ?_
        refine hdN 14 ?_
        refine hdN 15 ?_
        refine hdN 16 ?_
        refine hdN 17 ?_
        refine hdN 18 ?_
        refine hdN 19 ?_
        refine hdN 20 ?_
        refine hdN 21 ?_
        refine rd1 22 (fun K hK => ?_)
        go_simp
        refine hK.out _ _ ?hSq1x23 (fun zH => ?restq1x23)
        case hSq1x23 => (exact kp2)
        clear hK K
        try simp only [Act.put, sA, sB, sC]
        refine tkV 23 ?_
        refine tkV 24 ?_
        refine dn1 ?_
        have hBz := HB.out.trans (zH.1.mono HB.out.size)
        clear zH
        go_wp2_with fail
        go_roundw
        case rel => exact ⟨1, by omega, by go_num, by rw [HA.out, HL.out, HO.out]; rfl, srtO_step HT.out (.inl rfl), hBz⟩
        case measure => simp [intOf]; omega
      · obtain ⟨b, o, rfl, hb, c0, c1, c2, c3⟩ := (hl.below hbel).row4 hlt
        have hj : j < n := by omega
        have p2 : wr.cell? ⟨b, o + j * 4 + 2, none⟩ = some (.int .i64 (price zs j)) := by
         obtain ⟨b', o', e, _, _, _, p2, _⟩ := (hl.below hbel).row4 hj
         injection e with e
         injection e with e1 e2
         subst e1 e2
         exact p2
        have b0 : (0 : Int) ≤ (j : Int) := by omega
        have b1 : (j : Int) < (n : Int) := by omega
        have b2 : (j : Int) + 1 < (n : Int) := by omega
        have b4 : (0 : Int) < (j : Int) + 1 := by omega
        have b8 : (0 : Int) ≤ (j : Int) + 1 := by omega
        have b5 : (j : Int) + 1 - 1 = (j : Int) := by omega
        have b6 : IntKind.i64.wrap ((j : Int) + 1 - 1) = (j : Int) := by rw [IntKind.wrap_i64]; omega
        have b7 : IntKind.i64.wrap (j : Int) = (j : Int) := by rw [IntKind.wrap_i64]; omega
        clear hbel
        rcases Bool.eq_false_or_eq_true (betB side (price zs (j + 1)) (price zs j)) with hbt | hbt
        · have HN := Lib.hid (show sideB side zs n = false from by rw [HS.out, srtO_no (k := j + 1) (by omega) hbt n hlt]; simp)
          have hAB : betB side (num zs ((j + 1) * 4 + 2)) (price zs j) = true := hbt
          clear hbt
          go_upto_region 4 with fail
          refine wp_region_held_drew (S := (fun w' => Below wr.heap.size wr w' ∧ w'.cell? ⟨b, o + (j + 1) * 4, none⟩ = some (.int .i64 (num zs ((j + 1) * 4))) ∧ w'.cell? ⟨b, o + (j + 1) * 4 + 1, none⟩ = some (.int .i64 (num zs ((j + 1) * 4 + 1))) ∧ w'.cell? ⟨b, o + (j + 1) * 4 + 2, none⟩ = some (.int .i64 (num zs ((j + 1) * 4 + 2))) ∧ w'.cell? ⟨b, o + (j + 1) * 4 + 3, none⟩ = some (.int .i64 (num zs ((j + 1) * 4 + 3))) ∧ w'.cell? ⟨b, o + j * 4 + 2, none⟩ = some (.int .i64 (price zs j)))) (by kernel_rfl) ?hSq2xs (fun zH => ?restq2xs)
          case hSq2xs => (exact kp2)
          refine tkV 0 ?_
          refine tkV 1 ?_
          refine tkV 2 ?_
          refine tkV 3 ?_
          refine rd1 4 (fun K hK => ?_)
          go_simp
          (go_at_call 62; refine (spec_l2Order _ _ _ _ _).mono ?_; rw [hOB]; rintro e w' ⟨rfl, hb⟩)
          refine hK.out _ _ ?hSq2x5 (fun zH => ?restq2x5)
          case hSq2x5 => (exact kp2)
          clear hK K
          try simp only [Act.put, sA, sB, sC]
          refine tkV 5 ?_
          refine tkV 6 ?_
          refine tkV 7 ?_
          refine tkV 8 ?_
          refine tkV 9 ?_
          refine tkV 10 ?_
          refine tkV 11 ?_
          refine tkV 12 ?_
          refine tkV 13 ?_
          refine tkV 14 ?_
          refine tkV 15 ?_
          refine tkV 16 ?_
          refine tkV 17 ?_
          refine tkV 18 ?_
          refine tkV 19 ?_
          refine tkV 20 ?_
          refine tkV 21 ?_
          refine rd1 22 (fun K hK => ?_)
          go_simp
          (go_at_call 63; refine (spec_l2Ahead _ _ _ _).mono ?_; rw [hAB]; rintro e w' ⟨rfl, rfl⟩)
          refine hK.out _ _ ?hSq2x23 (fun zH => ?restq2x23)
          case hSq2x23 => (exact kp2)
          clear hK K
          try simp only [Act.put, sA, sB, sC]
          refine tkV 23 ?_
          refine tkV 24 ?_
          refine dn1 ?_
          have hBz := HB.out.trans (zH.1.mono HB.out.size)
          clear zH
          go_wp2_with fail
          go_ret
          exact ⟨by rw [HN.out]; rfl, hBz⟩
        · have HQ := Lib.hid hbt
          have hAB : betB side (num zs ((j + 1) * 4 + 2)) (price zs j) = false := hbt
          clear hbt
          go_upto_region 4 with fail
          refine wp_region_held_drew (S := (fun w' => Below wr.heap.size wr w' ∧ w'.cell? ⟨b, o + (j + 1) * 4, none⟩ = some (.int .i64 (num zs ((j + 1) * 4))) ∧ w'.cell? ⟨b, o + (j + 1) * 4 + 1, none⟩ = some (.int .i64 (num zs ((j + 1) * 4 + 1))) ∧ w'.cell? ⟨b, o + (j + 1) * 4 + 2, none⟩ = some (.int .i64 (num zs ((j + 1) * 4 + 2))) ∧ w'.cell? ⟨b, o + (j + 1) * 4 + 3, none⟩ = some (.int .i64 (num zs ((j + 1) * 4 + 3))) ∧ w'.cell? ⟨b, o + j * 4 + 2, none⟩ = some (.int .i64 (price zs j)))) (by kernel_rfl) ?hSq3xs (fun zH => ?restq3xs)
          case hSq3xs => (exact kp2)
          refine tkV 0 ?_
          refine tkV 1 ?_
          refine tkV 2 ?_
          refine tkV 3 ?_
          refine rd1 4 (fun K hK => ?_)
          go_simp
          (go_at_call 62; refine (spec_l2Order _ _ _ _ _).mono ?_; rw [hOB]; rintro e w' ⟨rfl, hb⟩)
          refine hK.out _ _ ?hSq3x5 (fun zH => ?restq3x5)
          case hSq3x5 => (exact kp2)
          clear hK K
          try simp only [Act.put, sA, sB, sC]
          refine tkV 5 ?_
          refine tkV 6 ?_
          refine tkV 7 ?_
          refine tkV 8 ?_
          refine tkV 9 ?_
          refine tkV 10 ?_
          refine tkV 11 ?_
          refine tkV 12 ?_
          refine tkV 13 ?_
          refine tkV 14 ?_
          refine tkV 15 ?_
          refine tkV 16 ?_
          refine tkV 17 ?_
          refine tkV 18 ?_
          refine tkV 19 ?_
          refine tkV 20 ?_
          refine tkV 21 ?_
          refine rd1 22 (fun K hK => ?_)
          go_simp
          (go_at_call 63; refine (spec_l2Ahead _ _ _ _).mono ?_; rw [hAB]; rintro e w' ⟨rfl, rfl⟩)
          refine hK.out _ _ ?hSq3x23 (fun zH => ?restq3x23)
          case hSq3x23 => (exact kp2)
          clear hK K
          try simp only [Act.put, sA, sB, sC]
          refine tkV 23 ?_
          refine tkV 24 ?_
          refine dn1 ?_
          have hBz := HB.out.trans (zH.1.mono HB.out.size)
          clear zH
          go_wp2_with fail
          go_roundw
          case rel => exact ⟨j + 1 + 1, by omega, by go_num, by rw [HA.out, HL.out, HO.out]; rfl, srtO_step HT.out (.inr HQ.out), hBz⟩
          case measure => simp [intOf]; omega
    · have HN := Lib.hid (show sideB side zs n = false from by rw [HS.out, allO_no hat n hlt]; simp)
      have hOB : ordI (num zs (k * 4)) (num zs (k * 4 + 1)) (num zs (k * 4 + 2)) (num zs (k * 4 + 3)) = false := hat
      clear hat hall hsrt
      obtain ⟨b, o, rfl, hb, c0, c1, c2, c3⟩ := (hl.below hbel).row4 hlt
      clear hbel
      go_upto_region 4 with fail
      refine wp_region_held_drew (S := (fun w' => Below wr.heap.size wr w' ∧ w'.cell? ⟨b, o + k * 4, none⟩ = some (.int .i64 (num zs (k * 4))) ∧ w'.cell? ⟨b, o + k * 4 + 1, none⟩ = some (.int .i64 (num zs (k * 4 + 1))) ∧ w'.cell? ⟨b, o + k * 4 + 2, none⟩ = some (.int .i64 (num zs (k * 4 + 2))) ∧ w'.cell? ⟨b, o + k * 4 + 3, none⟩ = some (.int .i64 (num zs (k * 4 + 3))))) (by kernel_rfl) ?hSq4xs (fun zH => ?restq4xs)
      case hSq4xs => (exact kp2)
      refine tkV 0 ?_
      refine tkV 1 ?_
      refine tkV 2 ?_
      refine tkV 3 ?_
      refine rd1 4 (fun K hK => ?_)
      go_simp
      (go_at_call 62; refine (spec_l2Order _ _ _ _ _).mono ?_; rw [hOB]; rintro e w' ⟨rfl, hb⟩)
      refine hK.out _ _ ?hSq4x5 (fun zH => ?restq4x5)
      case hSq4x5 => (exact kp2)
      clear hK K
      try simp only [Act.put, sA, sB, sC]
      refine tkV 5 ?_
      refine tkV 6 ?_
      refine hdN 7 ?_
      refine hdN 8 ?_
      refine hdN 9 ?_
      refine hdN 10 ?_
      refine hdN 11 ?_
      refine hdN 12 ?_
      refine hdN 13 ?_
      refine hdN 14 ?_
      refine hdN 15 ?_
      refine hdN 16 ?_
      refine hdN 17 ?_
      refine hdN 18 ?_
      refine hdN 19 ?_
      refine hdN 20 ?_
      refine hdN 21 ?_
      refine rd1 22 (fun K hK => ?_)
      go_simp
      refine hK.out _ _ ?hSq4x23 (fun zH => ?restq4x23)
      case hSq4x23 => (exact kp2)
      clear hK K
      try simp only [Act.put, sA, sB, sC]
      refine hdN 23 ?_
      refine tkV 24 ?_
      refine dn1 ?_
      have hBz := HB.out.trans (zH.1.mono HB.out.size)
      clear zH
      go_wp2_with fail
      go_ret
      exact ⟨by rw [HN.out]; rfl, hBz⟩
  · obtain rfl : k = n := by omega
    clear hall hsrt
    by_cases h20 : k ≤ 20
    · have t0 : decide ((k : Int) ≤ 20) = true := decide_eq_true (by omega)
      have HQ := Lib.hid (show sideB side zs k = true from by rw [HS.out, HL.out, HT.out, decide_eq_true h20]; rfl)
      go_wp2_with fail
      go_ret
      exact ⟨by rw [HQ.out]; first | rfl | simp [h20], hbel⟩
    · have t0 : decide ((k : Int) ≤ 20) = false := decide_eq_false (by omega)
      have HQ := Lib.hid (show sideB side zs k = false from by rw [HS.out, decide_eq_false h20]; rfl)
      go_wp2_with fail
      go_ret
      exact ⟨by rw [HQ.out]; first | rfl | simp [h20], hbel⟩
end Go.Proofs.YtgjjdnojiegidaaGreatDoor
