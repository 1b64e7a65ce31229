/-
  Which books are right: the specification's functions.
-/
import Derived.Test.YtempggikcpminaaBookW
namespace Go.Proofs.Ytempggikcpminaa
open Go.RowKit Wire

set_option linter.unusedSimpArgs false in
set_option maxHeartbeats 3200000 in
set_option maxRecDepth 100000 in
theorem spec_l2Side (A : Option Addr) (n c : Nat) (zs : List Int) (side : Int) (w : World) (hl : Lst w w.heap.size 4 A n zs) (hn : n ≤ 1048576) :
    Calls Try.prog 109 #[.int .i64 side, .slice A n c] w fun e w' => e = .returned (.bool (sideB side zs n)) ∧ Below w.heap.size w w' := by
  have HS := Lib.hid (show sideB side zs n = (decide (n ≤ 20) && (allO zs n && srtO side zs n)) from rfl)
  go_enter Try.func109, Try.ntmps109
  go_wp2_with fail
  go_loopw [5] (fun i wr => ∃ k : Nat, k ≤ n ∧ i = .int .i64 (k : Int) ∧ allO zs k = true ∧ srtO side zs k = true ∧ Below w.heap.size w wr) (fun i _ => n - (intOf i).toNat)
  case atStart => exact ⟨0, Nat.zero_le _, rfl, rfl, rfl, Below.refl _ _⟩
  case round =>
    obtain ⟨k, hk, rfl, hall, hsrt, hbel⟩ := hrel
    have HL := Lib.hid hall
    have HT := Lib.hid hsrt
    have HB := Lib.hid hbel
    by_cases hlt : k < n
    · have HE := Lib.hid (ordB_eq zs k)
      have HA := Lib.hid (show allO zs (k + 1) = (allO zs k && ordB zs k) from rfl)
      rcases Bool.eq_false_or_eq_true (ordB zs k) with hat | hat
      · have HO := Lib.hid hat
        have hOB : ordI (num zs (k * 4)) (num zs (k * 4 + 1)) (num zs (k * 4 + 2)) (num zs (k * 4 + 3)) = true := hat
        clear hat hall hsrt
        rcases k with _ | j
        · obtain ⟨b, o, rfl, hb, c0, c1, c2, c3⟩ := (hl.below hbel).row4 hlt
          simp at c0 c1 c2 c3
          replace hOB : ordI (num zs 0) (num zs 1) (num zs 2) (num zs 3) = true := hOB
          clear hbel
          go_upto_region 4 with fail
          refine wp_region_held_drew (S := (fun w' => Below wr.heap.size wr w' ∧ w'.cell? ⟨b, o, none⟩ = some (.int .i64 (num zs 0)) ∧ w'.cell? ⟨b, o + 1, none⟩ = some (.int .i64 (num zs 1)) ∧ w'.cell? ⟨b, o + 2, none⟩ = some (.int .i64 (num zs 2)) ∧ w'.cell? ⟨b, o + 3, none⟩ = some (.int .i64 (num zs 3)))) (by kernel_rfl) ?hSq1xs (fun hHeld => ?restq1xs)
          case hSq1xs => ((first | assumption | ((((try dsimp only); repeat' apply And.intro) <;> (first | assumption | (refine below_later ?_ (by assumption); first | assumption | (simp only [*]; done) | (go_grown; done)) | (refine cell_later (by assumption) ?_; first | assumption | (simp only [*]; done) | (simp [go_sem]; done)) | (go_grown; done) | (simp [go_sem]; done))))))
          refine wpAnyH_take (i := 0) (oi := ?oiq1x1) (v := ?vq1x1) ?hiq1x1 (by kernel_rfl) (by kernel_rfl) (by kernel_rfl) ?hQq1x1 (Or.inl ⟨?hwq1x1, ?hyq1x1⟩) (by assumption) ?restq1x1
          case hiq1x1 => simp only [List.getElem?_toArray, List.getElem?_cons_succ, List.getElem?_cons_zero]; exact rfl
          case hQq1x1 => exact fun _ _ _ h => h
          case hwq1x1 => rfl
          case hyq1x1 => ((intro w hSw; (try dsimp only at hSw); go_simp) <;> with_reducible rfl)
          try simp only [Act.put, List.setIfInBounds_toArray, List.set_cons_zero, List.set_cons_succ]
          refine wpAnyH_take (i := 1) (oi := ?oiq1x2) (v := ?vq1x2) ?hiq1x2 (by kernel_rfl) (by kernel_rfl) (by kernel_rfl) ?hQq1x2 (Or.inl ⟨?hwq1x2, ?hyq1x2⟩) (by assumption) ?restq1x2
          case hiq1x2 => simp only [List.getElem?_toArray, List.getElem?_cons_succ, List.getElem?_cons_zero]; exact rfl
          case hQq1x2 => exact fun _ _ _ h => h
          case hwq1x2 => rfl
          case hyq1x2 => ((intro w hSw; (try dsimp only at hSw); go_simp) <;> with_reducible rfl)
          try simp only [Act.put, List.setIfInBounds_toArray, List.set_cons_zero, List.set_cons_succ]
          refine wpAnyH_take (i := 2) (oi := ?oiq1x3) (v := ?vq1x3) ?hiq1x3 (by kernel_rfl) (by kernel_rfl) (by kernel_rfl) ?hQq1x3 (Or.inl ⟨?hwq1x3, ?hyq1x3⟩) (by assumption) ?restq1x3
          case hiq1x3 => simp only [List.getElem?_toArray, List.getElem?_cons_succ, List.getElem?_cons_zero]; exact rfl
          case hQq1x3 => exact fun _ _ _ h => h
          case hwq1x3 => rfl
          case hyq1x3 => ((intro w hSw; (try dsimp only at hSw); go_simp) <;> with_reducible rfl)
          try simp only [Act.put, List.setIfInBounds_toArray, List.set_cons_zero, List.set_cons_succ]
          refine wpAnyH_take (i := 3) (oi := ?oiq1x4) (v := ?vq1x4) ?hiq1x4 (by kernel_rfl) (by kernel_rfl) (by kernel_rfl) ?hQq1x4 (Or.inl ⟨?hwq1x4, ?hyq1x4⟩) (by assumption) ?restq1x4
          case hiq1x4 => simp only [List.getElem?_toArray, List.getElem?_cons_succ, List.getElem?_cons_zero]; exact rfl
          case hQq1x4 => exact fun _ _ _ h => h
          case hwq1x4 => rfl
          case hyq1x4 => ((intro w hSw; (try dsimp only at hSw); go_simp) <;> with_reducible rfl)
          try simp only [Act.put, List.setIfInBounds_toArray, List.set_cons_zero, List.set_cons_succ]
          refine wpAnyH_ready (rs := [4]) (by kernel_rfl) (by simp) ?_
          refine AllReadyH.cons (o := ?oq1x5) ?hoq1x5 (fun K hK => ?stepq1x5) ?moreq1x5
          case hoq1x5 => simp only [List.getElem?_toArray, List.getElem?_cons_succ, List.getElem?_cons_zero]; exact rfl
          case moreq1x5 => exact AllReadyH.nil
          go_simp
          (go_at_call 100; refine (spec_l2Order _ _ _ _ _).mono ?_; rw [hOB]; rintro e w' ⟨rfl, hb⟩)
          refine hK.out _ _ ?hSq1x5 (fun hHeld => ?restq1x5)
          case hSq1x5 => ((first | assumption | ((((try dsimp only); repeat' apply And.intro) <;> (first | assumption | (refine below_later ?_ (by assumption); first | assumption | (simp only [*]; done) | (go_grown; done)) | (refine cell_later (by assumption) ?_; first | assumption | (simp only [*]; done) | (simp [go_sem]; done)) | (go_grown; done) | (simp [go_sem]; done))))))
          clear hK K
          try simp only [Act.put, List.setIfInBounds_toArray, List.set_cons_zero, List.set_cons_succ]
          refine wpAnyH_take (i := 5) (oi := ?oiq1x6) (v := ?vq1x6) ?hiq1x6 (by kernel_rfl) (by kernel_rfl) (by kernel_rfl) ?hQq1x6 (Or.inl ⟨?hwq1x6, ?hyq1x6⟩) (by assumption) ?restq1x6
          case hiq1x6 => simp only [List.getElem?_toArray, List.getElem?_cons_succ, List.getElem?_cons_zero]; exact rfl
          case hQq1x6 => exact fun _ _ _ h => h
          case hwq1x6 => rfl
          case hyq1x6 => ((intro w hSw; (try dsimp only at hSw); go_simp) <;> with_reducible rfl)
          try simp only [Act.put, List.setIfInBounds_toArray, List.set_cons_zero, List.set_cons_succ]
          refine wpAnyH_take (i := 6) (oi := ?oiq1x7) (v := ?vq1x7) ?hiq1x7 (by kernel_rfl) (by kernel_rfl) (by kernel_rfl) ?hQq1x7 (Or.inl ⟨?hwq1x7, ?hyq1x7⟩) (by assumption) ?restq1x7
          case hiq1x7 => simp only [List.getElem?_toArray, List.getElem?_cons_succ, List.getElem?_cons_zero]; exact rfl
          case hQq1x7 => exact fun _ _ _ h => h
          case hwq1x7 => rfl
          case hyq1x7 => ((intro w hSw; (try dsimp only at hSw); go_simp) <;> with_reducible rfl)
          try simp only [Act.put, List.setIfInBounds_toArray, List.set_cons_zero, List.set_cons_succ]
          refine wpAnyH_take (i := 7) (oi := ?oiq1x8) (v := ?vq1x8) ?hiq1x8 (by kernel_rfl) (by kernel_rfl) (by kernel_rfl) ?hQq1x8 (Or.inl ⟨?hwq1x8, ?hyq1x8⟩) (by assumption) ?restq1x8
          case hiq1x8 => simp only [List.getElem?_toArray, List.getElem?_cons_succ, List.getElem?_cons_zero]; exact rfl
          case hQq1x8 => exact fun _ _ _ h => h
          case hwq1x8 => rfl
          case hyq1x8 => ((intro w hSw; (try dsimp only at hSw); go_simp) <;> with_reducible rfl)
          try simp only [Act.put, List.setIfInBounds_toArray, List.set_cons_zero, List.set_cons_succ]
          refine wpAnyH_take (i := 8) (oi := ?oiq1x9) (v := ?vq1x9) ?hiq1x9 (by kernel_rfl) (by kernel_rfl) (by kernel_rfl) ?hQq1x9 (Or.inl ⟨?hwq1x9, ?hyq1x9⟩) (by assumption) ?restq1x9
          case hiq1x9 => simp only [List.getElem?_toArray, List.getElem?_cons_succ, List.getElem?_cons_zero]; exact rfl
          case hQq1x9 => exact fun _ _ _ h => h
          case hwq1x9 => rfl
          case hyq1x9 => ((intro w hSw; (try dsimp only at hSw); go_simp) <;> with_reducible rfl)
          try simp only [Act.put, List.setIfInBounds_toArray, List.set_cons_zero, List.set_cons_succ]
          refine wpAnyH_take (i := 9) (oi := ?oiq1x10) (v := ?vq1x10) ?hiq1x10 (by kernel_rfl) (by kernel_rfl) (by kernel_rfl) ?hQq1x10 (Or.inl ⟨?hwq1x10, ?hyq1x10⟩) (by assumption) ?restq1x10
          case hiq1x10 => simp only [List.getElem?_toArray, List.getElem?_cons_succ, List.getElem?_cons_zero]; exact rfl
          case hQq1x10 => exact fun _ _ _ h => h
          case hwq1x10 => rfl
          case hyq1x10 => ((intro w hSw; (try dsimp only at hSw); go_simp) <;> with_reducible rfl)
          try simp only [Act.put, List.setIfInBounds_toArray, List.set_cons_zero, List.set_cons_succ]
          refine wpAnyH_take (i := 10) (oi := ?oiq1x11) (v := _) ?hiq1x11 (by kernel_rfl) (by kernel_rfl) (by kernel_rfl) ?hQq1x11 (Or.inr ⟨?hwq1x11, rfl⟩) (by assumption) ?restq1x11
          case hiq1x11 => simp only [List.getElem?_toArray, List.getElem?_cons_succ, List.getElem?_cons_zero]; exact rfl
          case hQq1x11 => exact fun _ _ _ h => h
          case hwq1x11 => rfl
          try simp only [Act.put, List.setIfInBounds_toArray, List.set_cons_zero, List.set_cons_succ]
          refine wpAnyH_take (i := 11) (oi := ?oiq1x12) (v := _) ?hiq1x12 (by kernel_rfl) (by kernel_rfl) (by kernel_rfl) ?hQq1x12 (Or.inr ⟨?hwq1x12, rfl⟩) (by assumption) ?restq1x12
          case hiq1x12 => simp only [List.getElem?_toArray, List.getElem?_cons_succ, List.getElem?_cons_zero]; exact rfl
          case hQq1x12 => exact fun _ _ _ h => h
          case hwq1x12 => rfl
          try simp only [Act.put, List.setIfInBounds_toArray, List.set_cons_zero, List.set_cons_succ]
          refine wpAnyH_take (i := 12) (oi := ?oiq1x13) (v := _) ?hiq1x13 (by kernel_rfl) (by kernel_rfl) (by kernel_rfl) ?hQq1x13 (Or.inr ⟨?hwq1x13, rfl⟩) (by assumption) ?restq1x13
          case hiq1x13 => simp only [List.getElem?_toArray, List.getElem?_cons_succ, List.getElem?_cons_zero]; exact rfl
          case hQq1x13 => exact fun _ _ _ h => h
          case hwq1x13 => rfl
          try simp only [Act.put, List.setIfInBounds_toArray, List.set_cons_zero, List.set_cons_succ]
          refine wpAnyH_take (i := 13) (oi := ?oiq1x14) (v := _) ?hiq1x14 (by kernel_rfl) (by kernel_rfl) (by kernel_rfl) ?hQq1x14 (Or.inr ⟨?hwq1x14, rfl⟩) (by assumption) ?restq1x14
          case hiq1x14 => simp only [List.getElem?_toArray, List.getElem?_cons_succ, List.getElem?_cons_zero]; exact rfl
          case hQq1x14 => exact fun _ _ _ h => h
          case hwq1x14 => rfl
          try simp only [Act.put, List.setIfInBounds_toArray, List.set_cons_zero, List.set_cons_succ]
          refine wpAnyH_take (i := 14) (oi := ?oiq1x15) (v := _) ?hiq1x15 (by kernel_rfl) (by kernel_rfl) (by kernel_rfl) ?hQq1x15 (Or.inr ⟨?hwq1x15, rfl⟩) (by assumption) ?restq1x15
          case hiq1x15 => simp only [List.getElem?_toArray, List.getElem?_cons_succ, List.getElem?_cons_zero]; exact rfl
          case hQq1x15 => exact fun _ _ _ h => h
          case hwq1x15 => rfl
          try simp only [Act.put, List.setIfInBounds_toArray, List.set_cons_zero, List.set_cons_succ]
          refine wpAnyH_take (i := 15) (oi := ?oiq1x16) (v := _) ?hiq1x16 (by kernel_rfl) (by kernel_rfl) (by kernel_rfl) ?hQq1x16 (Or.inr ⟨?hwq1x16, rfl⟩) (by assumption) ?restq1x16
          case hiq1x16 => simp only [List.getElem?_toArray, List.getElem?_cons_succ, List.getElem?_cons_zero]; exact rfl
          case hQq1x16 => exact fun _ _ _ h => h
          case hwq1x16 => rfl
          try simp only [Act.put, List.setIfInBounds_toArray, List.set_cons_zero, List.set_cons_succ]
          refine wpAnyH_take (i := 16) (oi := ?oiq1x17) (v := _) ?hiq1x17 (by kernel_rfl) (by kernel_rfl) (by kernel_rfl) ?hQq1x17 (Or.inr ⟨?hwq1x17, rfl⟩) (by assumption) ?restq1x17
          case hiq1x17 => simp only [List.getElem?_toArray, List.getElem?_cons_succ, List.getElem?_cons_zero]; exact rfl
          case hQq1x17 => exact fun _ _ _ h => h
          case hwq1x17 => rfl
          try simp only [Act.put, List.setIfInBounds_toArray, List.set_cons_zero, List.set_cons_succ]
          refine wpAnyH_take (i := 17) (oi := ?oiq1x18) (v := _) ?hiq1x18 (by kernel_rfl) (by kernel_rfl) (by kernel_rfl) ?hQq1x18 (Or.inr ⟨?hwq1x18, rfl⟩) (by assumption) ?restq1x18
          case hiq1x18 => simp only [List.getElem?_toArray, List.getElem?_cons_succ, List.getElem?_cons_zero]; exact rfl
          case hQq1x18 => exact fun _ _ _ h => h
          case hwq1x18 => rfl
          try simp only [Act.put, List.setIfInBounds_toArray, List.set_cons_zero, List.set_cons_succ]
          refine wpAnyH_take (i := 18) (oi := ?oiq1x19) (v := _) ?hiq1x19 (by kernel_rfl) (by kernel_rfl) (by kernel_rfl) ?hQq1x19 (Or.inr ⟨?hwq1x19, rfl⟩) (by assumption) ?restq1x19
          case hiq1x19 => simp only [List.getElem?_toArray, List.getElem?_cons_succ, List.getElem?_cons_zero]; exact rfl
          case hQq1x19 => exact fun _ _ _ h => h
          case hwq1x19 => rfl
          try simp only [Act.put, List.setIfInBounds_toArray, List.set_cons_zero, List.set_cons_succ]
          refine wpAnyH_take (i := 19) (oi := ?oiq1x20) (v := _) ?hiq1x20 (by kernel_rfl) (by kernel_rfl) (by kernel_rfl) ?hQq1x20 (Or.inr ⟨?hwq1x20, rfl⟩) (by assumption) ?restq1x20
          case hiq1x20 => simp only [List.getElem?_toArray, List.getElem?_cons_succ, List.getElem?_cons_zero]; exact rfl
          case hQq1x20 => exact fun _ _ _ h => h
          case hwq1x20 => rfl
          try simp only [Act.put, List.setIfInBounds_toArray, List.set_cons_zero, List.set_cons_succ]
          refine wpAnyH_take (i := 20) (oi := ?oiq1x21) (v := _) ?hiq1x21 (by kernel_rfl) (by kernel_rfl) (by kernel_rfl) ?hQq1x21 (Or.inr ⟨?hwq1x21, rfl⟩) (by assumption) ?restq1x21
          case hiq1x21 => simp only [List.getElem?_toArray, List.getElem?_cons_succ, List.getElem?_cons_zero]; exact rfl
          case hQq1x21 => exact fun _ _ _ h => h
          case hwq1x21 => rfl
          try simp only [Act.put, List.setIfInBounds_toArray, List.set_cons_zero, List.set_cons_succ]
          refine wpAnyH_take (i := 21) (oi := ?oiq1x22) (v := _) ?hiq1x22 (by kernel_rfl) (by kernel_rfl) (by kernel_rfl) ?hQq1x22 (Or.inr ⟨?hwq1x22, rfl⟩) (by assumption) ?restq1x22
          case hiq1x22 => simp only [List.getElem?_toArray, List.getElem?_cons_succ, List.getElem?_cons_zero]; exact rfl
          case hQq1x22 => exact fun _ _ _ h => h
          case hwq1x22 => rfl
          try simp only [Act.put, List.setIfInBounds_toArray, List.set_cons_zero, List.set_cons_succ]
          refine wpAnyH_ready (rs := [22]) (by kernel_rfl) (by simp) ?_
          refine AllReadyH.cons (o := ?oq1x23) ?hoq1x23 (fun K hK => ?stepq1x23) ?moreq1x23
          case hoq1x23 => simp only [List.getElem?_toArray, List.getElem?_cons_succ, List.getElem?_cons_zero]; exact rfl
          case moreq1x23 => exact AllReadyH.nil
          go_simp
          refine hK.out _ _ ?hSq1x23 (fun hHeld => ?restq1x23)
          case hSq1x23 => ((first | assumption | ((((try dsimp only); repeat' apply And.intro) <;> (first | assumption | (refine below_later ?_ (by assumption); first | assumption | (simp only [*]; done) | (go_grown; done)) | (refine cell_later (by assumption) ?_; first | assumption | (simp only [*]; done) | (simp [go_sem]; done)) | (go_grown; done) | (simp [go_sem]; done))))))
          clear hK K
          try simp only [Act.put, List.setIfInBounds_toArray, List.set_cons_zero, List.set_cons_succ]
          refine wpAnyH_take (i := 23) (oi := ?oiq1x24) (v := ?vq1x24) ?hiq1x24 (by kernel_rfl) (by kernel_rfl) (by kernel_rfl) ?hQq1x24 (Or.inl ⟨?hwq1x24, ?hyq1x24⟩) (by assumption) ?restq1x24
          case hiq1x24 => simp only [List.getElem?_toArray, List.getElem?_cons_succ, List.getElem?_cons_zero]; exact rfl
          case hQq1x24 => exact fun _ _ _ h => h
          case hwq1x24 => rfl
          case hyq1x24 => ((intro w hSw; (try dsimp only at hSw); go_simp) <;> with_reducible rfl)
          try simp only [Act.put, List.setIfInBounds_toArray, List.set_cons_zero, List.set_cons_succ]
          refine wpAnyH_take (i := 24) (oi := ?oiq1x25) (v := ?vq1x25) ?hiq1x25 (by kernel_rfl) (by kernel_rfl) (by kernel_rfl) ?hQq1x25 (Or.inl ⟨?hwq1x25, ?hyq1x25⟩) (by assumption) ?restq1x25
          case hiq1x25 => simp only [List.getElem?_toArray, List.getElem?_cons_succ, List.getElem?_cons_zero]; exact rfl
          case hQq1x25 => exact fun _ _ _ h => h
          case hwq1x25 => rfl
          case hyq1x25 => ((intro w hSw; (try dsimp only at hSw); go_simp) <;> with_reducible rfl)
          try simp only [Act.put, List.setIfInBounds_toArray, List.set_cons_zero, List.set_cons_succ]
          refine wpAnyH_done (by kernel_rfl) ?_ _
          have hBz := HB.out.trans (hHeld.1.mono HB.out.size)
          clear hHeld
          go_wp2_with fail
          go_roundw
          case rel => exact ⟨1, by omega, by go_num, by rw [HA.out, HL.out, HO.out]; rfl, srtO_step HT.out (.inl rfl), hBz⟩
          case measure => simp [intOf]; omega
        · obtain ⟨b, o, rfl, hb, c0, c1, c2, c3⟩ := (hl.below hbel).row4 hlt
          have hj : j < n := by omega
          have p2 : wr.cell? ⟨b, o + j * 4 + 2, none⟩ = some (.int .i64 (price zs j)) := by
            obtain ⟨b', o', e, _, _, _, p2, _⟩ := (hl.below hbel).row4 hj
            injection e with e
            injection e with e1 e2
            subst e1 e2
            exact p2
          have b0 : (0 : Int) ≤ (j : Int) := by omega
          have b1 : (j : Int) < (n : Int) := by omega
          have b2 : (j : Int) + 1 < (n : Int) := by omega
          have b4 : (0 : Int) < (j : Int) + 1 := by omega
          have b8 : (0 : Int) ≤ (j : Int) + 1 := by omega
          have b5 : (j : Int) + 1 - 1 = (j : Int) := by omega
          have b6 : IntKind.i64.wrap ((j : Int) + 1 - 1) = (j : Int) := by rw [IntKind.wrap_i64]; omega
          have b7 : IntKind.i64.wrap (j : Int) = (j : Int) := by rw [IntKind.wrap_i64]; omega
          clear hbel
          rcases Bool.eq_false_or_eq_true (betB side (price zs (j + 1)) (price zs j)) with hbt | hbt
          · have HN := Lib.hid (show sideB side zs n = false from by rw [HS.out, srtO_no (k := j + 1) (by omega) hbt n hlt]; simp)
            have hAB : betB side (num zs ((j + 1) * 4 + 2)) (price zs j) = true := hbt
            clear hbt
            go_upto_region 4 with fail
            refine wp_region_held_drew (S := (fun w' => Below wr.heap.size wr w' ∧ w'.cell? ⟨b, o + (j + 1) * 4, none⟩ = some (.int .i64 (num zs ((j + 1) * 4))) ∧ w'.cell? ⟨b, o + (j + 1) * 4 + 1, none⟩ = some (.int .i64 (num zs ((j + 1) * 4 + 1))) ∧ w'.cell? ⟨b, o + (j + 1) * 4 + 2, none⟩ = some (.int .i64 (num zs ((j + 1) * 4 + 2))) ∧ w'.cell? ⟨b, o + (j + 1) * 4 + 3, none⟩ = some (.int .i64 (num zs ((j + 1) * 4 + 3))) ∧ w'.cell? ⟨b, o + j * 4 + 2, none⟩ = some (.int .i64 (price zs j)))) (by kernel_rfl) ?hSq2xs (fun hHeld => ?restq2xs)
            case hSq2xs => ((first | assumption | ((((try dsimp only); repeat' apply And.intro) <;> (first | assumption | (refine below_later ?_ (by assumption); first | assumption | (simp only [*]; done) | (go_grown; done)) | (refine cell_later (by assumption) ?_; first | assumption | (simp only [*]; done) | (simp [go_sem]; done)) | (go_grown; done) | (simp [go_sem]; done))))))
            refine wpAnyH_take (i := 0) (oi := ?oiq2x1) (v := ?vq2x1) ?hiq2x1 (by kernel_rfl) (by kernel_rfl) (by kernel_rfl) ?hQq2x1 (Or.inl ⟨?hwq2x1, ?hyq2x1⟩) (by assumption) ?restq2x1
            case hiq2x1 => simp only [List.getElem?_toArray, List.getElem?_cons_succ, List.getElem?_cons_zero]; exact rfl
            case hQq2x1 => exact fun _ _ _ h => h
            case hwq2x1 => rfl
            case hyq2x1 => ((intro w hSw; (try dsimp only at hSw); go_simp) <;> with_reducible rfl)
            try simp only [Act.put, List.setIfInBounds_toArray, List.set_cons_zero, List.set_cons_succ]
            refine wpAnyH_take (i := 1) (oi := ?oiq2x2) (v := ?vq2x2) ?hiq2x2 (by kernel_rfl) (by kernel_rfl) (by kernel_rfl) ?hQq2x2 (Or.inl ⟨?hwq2x2, ?hyq2x2⟩) (by assumption) ?restq2x2
            case hiq2x2 => simp only [List.getElem?_toArray, List.getElem?_cons_succ, List.getElem?_cons_zero]; exact rfl
            case hQq2x2 => exact fun _ _ _ h => h
            case hwq2x2 => rfl
            case hyq2x2 => ((intro w hSw; (try dsimp only at hSw); go_simp) <;> with_reducible rfl)
            try simp only [Act.put, List.setIfInBounds_toArray, List.set_cons_zero, List.set_cons_succ]
            refine wpAnyH_take (i := 2) (oi := ?oiq2x3) (v := ?vq2x3) ?hiq2x3 (by kernel_rfl) (by kernel_rfl) (by kernel_rfl) ?hQq2x3 (Or.inl ⟨?hwq2x3, ?hyq2x3⟩) (by assumption) ?restq2x3
            case hiq2x3 => simp only [List.getElem?_toArray, List.getElem?_cons_succ, List.getElem?_cons_zero]; exact rfl
            case hQq2x3 => exact fun _ _ _ h => h
            case hwq2x3 => rfl
            case hyq2x3 => ((intro w hSw; (try dsimp only at hSw); go_simp) <;> with_reducible rfl)
            try simp only [Act.put, List.setIfInBounds_toArray, List.set_cons_zero, List.set_cons_succ]
            refine wpAnyH_take (i := 3) (oi := ?oiq2x4) (v := ?vq2x4) ?hiq2x4 (by kernel_rfl) (by kernel_rfl) (by kernel_rfl) ?hQq2x4 (Or.inl ⟨?hwq2x4, ?hyq2x4⟩) (by assumption) ?restq2x4
            case hiq2x4 => simp only [List.getElem?_toArray, List.getElem?_cons_succ, List.getElem?_cons_zero]; exact rfl
            case hQq2x4 => exact fun _ _ _ h => h
            case hwq2x4 => rfl
            case hyq2x4 => ((intro w hSw; (try dsimp only at hSw); go_simp) <;> with_reducible rfl)
            try simp only [Act.put, List.setIfInBounds_toArray, List.set_cons_zero, List.set_cons_succ]
            refine wpAnyH_ready (rs := [4]) (by kernel_rfl) (by simp) ?_
            refine AllReadyH.cons (o := ?oq2x5) ?hoq2x5 (fun K hK => ?stepq2x5) ?moreq2x5
            case hoq2x5 => simp only [List.getElem?_toArray, List.getElem?_cons_succ, List.getElem?_cons_zero]; exact rfl
            case moreq2x5 => exact AllReadyH.nil
            go_simp
            (go_at_call 100; refine (spec_l2Order _ _ _ _ _).mono ?_; rw [hOB]; rintro e w' ⟨rfl, hb⟩)
            refine hK.out _ _ ?hSq2x5 (fun hHeld => ?restq2x5)
            case hSq2x5 => ((first | assumption | ((((try dsimp only); repeat' apply And.intro) <;> (first | assumption | (refine below_later ?_ (by assumption); first | assumption | (simp only [*]; done) | (go_grown; done)) | (refine cell_later (by assumption) ?_; first | assumption | (simp only [*]; done) | (simp [go_sem]; done)) | (go_grown; done) | (simp [go_sem]; done))))))
            clear hK K
            try simp only [Act.put, List.setIfInBounds_toArray, List.set_cons_zero, List.set_cons_succ]
            refine wpAnyH_take (i := 5) (oi := ?oiq2x6) (v := ?vq2x6) ?hiq2x6 (by kernel_rfl) (by kernel_rfl) (by kernel_rfl) ?hQq2x6 (Or.inl ⟨?hwq2x6, ?hyq2x6⟩) (by assumption) ?restq2x6
            case hiq2x6 => simp only [List.getElem?_toArray, List.getElem?_cons_succ, List.getElem?_cons_zero]; exact rfl
            case hQq2x6 => exact fun _ _ _ h => h
            case hwq2x6 => rfl
            case hyq2x6 => ((intro w hSw; (try dsimp only at hSw); go_simp) <;> with_reducible rfl)
            try simp only [Act.put, List.setIfInBounds_toArray, List.set_cons_zero, List.set_cons_succ]
            refine wpAnyH_take (i := 6) (oi := ?oiq2x7) (v := ?vq2x7) ?hiq2x7 (by kernel_rfl) (by kernel_rfl) (by kernel_rfl) ?hQq2x7 (Or.inl ⟨?hwq2x7, ?hyq2x7⟩) (by assumption) ?restq2x7
            case hiq2x7 => simp only [List.getElem?_toArray, List.getElem?_cons_succ, List.getElem?_cons_zero]; exact rfl
            case hQq2x7 => exact fun _ _ _ h => h
            case hwq2x7 => rfl
            case hyq2x7 => ((intro w hSw; (try dsimp only at hSw); go_simp) <;> with_reducible rfl)
            try simp only [Act.put, List.setIfInBounds_toArray, List.set_cons_zero, List.set_cons_succ]
            refine wpAnyH_take (i := 7) (oi := ?oiq2x8) (v := ?vq2x8) ?hiq2x8 (by kernel_rfl) (by kernel_rfl) (by kernel_rfl) ?hQq2x8 (Or.inl ⟨?hwq2x8, ?hyq2x8⟩) (by assumption) ?restq2x8
            case hiq2x8 => simp only [List.getElem?_toArray, List.getElem?_cons_succ, List.getElem?_cons_zero]; exact rfl
            case hQq2x8 => exact fun _ _ _ h => h
            case hwq2x8 => rfl
            case hyq2x8 => ((intro w hSw; (try dsimp only at hSw); go_simp) <;> with_reducible rfl)
            try simp only [Act.put, List.setIfInBounds_toArray, List.set_cons_zero, List.set_cons_succ]
            refine wpAnyH_take (i := 8) (oi := ?oiq2x9) (v := ?vq2x9) ?hiq2x9 (by kernel_rfl) (by kernel_rfl) (by kernel_rfl) ?hQq2x9 (Or.inl ⟨?hwq2x9, ?hyq2x9⟩) (by assumption) ?restq2x9
            case hiq2x9 => simp only [List.getElem?_toArray, List.getElem?_cons_succ, List.getElem?_cons_zero]; exact rfl
            case hQq2x9 => exact fun _ _ _ h => h
            case hwq2x9 => rfl
            case hyq2x9 => ((intro w hSw; (try dsimp only at hSw); go_simp) <;> with_reducible rfl)
            try simp only [Act.put, List.setIfInBounds_toArray, List.set_cons_zero, List.set_cons_succ]
            refine wpAnyH_take (i := 9) (oi := ?oiq2x10) (v := ?vq2x10) ?hiq2x10 (by kernel_rfl) (by kernel_rfl) (by kernel_rfl) ?hQq2x10 (Or.inl ⟨?hwq2x10, ?hyq2x10⟩) (by assumption) ?restq2x10
            case hiq2x10 => simp only [List.getElem?_toArray, List.getElem?_cons_succ, List.getElem?_cons_zero]; exact rfl
            case hQq2x10 => exact fun _ _ _ h => h
            case hwq2x10 => rfl
            case hyq2x10 => ((intro w hSw; (try dsimp only at hSw); go_simp) <;> with_reducible rfl)
            try simp only [Act.put, List.setIfInBounds_toArray, List.set_cons_zero, List.set_cons_succ]
            refine wpAnyH_take (i := 10) (oi := ?oiq2x11) (v := ?vq2x11) ?hiq2x11 (by kernel_rfl) (by kernel_rfl) (by kernel_rfl) ?hQq2x11 (Or.inl ⟨?hwq2x11, ?hyq2x11⟩) (by assumption) ?restq2x11
            case hiq2x11 => simp only [List.getElem?_toArray, List.getElem?_cons_succ, List.getElem?_cons_zero]; exact rfl
            case hQq2x11 => exact fun _ _ _ h => h
            case hwq2x11 => rfl
            case hyq2x11 => ((intro w hSw; (try dsimp only at hSw); go_simp) <;> with_reducible rfl)
            try simp only [Act.put, List.setIfInBounds_toArray, List.set_cons_zero, List.set_cons_succ]
            refine wpAnyH_take (i := 11) (oi := ?oiq2x12) (v := ?vq2x12) ?hiq2x12 (by kernel_rfl) (by kernel_rfl) (by kernel_rfl) ?hQq2x12 (Or.inl ⟨?hwq2x12, ?hyq2x12⟩) (by assumption) ?restq2x12
            case hiq2x12 => simp only [List.getElem?_toArray, List.getElem?_cons_succ, List.getElem?_cons_zero]; exact rfl
            case hQq2x12 => exact fun _ _ _ h => h
            case hwq2x12 => rfl
            case hyq2x12 => ((intro w hSw; (try dsimp only at hSw); go_simp) <;> with_reducible rfl)
            try simp only [Act.put, List.setIfInBounds_toArray, List.set_cons_zero, List.set_cons_succ]
            refine wpAnyH_take (i := 12) (oi := ?oiq2x13) (v := ?vq2x13) ?hiq2x13 (by kernel_rfl) (by kernel_rfl) (by kernel_rfl) ?hQq2x13 (Or.inl ⟨?hwq2x13, ?hyq2x13⟩) (by assumption) ?restq2x13
            case hiq2x13 => simp only [List.getElem?_toArray, List.getElem?_cons_succ, List.getElem?_cons_zero]; exact rfl
            case hQq2x13 => exact fun _ _ _ h => h
            case hwq2x13 => rfl
            case hyq2x13 => ((intro w hSw; (try dsimp only at hSw); go_simp) <;> with_reducible rfl)
            try simp only [Act.put, List.setIfInBounds_toArray, List.set_cons_zero, List.set_cons_succ]
            refine wpAnyH_take (i := 13) (oi := ?oiq2x14) (v := ?vq2x14) ?hiq2x14 (by kernel_rfl) (by kernel_rfl) (by kernel_rfl) ?hQq2x14 (Or.inl ⟨?hwq2x14, ?hyq2x14⟩) (by assumption) ?restq2x14
            case hiq2x14 => simp only [List.getElem?_toArray, List.getElem?_cons_succ, List.getElem?_cons_zero]; exact rfl
            case hQq2x14 => exact fun _ _ _ h => h
            case hwq2x14 => rfl
            case hyq2x14 => ((intro w hSw; (try dsimp only at hSw); go_simp) <;> with_reducible rfl)
            try simp only [Act.put, List.setIfInBounds_toArray, List.set_cons_zero, List.set_cons_succ]
            refine wpAnyH_take (i := 14) (oi := ?oiq2x15) (v := ?vq2x15) ?hiq2x15 (by kernel_rfl) (by kernel_rfl) (by kernel_rfl) ?hQq2x15 (Or.inl ⟨?hwq2x15, ?hyq2x15⟩) (by assumption) ?restq2x15
            case hiq2x15 => simp only [List.getElem?_toArray, List.getElem?_cons_succ, List.getElem?_cons_zero]; exact rfl
            case hQq2x15 => exact fun _ _ _ h => h
            case hwq2x15 => rfl
            case hyq2x15 => ((intro w hSw; (try dsimp only at hSw); go_simp) <;> with_reducible rfl)
            try simp only [Act.put, List.setIfInBounds_toArray, List.set_cons_zero, List.set_cons_succ]
            refine wpAnyH_take (i := 15) (oi := ?oiq2x16) (v := ?vq2x16) ?hiq2x16 (by kernel_rfl) (by kernel_rfl) (by kernel_rfl) ?hQq2x16 (Or.inl ⟨?hwq2x16, ?hyq2x16⟩) (by assumption) ?restq2x16
            case hiq2x16 => simp only [List.getElem?_toArray, List.getElem?_cons_succ, List.getElem?_cons_zero]; exact rfl
            case hQq2x16 => exact fun _ _ _ h => h
            case hwq2x16 => rfl
            case hyq2x16 => ((intro w hSw; (try dsimp only at hSw); go_simp) <;> with_reducible rfl)
            try simp only [Act.put, List.setIfInBounds_toArray, List.set_cons_zero, List.set_cons_succ]
            refine wpAnyH_take (i := 16) (oi := ?oiq2x17) (v := ?vq2x17) ?hiq2x17 (by kernel_rfl) (by kernel_rfl) (by kernel_rfl) ?hQq2x17 (Or.inl ⟨?hwq2x17, ?hyq2x17⟩) (by assumption) ?restq2x17
            case hiq2x17 => simp only [List.getElem?_toArray, List.getElem?_cons_succ, List.getElem?_cons_zero]; exact rfl
            case hQq2x17 => exact fun _ _ _ h => h
            case hwq2x17 => rfl
            case hyq2x17 => ((intro w hSw; (try dsimp only at hSw); go_simp) <;> with_reducible rfl)
            try simp only [Act.put, List.setIfInBounds_toArray, List.set_cons_zero, List.set_cons_succ]
            refine wpAnyH_take (i := 17) (oi := ?oiq2x18) (v := ?vq2x18) ?hiq2x18 (by kernel_rfl) (by kernel_rfl) (by kernel_rfl) ?hQq2x18 (Or.inl ⟨?hwq2x18, ?hyq2x18⟩) (by assumption) ?restq2x18
            case hiq2x18 => simp only [List.getElem?_toArray, List.getElem?_cons_succ, List.getElem?_cons_zero]; exact rfl
            case hQq2x18 => exact fun _ _ _ h => h
            case hwq2x18 => rfl
            case hyq2x18 => ((intro w hSw; (try dsimp only at hSw); go_simp) <;> with_reducible rfl)
            try simp only [Act.put, List.setIfInBounds_toArray, List.set_cons_zero, List.set_cons_succ]
            refine wpAnyH_take (i := 18) (oi := ?oiq2x19) (v := ?vq2x19) ?hiq2x19 (by kernel_rfl) (by kernel_rfl) (by kernel_rfl) ?hQq2x19 (Or.inl ⟨?hwq2x19, ?hyq2x19⟩) (by assumption) ?restq2x19
            case hiq2x19 => simp only [List.getElem?_toArray, List.getElem?_cons_succ, List.getElem?_cons_zero]; exact rfl
            case hQq2x19 => exact fun _ _ _ h => h
            case hwq2x19 => rfl
            case hyq2x19 => ((intro w hSw; (try dsimp only at hSw); go_simp) <;> with_reducible rfl)
            try simp only [Act.put, List.setIfInBounds_toArray, List.set_cons_zero, List.set_cons_succ]
            refine wpAnyH_take (i := 19) (oi := ?oiq2x20) (v := ?vq2x20) ?hiq2x20 (by kernel_rfl) (by kernel_rfl) (by kernel_rfl) ?hQq2x20 (Or.inl ⟨?hwq2x20, ?hyq2x20⟩) (by assumption) ?restq2x20
            case hiq2x20 => simp only [List.getElem?_toArray, List.getElem?_cons_succ, List.getElem?_cons_zero]; exact rfl
            case hQq2x20 => exact fun _ _ _ h => h
            case hwq2x20 => rfl
            case hyq2x20 => ((intro w hSw; (try dsimp only at hSw); go_simp) <;> with_reducible rfl)
            try simp only [Act.put, List.setIfInBounds_toArray, List.set_cons_zero, List.set_cons_succ]
            refine wpAnyH_take (i := 20) (oi := ?oiq2x21) (v := ?vq2x21) ?hiq2x21 (by kernel_rfl) (by kernel_rfl) (by kernel_rfl) ?hQq2x21 (Or.inl ⟨?hwq2x21, ?hyq2x21⟩) (by assumption) ?restq2x21
            case hiq2x21 => simp only [List.getElem?_toArray, List.getElem?_cons_succ, List.getElem?_cons_zero]; exact rfl
            case hQq2x21 => exact fun _ _ _ h => h
            case hwq2x21 => rfl
            case hyq2x21 => ((intro w hSw; (try dsimp only at hSw); go_simp) <;> with_reducible rfl)
            try simp only [Act.put, List.setIfInBounds_toArray, List.set_cons_zero, List.set_cons_succ]
            refine wpAnyH_take (i := 21) (oi := ?oiq2x22) (v := ?vq2x22) ?hiq2x22 (by kernel_rfl) (by kernel_rfl) (by kernel_rfl) ?hQq2x22 (Or.inl ⟨?hwq2x22, ?hyq2x22⟩) (by assumption) ?restq2x22
            case hiq2x22 => simp only [List.getElem?_toArray, List.getElem?_cons_succ, List.getElem?_cons_zero]; exact rfl
            case hQq2x22 => exact fun _ _ _ h => h
            case hwq2x22 => rfl
            case hyq2x22 => ((intro w hSw; (try dsimp only at hSw); go_simp) <;> with_reducible rfl)
            try simp only [Act.put, List.setIfInBounds_toArray, List.set_cons_zero, List.set_cons_succ]
            refine wpAnyH_ready (rs := [22]) (by kernel_rfl) (by simp) ?_
            refine AllReadyH.cons (o := ?oq2x23) ?hoq2x23 (fun K hK => ?stepq2x23) ?moreq2x23
            case hoq2x23 => simp only [List.getElem?_toArray, List.getElem?_cons_succ, List.getElem?_cons_zero]; exact rfl
            case moreq2x23 => exact AllReadyH.nil
            go_simp
            (go_at_call 91; refine (spec_l2Ahead _ _ _ _).mono ?_; rw [hAB]; rintro e w' ⟨rfl, rfl⟩)
            refine hK.out _ _ ?hSq2x23 (fun hHeld => ?restq2x23)
            case hSq2x23 => ((first | assumption | ((((try dsimp only); repeat' apply And.intro) <;> (first | assumption | (refine below_later ?_ (by assumption); first | assumption | (simp only [*]; done) | (go_grown; done)) | (refine cell_later (by assumption) ?_; first | assumption | (simp only [*]; done) | (simp [go_sem]; done)) | (go_grown; done) | (simp [go_sem]; done))))))
            clear hK K
            try simp only [Act.put, List.setIfInBounds_toArray, List.set_cons_zero, List.set_cons_succ]
            refine wpAnyH_take (i := 23) (oi := ?oiq2x24) (v := ?vq2x24) ?hiq2x24 (by kernel_rfl) (by kernel_rfl) (by kernel_rfl) ?hQq2x24 (Or.inl ⟨?hwq2x24, ?hyq2x24⟩) (by assumption) ?restq2x24
            case hiq2x24 => simp only [List.getElem?_toArray, List.getElem?_cons_succ, List.getElem?_cons_zero]; exact rfl
            case hQq2x24 => exact fun _ _ _ h => h
            case hwq2x24 => rfl
            case hyq2x24 => ((intro w hSw; (try dsimp only at hSw); go_simp) <;> with_reducible rfl)
            try simp only [Act.put, List.setIfInBounds_toArray, List.set_cons_zero, List.set_cons_succ]
            refine wpAnyH_take (i := 24) (oi := ?oiq2x25) (v := ?vq2x25) ?hiq2x25 (by kernel_rfl) (by kernel_rfl) (by kernel_rfl) ?hQq2x25 (Or.inl ⟨?hwq2x25, ?hyq2x25⟩) (by assumption) ?restq2x25
            case hiq2x25 => simp only [List.getElem?_toArray, List.getElem?_cons_succ, List.getElem?_cons_zero]; exact rfl
            case hQq2x25 => exact fun _ _ _ h => h
            case hwq2x25 => rfl
            case hyq2x25 => ((intro w hSw; (try dsimp only at hSw); go_simp) <;> with_reducible rfl)
            try simp only [Act.put, List.setIfInBounds_toArray, List.set_cons_zero, List.set_cons_succ]
            refine wpAnyH_done (by kernel_rfl) ?_ _
            have hBz := HB.out.trans (hHeld.1.mono HB.out.size)
            clear hHeld
            go_wp2_with fail
            go_ret
            exact ⟨by rw [HN.out]; rfl, hBz⟩
          · have HQ := Lib.hid hbt
            have hAB : betB side (num zs ((j + 1) * 4 + 2)) (price zs j) = false := hbt
            clear hbt
            go_upto_region 4 with fail
            refine wp_region_held_drew (S := (fun w' => Below wr.heap.size wr w' ∧ w'.cell? ⟨b, o + (j + 1) * 4, none⟩ = some (.int .i64 (num zs ((j + 1) * 4))) ∧ w'.cell? ⟨b, o + (j + 1) * 4 + 1, none⟩ = some (.int .i64 (num zs ((j + 1) * 4 + 1))) ∧ w'.cell? ⟨b, o + (j + 1) * 4 + 2, none⟩ = some (.int .i64 (num zs ((j + 1) * 4 + 2))) ∧ w'.cell? ⟨b, o + (j + 1) * 4 + 3, none⟩ = some (.int .i64 (num zs ((j + 1) * 4 + 3))) ∧ w'.cell? ⟨b, o + j * 4 + 2, none⟩ = some (.int .i64 (price zs j)))) (by kernel_rfl) ?hSq3xs (fun hHeld => ?restq3xs)
            case hSq3xs => ((first | assumption | ((((try dsimp only); repeat' apply And.intro) <;> (first | assumption | (refine below_later ?_ (by assumption); first | assumption | (simp only [*]; done) | (go_grown; done)) | (refine cell_later (by assumption) ?_; first | assumption | (simp only [*]; done) | (simp [go_sem]; done)) | (go_grown; done) | (simp [go_sem]; done))))))
            refine wpAnyH_take (i := 0) (oi := ?oiq3x1) (v := ?vq3x1) ?hiq3x1 (by kernel_rfl) (by kernel_rfl) (by kernel_rfl) ?hQq3x1 (Or.inl ⟨?hwq3x1, ?hyq3x1⟩) (by assumption) ?restq3x1
            case hiq3x1 => simp only [List.getElem?_toArray, List.getElem?_cons_succ, List.getElem?_cons_zero]; exact rfl
            case hQq3x1 => exact fun _ _ _ h => h
            case hwq3x1 => rfl
            case hyq3x1 => ((intro w hSw; (try dsimp only at hSw); go_simp) <;> with_reducible rfl)
            try simp only [Act.put, List.setIfInBounds_toArray, List.set_cons_zero, List.set_cons_succ]
            refine wpAnyH_take (i := 1) (oi := ?oiq3x2) (v := ?vq3x2) ?hiq3x2 (by kernel_rfl) (by kernel_rfl) (by kernel_rfl) ?hQq3x2 (Or.inl ⟨?hwq3x2, ?hyq3x2⟩) (by assumption) ?restq3x2
            case hiq3x2 => simp only [List.getElem?_toArray, List.getElem?_cons_succ, List.getElem?_cons_zero]; exact rfl
            case hQq3x2 => exact fun _ _ _ h => h
            case hwq3x2 => rfl
            case hyq3x2 => ((intro w hSw; (try dsimp only at hSw); go_simp) <;> with_reducible rfl)
            try simp only [Act.put, List.setIfInBounds_toArray, List.set_cons_zero, List.set_cons_succ]
            refine wpAnyH_take (i := 2) (oi := ?oiq3x3) (v := ?vq3x3) ?hiq3x3 (by kernel_rfl) (by kernel_rfl) (by kernel_rfl) ?hQq3x3 (Or.inl ⟨?hwq3x3, ?hyq3x3⟩) (by assumption) ?restq3x3
            case hiq3x3 => simp only [List.getElem?_toArray, List.getElem?_cons_succ, List.getElem?_cons_zero]; exact rfl
            case hQq3x3 => exact fun _ _ _ h => h
            case hwq3x3 => rfl
            case hyq3x3 => ((intro w hSw; (try dsimp only at hSw); go_simp) <;> with_reducible rfl)
            try simp only [Act.put, List.setIfInBounds_toArray, List.set_cons_zero, List.set_cons_succ]
            refine wpAnyH_take (i := 3) (oi := ?oiq3x4) (v := ?vq3x4) ?hiq3x4 (by kernel_rfl) (by kernel_rfl) (by kernel_rfl) ?hQq3x4 (Or.inl ⟨?hwq3x4, ?hyq3x4⟩) (by assumption) ?restq3x4
            case hiq3x4 => simp only [List.getElem?_toArray, List.getElem?_cons_succ, List.getElem?_cons_zero]; exact rfl
            case hQq3x4 => exact fun _ _ _ h => h
            case hwq3x4 => rfl
            case hyq3x4 => ((intro w hSw; (try dsimp only at hSw); go_simp) <;> with_reducible rfl)
            try simp only [Act.put, List.setIfInBounds_toArray, List.set_cons_zero, List.set_cons_succ]
            refine wpAnyH_ready (rs := [4]) (by kernel_rfl) (by simp) ?_
            refine AllReadyH.cons (o := ?oq3x5) ?hoq3x5 (fun K hK => ?stepq3x5) ?moreq3x5
            case hoq3x5 => simp only [List.getElem?_toArray, List.getElem?_cons_succ, List.getElem?_cons_zero]; exact rfl
            case moreq3x5 => exact AllReadyH.nil
            go_simp
            (go_at_call 100; refine (spec_l2Order _ _ _ _ _).mono ?_; rw [hOB]; rintro e w' ⟨rfl, hb⟩)
            refine hK.out _ _ ?hSq3x5 (fun hHeld => ?restq3x5)
            case hSq3x5 => ((first | assumption | ((((try dsimp only); repeat' apply And.intro) <;> (first | assumption | (refine below_later ?_ (by assumption); first | assumption | (simp only [*]; done) | (go_grown; done)) | (refine cell_later (by assumption) ?_; first | assumption | (simp only [*]; done) | (simp [go_sem]; done)) | (go_grown; done) | (simp [go_sem]; done))))))
            clear hK K
            try simp only [Act.put, List.setIfInBounds_toArray, List.set_cons_zero, List.set_cons_succ]
            refine wpAnyH_take (i := 5) (oi := ?oiq3x6) (v := ?vq3x6) ?hiq3x6 (by kernel_rfl) (by kernel_rfl) (by kernel_rfl) ?hQq3x6 (Or.inl ⟨?hwq3x6, ?hyq3x6⟩) (by assumption) ?restq3x6
            case hiq3x6 => simp only [List.getElem?_toArray, List.getElem?_cons_succ, List.getElem?_cons_zero]; exact rfl
            case hQq3x6 => exact fun _ _ _ h => h
            case hwq3x6 => rfl
            case hyq3x6 => ((intro w hSw; (try dsimp only at hSw); go_simp) <;> with_reducible rfl)
            try simp only [Act.put, List.setIfInBounds_toArray, List.set_cons_zero, List.set_cons_succ]
            refine wpAnyH_take (i := 6) (oi := ?oiq3x7) (v := ?vq3x7) ?hiq3x7 (by kernel_rfl) (by kernel_rfl) (by kernel_rfl) ?hQq3x7 (Or.inl ⟨?hwq3x7, ?hyq3x7⟩) (by assumption) ?restq3x7
            case hiq3x7 => simp only [List.getElem?_toArray, List.getElem?_cons_succ, List.getElem?_cons_zero]; exact rfl
            case hQq3x7 => exact fun _ _ _ h => h
            case hwq3x7 => rfl
            case hyq3x7 => ((intro w hSw; (try dsimp only at hSw); go_simp) <;> with_reducible rfl)
            try simp only [Act.put, List.setIfInBounds_toArray, List.set_cons_zero, List.set_cons_succ]
            refine wpAnyH_take (i := 7) (oi := ?oiq3x8) (v := ?vq3x8) ?hiq3x8 (by kernel_rfl) (by kernel_rfl) (by kernel_rfl) ?hQq3x8 (Or.inl ⟨?hwq3x8, ?hyq3x8⟩) (by assumption) ?restq3x8
            case hiq3x8 => simp only [List.getElem?_toArray, List.getElem?_cons_succ, List.getElem?_cons_zero]; exact rfl
            case hQq3x8 => exact fun _ _ _ h => h
            case hwq3x8 => rfl
            case hyq3x8 => ((intro w hSw; (try dsimp only at hSw); go_simp) <;> with_reducible rfl)
            try simp only [Act.put, List.setIfInBounds_toArray, List.set_cons_zero, List.set_cons_succ]
            refine wpAnyH_take (i := 8) (oi := ?oiq3x9) (v := ?vq3x9) ?hiq3x9 (by kernel_rfl) (by kernel_rfl) (by kernel_rfl) ?hQq3x9 (Or.inl ⟨?hwq3x9, ?hyq3x9⟩) (by assumption) ?restq3x9
            case hiq3x9 => simp only [List.getElem?_toArray, List.getElem?_cons_succ, List.getElem?_cons_zero]; exact rfl
            case hQq3x9 => exact fun _ _ _ h => h
            case hwq3x9 => rfl
            case hyq3x9 => ((intro w hSw; (try dsimp only at hSw); go_simp) <;> with_reducible rfl)
            try simp only [Act.put, List.setIfInBounds_toArray, List.set_cons_zero, List.set_cons_succ]
            refine wpAnyH_take (i := 9) (oi := ?oiq3x10) (v := ?vq3x10) ?hiq3x10 (by kernel_rfl) (by kernel_rfl) (by kernel_rfl) ?hQq3x10 (Or.inl ⟨?hwq3x10, ?hyq3x10⟩) (by assumption) ?restq3x10
            case hiq3x10 => simp only [List.getElem?_toArray, List.getElem?_cons_succ, List.getElem?_cons_zero]; exact rfl
            case hQq3x10 => exact fun _ _ _ h => h
            case hwq3x10 => rfl
            case hyq3x10 => ((intro w hSw; (try dsimp only at hSw); go_simp) <;> with_reducible rfl)
            try simp only [Act.put, List.setIfInBounds_toArray, List.set_cons_zero, List.set_cons_succ]
            refine wpAnyH_take (i := 10) (oi := ?oiq3x11) (v := ?vq3x11) ?hiq3x11 (by kernel_rfl) (by kernel_rfl) (by kernel_rfl) ?hQq3x11 (Or.inl ⟨?hwq3x11, ?hyq3x11⟩) (by assumption) ?restq3x11
            case hiq3x11 => simp only [List.getElem?_toArray, List.getElem?_cons_succ, List.getElem?_cons_zero]; exact rfl
            case hQq3x11 => exact fun _ _ _ h => h
            case hwq3x11 => rfl
            case hyq3x11 => ((intro w hSw; (try dsimp only at hSw); go_simp) <;> with_reducible rfl)
            try simp only [Act.put, List.setIfInBounds_toArray, List.set_cons_zero, List.set_cons_succ]
            refine wpAnyH_take (i := 11) (oi := ?oiq3x12) (v := ?vq3x12) ?hiq3x12 (by kernel_rfl) (by kernel_rfl) (by kernel_rfl) ?hQq3x12 (Or.inl ⟨?hwq3x12, ?hyq3x12⟩) (by assumption) ?restq3x12
            case hiq3x12 => simp only [List.getElem?_toArray, List.getElem?_cons_succ, List.getElem?_cons_zero]; exact rfl
            case hQq3x12 => exact fun _ _ _ h => h
            case hwq3x12 => rfl
            case hyq3x12 => ((intro w hSw; (try dsimp only at hSw); go_simp) <;> with_reducible rfl)
            try simp only [Act.put, List.setIfInBounds_toArray, List.set_cons_zero, List.set_cons_succ]
            refine wpAnyH_take (i := 12) (oi := ?oiq3x13) (v := ?vq3x13) ?hiq3x13 (by kernel_rfl) (by kernel_rfl) (by kernel_rfl) ?hQq3x13 (Or.inl ⟨?hwq3x13, ?hyq3x13⟩) (by assumption) ?restq3x13
            case hiq3x13 => simp only [List.getElem?_toArray, List.getElem?_cons_succ, List.getElem?_cons_zero]; exact rfl
            case hQq3x13 => exact fun _ _ _ h => h
            case hwq3x13 => rfl
            case hyq3x13 => ((intro w hSw; (try dsimp only at hSw); go_simp) <;> with_reducible rfl)
            try simp only [Act.put, List.setIfInBounds_toArray, List.set_cons_zero, List.set_cons_succ]
            refine wpAnyH_take (i := 13) (oi := ?oiq3x14) (v := ?vq3x14) ?hiq3x14 (by kernel_rfl) (by kernel_rfl) (by kernel_rfl) ?hQq3x14 (Or.inl ⟨?hwq3x14, ?hyq3x14⟩) (by assumption) ?restq3x14
            case hiq3x14 => simp only [List.getElem?_toArray, List.getElem?_cons_succ, List.getElem?_cons_zero]; exact rfl
            case hQq3x14 => exact fun _ _ _ h => h
            case hwq3x14 => rfl
            case hyq3x14 => ((intro w hSw; (try dsimp only at hSw); go_simp) <;> with_reducible rfl)
            try simp only [Act.put, List.setIfInBounds_toArray, List.set_cons_zero, List.set_cons_succ]
            refine wpAnyH_take (i := 14) (oi := ?oiq3x15) (v := ?vq3x15) ?hiq3x15 (by kernel_rfl) (by kernel_rfl) (by kernel_rfl) ?hQq3x15 (Or.inl ⟨?hwq3x15, ?hyq3x15⟩) (by assumption) ?restq3x15
            case hiq3x15 => simp only [List.getElem?_toArray, List.getElem?_cons_succ, List.getElem?_cons_zero]; exact rfl
            case hQq3x15 => exact fun _ _ _ h => h
            case hwq3x15 => rfl
            case hyq3x15 => ((intro w hSw; (try dsimp only at hSw); go_simp) <;> with_reducible rfl)
            try simp only [Act.put, List.setIfInBounds_toArray, List.set_cons_zero, List.set_cons_succ]
            refine wpAnyH_take (i := 15) (oi := ?oiq3x16) (v := ?vq3x16) ?hiq3x16 (by kernel_rfl) (by kernel_rfl) (by kernel_rfl) ?hQq3x16 (Or.inl ⟨?hwq3x16, ?hyq3x16⟩) (by assumption) ?restq3x16
            case hiq3x16 => simp only [List.getElem?_toArray, List.getElem?_cons_succ, List.getElem?_cons_zero]; exact rfl
            case hQq3x16 => exact fun _ _ _ h => h
            case hwq3x16 => rfl
            case hyq3x16 => ((intro w hSw; (try dsimp only at hSw); go_simp) <;> with_reducible rfl)
            try simp only [Act.put, List.setIfInBounds_toArray, List.set_cons_zero, List.set_cons_succ]
            refine wpAnyH_take (i := 16) (oi := ?oiq3x17) (v := ?vq3x17) ?hiq3x17 (by kernel_rfl) (by kernel_rfl) (by kernel_rfl) ?hQq3x17 (Or.inl ⟨?hwq3x17, ?hyq3x17⟩) (by assumption) ?restq3x17
            case hiq3x17 => simp only [List.getElem?_toArray, List.getElem?_cons_succ, List.getElem?_cons_zero]; exact rfl
            case hQq3x17 => exact fun _ _ _ h => h
            case hwq3x17 => rfl
            case hyq3x17 => ((intro w hSw; (try dsimp only at hSw); go_simp) <;> with_reducible rfl)
            try simp only [Act.put, List.setIfInBounds_toArray, List.set_cons_zero, List.set_cons_succ]
            refine wpAnyH_take (i := 17) (oi := ?oiq3x18) (v := ?vq3x18) ?hiq3x18 (by kernel_rfl) (by kernel_rfl) (by kernel_rfl) ?hQq3x18 (Or.inl ⟨?hwq3x18, ?hyq3x18⟩) (by assumption) ?restq3x18
            case hiq3x18 => simp only [List.getElem?_toArray, List.getElem?_cons_succ, List.getElem?_cons_zero]; exact rfl
            case hQq3x18 => exact fun _ _ _ h => h
            case hwq3x18 => rfl
            case hyq3x18 => ((intro w hSw; (try dsimp only at hSw); go_simp) <;> with_reducible rfl)
            try simp only [Act.put, List.setIfInBounds_toArray, List.set_cons_zero, List.set_cons_succ]
            refine wpAnyH_take (i := 18) (oi := ?oiq3x19) (v := ?vq3x19) ?hiq3x19 (by kernel_rfl) (by kernel_rfl) (by kernel_rfl) ?hQq3x19 (Or.inl ⟨?hwq3x19, ?hyq3x19⟩) (by assumption) ?restq3x19
            case hiq3x19 => simp only [List.getElem?_toArray, List.getElem?_cons_succ, List.getElem?_cons_zero]; exact rfl
            case hQq3x19 => exact fun _ _ _ h => h
            case hwq3x19 => rfl
            case hyq3x19 => ((intro w hSw; (try dsimp only at hSw); go_simp) <;> with_reducible rfl)
            try simp only [Act.put, List.setIfInBounds_toArray, List.set_cons_zero, List.set_cons_succ]
            refine wpAnyH_take (i := 19) (oi := ?oiq3x20) (v := ?vq3x20) ?hiq3x20 (by kernel_rfl) (by kernel_rfl) (by kernel_rfl) ?hQq3x20 (Or.inl ⟨?hwq3x20, ?hyq3x20⟩) (by assumption) ?restq3x20
            case hiq3x20 => simp only [List.getElem?_toArray, List.getElem?_cons_succ, List.getElem?_cons_zero]; exact rfl
            case hQq3x20 => exact fun _ _ _ h => h
            case hwq3x20 => rfl
            case hyq3x20 => ((intro w hSw; (try dsimp only at hSw); go_simp) <;> with_reducible rfl)
            try simp only [Act.put, List.setIfInBounds_toArray, List.set_cons_zero, List.set_cons_succ]
            refine wpAnyH_take (i := 20) (oi := ?oiq3x21) (v := ?vq3x21) ?hiq3x21 (by kernel_rfl) (by kernel_rfl) (by kernel_rfl) ?hQq3x21 (Or.inl ⟨?hwq3x21, ?hyq3x21⟩) (by assumption) ?restq3x21
            case hiq3x21 => simp only [List.getElem?_toArray, List.getElem?_cons_succ, List.getElem?_cons_zero]; exact rfl
            case hQq3x21 => exact fun _ _ _ h => h
            case hwq3x21 => rfl
            case hyq3x21 => ((intro w hSw; (try dsimp only at hSw); go_simp) <;> with_reducible rfl)
            try simp only [Act.put, List.setIfInBounds_toArray, List.set_cons_zero, List.set_cons_succ]
            refine wpAnyH_take (i := 21) (oi := ?oiq3x22) (v := ?vq3x22) ?hiq3x22 (by kernel_rfl) (by kernel_rfl) (by kernel_rfl) ?hQq3x22 (Or.inl ⟨?hwq3x22, ?hyq3x22⟩) (by assumption) ?restq3x22
            case hiq3x22 => simp only [List.getElem?_toArray, List.getElem?_cons_succ, List.getElem?_cons_zero]; exact rfl
            case hQq3x22 => exact fun _ _ _ h => h
            case hwq3x22 => rfl
            case hyq3x22 => ((intro w hSw; (try dsimp only at hSw); go_simp) <;> with_reducible rfl)
            try simp only [Act.put, List.setIfInBounds_toArray, List.set_cons_zero, List.set_cons_succ]
            refine wpAnyH_ready (rs := [22]) (by kernel_rfl) (by simp) ?_
            refine AllReadyH.cons (o := ?oq3x23) ?hoq3x23 (fun K hK => ?stepq3x23) ?moreq3x23
            case hoq3x23 => simp only [List.getElem?_toArray, List.getElem?_cons_succ, List.getElem?_cons_zero]; exact rfl
            case moreq3x23 => exact AllReadyH.nil
            go_simp
            (go_at_call 91; refine (spec_l2Ahead _ _ _ _).mono ?_; rw [hAB]; rintro e w' ⟨rfl, rfl⟩)
            refine hK.out _ _ ?hSq3x23 (fun hHeld => ?restq3x23)
            case hSq3x23 => ((first | assumption | ((((try dsimp only); repeat' apply And.intro) <;> (first | assumption | (refine below_later ?_ (by assumption); first | assumption | (simp only [*]; done) | (go_grown; done)) | (refine cell_later (by assumption) ?_; first | assumption | (simp only [*]; done) | (simp [go_sem]; done)) | (go_grown; done) | (simp [go_sem]; done))))))
            clear hK K
            try simp only [Act.put, List.setIfInBounds_toArray, List.set_cons_zero, List.set_cons_succ]
            refine wpAnyH_take (i := 23) (oi := ?oiq3x24) (v := ?vq3x24) ?hiq3x24 (by kernel_rfl) (by kernel_rfl) (by kernel_rfl) ?hQq3x24 (Or.inl ⟨?hwq3x24, ?hyq3x24⟩) (by assumption) ?restq3x24
            case hiq3x24 => simp only [List.getElem?_toArray, List.getElem?_cons_succ, List.getElem?_cons_zero]; exact rfl
            case hQq3x24 => exact fun _ _ _ h => h
            case hwq3x24 => rfl
            case hyq3x24 => ((intro w hSw; (try dsimp only at hSw); go_simp) <;> with_reducible rfl)
            try simp only [Act.put, List.setIfInBounds_toArray, List.set_cons_zero, List.set_cons_succ]
            refine wpAnyH_take (i := 24) (oi := ?oiq3x25) (v := ?vq3x25) ?hiq3x25 (by kernel_rfl) (by kernel_rfl) (by kernel_rfl) ?hQq3x25 (Or.inl ⟨?hwq3x25, ?hyq3x25⟩) (by assumption) ?restq3x25
            case hiq3x25 => simp only [List.getElem?_toArray, List.getElem?_cons_succ, List.getElem?_cons_zero]; exact rfl
            case hQq3x25 => exact fun _ _ _ h => h
            case hwq3x25 => rfl
            case hyq3x25 => ((intro w hSw; (try dsimp only at hSw); go_simp) <;> with_reducible rfl)
            try simp only [Act.put, List.setIfInBounds_toArray, List.set_cons_zero, List.set_cons_succ]
            refine wpAnyH_done (by kernel_rfl) ?_ _
            have hBz := HB.out.trans (hHeld.1.mono HB.out.size)
            clear hHeld
            go_wp2_with fail
            go_roundw
            case rel => exact ⟨j + 1 + 1, by omega, by go_num, by rw [HA.out, HL.out, HO.out]; rfl, srtO_step HT.out (.inr HQ.out), hBz⟩
            case measure => simp [intOf]; omega
      · have HN := Lib.hid (show sideB side zs n = false from by rw [HS.out, allO_no hat n hlt]; simp)
        have hOB : ordI (num zs (k * 4)) (num zs (k * 4 + 1)) (num zs (k * 4 + 2)) (num zs (k * 4 + 3)) = false := hat
        clear hat hall hsrt
        obtain ⟨b, o, rfl, hb, c0, c1, c2, c3⟩ := (hl.below hbel).row4 hlt
        clear hbel
        go_upto_region 4 with fail
        refine wp_region_held_drew (S := (fun w' => Below wr.heap.size wr w' ∧ w'.cell? ⟨b, o + k * 4, none⟩ = some (.int .i64 (num zs (k * 4))) ∧ w'.cell? ⟨b, o + k * 4 + 1, none⟩ = some (.int .i64 (num zs (k * 4 + 1))) ∧ w'.cell? ⟨b, o + k * 4 + 2, none⟩ = some (.int .i64 (num zs (k * 4 + 2))) ∧ w'.cell? ⟨b, o + k * 4 + 3, none⟩ = some (.int .i64 (num zs (k * 4 + 3))))) (by kernel_rfl) ?hSq4xs (fun hHeld => ?restq4xs)
        case hSq4xs => ((first | assumption | ((((try dsimp only); repeat' apply And.intro) <;> (first | assumption | (refine below_later ?_ (by assumption); first | assumption | (simp only [*]; done) | (go_grown; done)) | (refine cell_later (by assumption) ?_; first | assumption | (simp only [*]; done) | (simp [go_sem]; done)) | (go_grown; done) | (simp [go_sem]; done))))))
        refine wpAnyH_take (i := 0) (oi := ?oiq4x1) (v := ?vq4x1) ?hiq4x1 (by kernel_rfl) (by kernel_rfl) (by kernel_rfl) ?hQq4x1 (Or.inl ⟨?hwq4x1, ?hyq4x1⟩) (by assumption) ?restq4x1
        case hiq4x1 => simp only [List.getElem?_toArray, List.getElem?_cons_succ, List.getElem?_cons_zero]; exact rfl
        case hQq4x1 => exact fun _ _ _ h => h
        case hwq4x1 => rfl
        case hyq4x1 => ((intro w hSw; (try dsimp only at hSw); go_simp) <;> with_reducible rfl)
        try simp only [Act.put, List.setIfInBounds_toArray, List.set_cons_zero, List.set_cons_succ]
        refine wpAnyH_take (i := 1) (oi := ?oiq4x2) (v := ?vq4x2) ?hiq4x2 (by kernel_rfl) (by kernel_rfl) (by kernel_rfl) ?hQq4x2 (Or.inl ⟨?hwq4x2, ?hyq4x2⟩) (by assumption) ?restq4x2
        case hiq4x2 => simp only [List.getElem?_toArray, List.getElem?_cons_succ, List.getElem?_cons_zero]; exact rfl
        case hQq4x2 => exact fun _ _ _ h => h
        case hwq4x2 => rfl
        case hyq4x2 => ((intro w hSw; (try dsimp only at hSw); go_simp) <;> with_reducible rfl)
        try simp only [Act.put, List.setIfInBounds_toArray, List.set_cons_zero, List.set_cons_succ]
        refine wpAnyH_take (i := 2) (oi := ?oiq4x3) (v := ?vq4x3) ?hiq4x3 (by kernel_rfl) (by kernel_rfl) (by kernel_rfl) ?hQq4x3 (Or.inl ⟨?hwq4x3, ?hyq4x3⟩) (by assumption) ?restq4x3
        case hiq4x3 => simp only [List.getElem?_toArray, List.getElem?_cons_succ, List.getElem?_cons_zero]; exact rfl
        case hQq4x3 => exact fun _ _ _ h => h
        case hwq4x3 => rfl
        case hyq4x3 => ((intro w hSw; (try dsimp only at hSw); go_simp) <;> with_reducible rfl)
        try simp only [Act.put, List.setIfInBounds_toArray, List.set_cons_zero, List.set_cons_succ]
        refine wpAnyH_take (i := 3) (oi := ?oiq4x4) (v := ?vq4x4) ?hiq4x4 (by kernel_rfl) (by kernel_rfl) (by kernel_rfl) ?hQq4x4 (Or.inl ⟨?hwq4x4, ?hyq4x4⟩) (by assumption) ?restq4x4
        case hiq4x4 => simp only [List.getElem?_toArray, List.getElem?_cons_succ, List.getElem?_cons_zero]; exact rfl
        case hQq4x4 => exact fun _ _ _ h => h
        case hwq4x4 => rfl
        case hyq4x4 => ((intro w hSw; (try dsimp only at hSw); go_simp) <;> with_reducible rfl)
        try simp only [Act.put, List.setIfInBounds_toArray, List.set_cons_zero, List.set_cons_succ]
        refine wpAnyH_ready (rs := [4]) (by kernel_rfl) (by simp) ?_
        refine AllReadyH.cons (o := ?oq4x5) ?hoq4x5 (fun K hK => ?stepq4x5) ?moreq4x5
        case hoq4x5 => simp only [List.getElem?_toArray, List.getElem?_cons_succ, List.getElem?_cons_zero]; exact rfl
        case moreq4x5 => exact AllReadyH.nil
        go_simp
        (go_at_call 100; refine (spec_l2Order _ _ _ _ _).mono ?_; rw [hOB]; rintro e w' ⟨rfl, hb⟩)
        refine hK.out _ _ ?hSq4x5 (fun hHeld => ?restq4x5)
        case hSq4x5 => ((first | assumption | ((((try dsimp only); repeat' apply And.intro) <;> (first | assumption | (refine below_later ?_ (by assumption); first | assumption | (simp only [*]; done) | (go_grown; done)) | (refine cell_later (by assumption) ?_; first | assumption | (simp only [*]; done) | (simp [go_sem]; done)) | (go_grown; done) | (simp [go_sem]; done))))))
        clear hK K
        try simp only [Act.put, List.setIfInBounds_toArray, List.set_cons_zero, List.set_cons_succ]
        refine wpAnyH_take (i := 5) (oi := ?oiq4x6) (v := ?vq4x6) ?hiq4x6 (by kernel_rfl) (by kernel_rfl) (by kernel_rfl) ?hQq4x6 (Or.inl ⟨?hwq4x6, ?hyq4x6⟩) (by assumption) ?restq4x6
        case hiq4x6 => simp only [List.getElem?_toArray, List.getElem?_cons_succ, List.getElem?_cons_zero]; exact rfl
        case hQq4x6 => exact fun _ _ _ h => h
        case hwq4x6 => rfl
        case hyq4x6 => ((intro w hSw; (try dsimp only at hSw); go_simp) <;> with_reducible rfl)
        try simp only [Act.put, List.setIfInBounds_toArray, List.set_cons_zero, List.set_cons_succ]
        refine wpAnyH_take (i := 6) (oi := ?oiq4x7) (v := ?vq4x7) ?hiq4x7 (by kernel_rfl) (by kernel_rfl) (by kernel_rfl) ?hQq4x7 (Or.inl ⟨?hwq4x7, ?hyq4x7⟩) (by assumption) ?restq4x7
        case hiq4x7 => simp only [List.getElem?_toArray, List.getElem?_cons_succ, List.getElem?_cons_zero]; exact rfl
        case hQq4x7 => exact fun _ _ _ h => h
        case hwq4x7 => rfl
        case hyq4x7 => ((intro w hSw; (try dsimp only at hSw); go_simp) <;> with_reducible rfl)
        try simp only [Act.put, List.setIfInBounds_toArray, List.set_cons_zero, List.set_cons_succ]
        refine wpAnyH_take (i := 7) (oi := ?oiq4x8) (v := _) ?hiq4x8 (by kernel_rfl) (by kernel_rfl) (by kernel_rfl) ?hQq4x8 (Or.inr ⟨?hwq4x8, rfl⟩) (by assumption) ?restq4x8
        case hiq4x8 => simp only [List.getElem?_toArray, List.getElem?_cons_succ, List.getElem?_cons_zero]; exact rfl
        case hQq4x8 => exact fun _ _ _ h => h
        case hwq4x8 => rfl
        try simp only [Act.put, List.setIfInBounds_toArray, List.set_cons_zero, List.set_cons_succ]
        refine wpAnyH_take (i := 8) (oi := ?oiq4x9) (v := _) ?hiq4x9 (by kernel_rfl) (by kernel_rfl) (by kernel_rfl) ?hQq4x9 (Or.inr ⟨?hwq4x9, rfl⟩) (by assumption) ?restq4x9
        case hiq4x9 => simp only [List.getElem?_toArray, List.getElem?_cons_succ, List.getElem?_cons_zero]; exact rfl
        case hQq4x9 => exact fun _ _ _ h => h
        case hwq4x9 => rfl
        try simp only [Act.put, List.setIfInBounds_toArray, List.set_cons_zero, List.set_cons_succ]
        refine wpAnyH_take (i := 9) (oi := ?oiq4x10) (v := _) ?hiq4x10 (by kernel_rfl) (by kernel_rfl) (by kernel_rfl) ?hQq4x10 (Or.inr ⟨?hwq4x10, rfl⟩) (by assumption) ?restq4x10
        case hiq4x10 => simp only [List.getElem?_toArray, List.getElem?_cons_succ, List.getElem?_cons_zero]; exact rfl
        case hQq4x10 => exact fun _ _ _ h => h
        case hwq4x10 => rfl
        try simp only [Act.put, List.setIfInBounds_toArray, List.set_cons_zero, List.set_cons_succ]
        refine wpAnyH_take (i := 10) (oi := ?oiq4x11) (v := _) ?hiq4x11 (by kernel_rfl) (by kernel_rfl) (by kernel_rfl) ?hQq4x11 (Or.inr ⟨?hwq4x11, rfl⟩) (by assumption) ?restq4x11
        case hiq4x11 => simp only [List.getElem?_toArray, List.getElem?_cons_succ, List.getElem?_cons_zero]; exact rfl
        case hQq4x11 => exact fun _ _ _ h => h
        case hwq4x11 => rfl
        try simp only [Act.put, List.setIfInBounds_toArray, List.set_cons_zero, List.set_cons_succ]
        refine wpAnyH_take (i := 11) (oi := ?oiq4x12) (v := _) ?hiq4x12 (by kernel_rfl) (by kernel_rfl) (by kernel_rfl) ?hQq4x12 (Or.inr ⟨?hwq4x12, rfl⟩) (by assumption) ?restq4x12
        case hiq4x12 => simp only [List.getElem?_toArray, List.getElem?_cons_succ, List.getElem?_cons_zero]; exact rfl
        case hQq4x12 => exact fun _ _ _ h => h
        case hwq4x12 => rfl
        try simp only [Act.put, List.setIfInBounds_toArray, List.set_cons_zero, List.set_cons_succ]
        refine wpAnyH_take (i := 12) (oi := ?oiq4x13) (v := _) ?hiq4x13 (by kernel_rfl) (by kernel_rfl) (by kernel_rfl) ?hQq4x13 (Or.inr ⟨?hwq4x13, rfl⟩) (by assumption) ?restq4x13
        case hiq4x13 => simp only [List.getElem?_toArray, List.getElem?_cons_succ, List.getElem?_cons_zero]; exact rfl
        case hQq4x13 => exact fun _ _ _ h => h
        case hwq4x13 => rfl
        try simp only [Act.put, List.setIfInBounds_toArray, List.set_cons_zero, List.set_cons_succ]
        refine wpAnyH_take (i := 13) (oi := ?oiq4x14) (v := _) ?hiq4x14 (by kernel_rfl) (by kernel_rfl) (by kernel_rfl) ?hQq4x14 (Or.inr ⟨?hwq4x14, rfl⟩) (by assumption) ?restq4x14
        case hiq4x14 => simp only [List.getElem?_toArray, List.getElem?_cons_succ, List.getElem?_cons_zero]; exact rfl
        case hQq4x14 => exact fun _ _ _ h => h
        case hwq4x14 => rfl
        try simp only [Act.put, List.setIfInBounds_toArray, List.set_cons_zero, List.set_cons_succ]
        refine wpAnyH_take (i := 14) (oi := ?oiq4x15) (v := _) ?hiq4x15 (by kernel_rfl) (by kernel_rfl) (by kernel_rfl) ?hQq4x15 (Or.inr ⟨?hwq4x15, rfl⟩) (by assumption) ?restq4x15
        case hiq4x15 => simp only [List.getElem?_toArray, List.getElem?_cons_succ, List.getElem?_cons_zero]; exact rfl
        case hQq4x15 => exact fun _ _ _ h => h
        case hwq4x15 => rfl
        try simp only [Act.put, List.setIfInBounds_toArray, List.set_cons_zero, List.set_cons_succ]
        refine wpAnyH_take (i := 15) (oi := ?oiq4x16) (v := _) ?hiq4x16 (by kernel_rfl) (by kernel_rfl) (by kernel_rfl) ?hQq4x16 (Or.inr ⟨?hwq4x16, rfl⟩) (by assumption) ?restq4x16
        case hiq4x16 => simp only [List.getElem?_toArray, List.getElem?_cons_succ, List.getElem?_cons_zero]; exact rfl
        case hQq4x16 => exact fun _ _ _ h => h
        case hwq4x16 => rfl
        try simp only [Act.put, List.setIfInBounds_toArray, List.set_cons_zero, List.set_cons_succ]
        refine wpAnyH_take (i := 16) (oi := ?oiq4x17) (v := _) ?hiq4x17 (by kernel_rfl) (by kernel_rfl) (by kernel_rfl) ?hQq4x17 (Or.inr ⟨?hwq4x17, rfl⟩) (by assumption) ?restq4x17
        case hiq4x17 => simp only [List.getElem?_toArray, List.getElem?_cons_succ, List.getElem?_cons_zero]; exact rfl
        case hQq4x17 => exact fun _ _ _ h => h
        case hwq4x17 => rfl
        try simp only [Act.put, List.setIfInBounds_toArray, List.set_cons_zero, List.set_cons_succ]
        refine wpAnyH_take (i := 17) (oi := ?oiq4x18) (v := _) ?hiq4x18 (by kernel_rfl) (by kernel_rfl) (by kernel_rfl) ?hQq4x18 (Or.inr ⟨?hwq4x18, rfl⟩) (by assumption) ?restq4x18
        case hiq4x18 => simp only [List.getElem?_toArray, List.getElem?_cons_succ, List.getElem?_cons_zero]; exact rfl
        case hQq4x18 => exact fun _ _ _ h => h
        case hwq4x18 => rfl
        try simp only [Act.put, List.setIfInBounds_toArray, List.set_cons_zero, List.set_cons_succ]
        refine wpAnyH_take (i := 18) (oi := ?oiq4x19) (v := _) ?hiq4x19 (by kernel_rfl) (by kernel_rfl) (by kernel_rfl) ?hQq4x19 (Or.inr ⟨?hwq4x19, rfl⟩) (by assumption) ?restq4x19
        case hiq4x19 => simp only [List.getElem?_toArray, List.getElem?_cons_succ, List.getElem?_cons_zero]; exact rfl
        case hQq4x19 => exact fun _ _ _ h => h
        case hwq4x19 => rfl
        try simp only [Act.put, List.setIfInBounds_toArray, List.set_cons_zero, List.set_cons_succ]
        refine wpAnyH_take (i := 19) (oi := ?oiq4x20) (v := _) ?hiq4x20 (by kernel_rfl) (by kernel_rfl) (by kernel_rfl) ?hQq4x20 (Or.inr ⟨?hwq4x20, rfl⟩) (by assumption) ?restq4x20
        case hiq4x20 => simp only [List.getElem?_toArray, List.getElem?_cons_succ, List.getElem?_cons_zero]; exact rfl
        case hQq4x20 => exact fun _ _ _ h => h
        case hwq4x20 => rfl
        try simp only [Act.put, List.setIfInBounds_toArray, List.set_cons_zero, List.set_cons_succ]
        refine wpAnyH_take (i := 20) (oi := ?oiq4x21) (v := _) ?hiq4x21 (by kernel_rfl) (by kernel_rfl) (by kernel_rfl) ?hQq4x21 (Or.inr ⟨?hwq4x21, rfl⟩) (by assumption) ?restq4x21
        case hiq4x21 => simp only [List.getElem?_toArray, List.getElem?_cons_succ, List.getElem?_cons_zero]; exact rfl
        case hQq4x21 => exact fun _ _ _ h => h
        case hwq4x21 => rfl
        try simp only [Act.put, List.setIfInBounds_toArray, List.set_cons_zero, List.set_cons_succ]
        refine wpAnyH_take (i := 21) (oi := ?oiq4x22) (v := _) ?hiq4x22 (by kernel_rfl) (by kernel_rfl) (by kernel_rfl) ?hQq4x22 (Or.inr ⟨?hwq4x22, rfl⟩) (by assumption) ?restq4x22
        case hiq4x22 => simp only [List.getElem?_toArray, List.getElem?_cons_succ, List.getElem?_cons_zero]; exact rfl
        case hQq4x22 => exact fun _ _ _ h => h
        case hwq4x22 => rfl
        try simp only [Act.put, List.setIfInBounds_toArray, List.set_cons_zero, List.set_cons_succ]
        refine wpAnyH_ready (rs := [22]) (by kernel_rfl) (by simp) ?_
        refine AllReadyH.cons (o := ?oq4x23) ?hoq4x23 (fun K hK => ?stepq4x23) ?moreq4x23
        case hoq4x23 => simp only [List.getElem?_toArray, List.getElem?_cons_succ, List.getElem?_cons_zero]; exact rfl
        case moreq4x23 => exact AllReadyH.nil
        go_simp
        refine hK.out _ _ ?hSq4x23 (fun hHeld => ?restq4x23)
        case hSq4x23 => ((first | assumption | ((((try dsimp only); repeat' apply And.intro) <;> (first | assumption | (refine below_later ?_ (by assumption); first | assumption | (simp only [*]; done) | (go_grown; done)) | (refine cell_later (by assumption) ?_; first | assumption | (simp only [*]; done) | (simp [go_sem]; done)) | (go_grown; done) | (simp [go_sem]; done))))))
        clear hK K
        try simp only [Act.put, List.setIfInBounds_toArray, List.set_cons_zero, List.set_cons_succ]
        refine wpAnyH_take (i := 23) (oi := ?oiq4x24) (v := _) ?hiq4x24 (by kernel_rfl) (by kernel_rfl) (by kernel_rfl) ?hQq4x24 (Or.inr ⟨?hwq4x24, rfl⟩) (by assumption) ?restq4x24
        case hiq4x24 => simp only [List.getElem?_toArray, List.getElem?_cons_succ, List.getElem?_cons_zero]; exact rfl
        case hQq4x24 => exact fun _ _ _ h => h
        case hwq4x24 => rfl
        try simp only [Act.put, List.setIfInBounds_toArray, List.set_cons_zero, List.set_cons_succ]
        refine wpAnyH_take (i := 24) (oi := ?oiq4x25) (v := ?vq4x25) ?hiq4x25 (by kernel_rfl) (by kernel_rfl) (by kernel_rfl) ?hQq4x25 (Or.inl ⟨?hwq4x25, ?hyq4x25⟩) (by assumption) ?restq4x25
        case hiq4x25 => simp only [List.getElem?_toArray, List.getElem?_cons_succ, List.getElem?_cons_zero]; exact rfl
        case hQq4x25 => exact fun _ _ _ h => h
        case hwq4x25 => rfl
        case hyq4x25 => ((intro w hSw; (try dsimp only at hSw); go_simp) <;> with_reducible rfl)
        try simp only [Act.put, List.setIfInBounds_toArray, List.set_cons_zero, List.set_cons_succ]
        refine wpAnyH_done (by kernel_rfl) ?_ _
        have hBz := HB.out.trans (hHeld.1.mono HB.out.size)
        clear hHeld
        go_wp2_with fail
        go_ret
        exact ⟨by rw [HN.out]; rfl, hBz⟩
    · obtain rfl : k = n := by omega
      clear hall hsrt
      by_cases h20 : k ≤ 20
      · have t0 : decide ((k : Int) ≤ 20) = true := decide_eq_true (by omega)
        have HQ := Lib.hid (show sideB side zs k = true from by rw [HS.out, HL.out, HT.out, decide_eq_true h20]; rfl)
        go_wp2_with fail
        go_ret
        exact ⟨by rw [HQ.out]; first | rfl | simp [h20], hbel⟩
      · have t0 : decide ((k : Int) ≤ 20) = false := decide_eq_false (by omega)
        have HQ := Lib.hid (show sideB side zs k = false from by rw [HS.out, decide_eq_false h20]; rfl)
        go_wp2_with fail
        go_ret
        exact ⟨by rw [HQ.out]; first | rfl | simp [h20], hbel⟩
end Go.Proofs.Ytempggikcpminaa
