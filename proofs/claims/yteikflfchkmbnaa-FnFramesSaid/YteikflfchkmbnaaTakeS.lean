/-
  Frames taken off a text: the document's.
-/
import Derived.Test.YteikflfchkmbnaaTakeF
namespace Go.Proofs.Yteikflfchkmbnaa
open Go.RowKit Wire

set_option linter.unusedSimpArgs false in
set_option maxHeartbeats 3200000 in
set_option maxRecDepth 100000 in
theorem spec_TakeFrames (s : ByteArray) (w : World) (hs : s.size ≤ 1048576) :
    Calls Try.prog 37 #[.string s] w fun e w' => ∃ v, e = .returned (.tuple #[v, .int .i64 ((allF s).2 : Nat)]) ∧ w'.ownsRow w.heap.size 9 1 v (allF s).1.length (strs (allF s).1) ∧ Below w.heap.size w w' := by
  obtain ⟨i0, hi, hz0, hz1, hz2⟩ := info_parts str_info
  go_enter Try.func37, Try.ntmps37
  go_wp2_with fail
  have hB : (w.alloc (.cells #[] 9)).ownsRow w.heap.size 9 1 (.slice (some ⟨w.heap.size, 0, none⟩) 0 0) 0 (strs []) := ⟨rfl, .inr ⟨w.heap.size, 0, #[], rfl, Nat.le_refl _, heap_alloc_new w _, Nat.le_refl _, Nat.zero_le _, rfl, rfl⟩⟩
  go_loopw [4, 5] (fun v i wr => ∃ k a m : Nat, k ≤ a ∧ a ≤ s.size ∧ Hid ((stF s k).2 = a) ∧ Hid ((stF s k).1.length = m) ∧ m ≤ k ∧ i = .int .i64 (a : Int) ∧ wr.ownsRow w.heap.size 9 1 v m (strs (stF s k).1) ∧ Below w.heap.size w wr) (fun _ i _ => 1048577 - (intOf i).toNat)
  case atStart => exact ⟨0, 0, 0, Nat.zero_le _, Nat.zero_le _, rfl, rfl, Nat.zero_le _, rfl, hB, (Below.refl _ _).alloc (Nat.le_refl _) _⟩
  case round =>
    clear hB
    obtain ⟨k, a, m, hka, ha, hst, hsm, hmk, rfl, hown, hb⟩ := hrel
    obtain ⟨A1, c1, rfl, _, _⟩ := own_slice hown
    by_cases hlt : a + 8 ≤ s.size
    · have t1 : decide ((a : Int) + 8 ≤ (s.size : Int)) = true := decide_eq_true (by omega)
      go_wp2_with fail
      go_loopw [6, 7] (fun n i wx => ∃ j q : Nat, j ≤ 4 ∧ i = .int .i64 (j : Int) ∧ Hid (q = fourN s a j) ∧ q < 4294967296 ∧ n = .int .i64 (q : Int) ∧ wx = wr) (fun _ i _ => 4 - (intOf i).toNat)
      case atStart => exact ⟨0, 0, by omega, rfl, rfl, by omega, rfl, rfl⟩
      case round =>
        obtain ⟨j, q, hj, rfl, hq, hlq, rfl, rfl⟩ := hrel
        by_cases hj4 : j < 4
        · have hx : s.data.toList.getD (a + j) 0 = s[a + j] := by
            rw [List.getD_eq_getElem?_getD, List.getElem?_eq_getElem (by simp; omega)]; rfl
          have hl2 : fourN s a (j + 1) < 4294967296 := Nat.lt_of_lt_of_le (fourN_lt s a (j + 1)) (Nat.le_trans (Nat.pow_le_pow_right (by omega) (show j + 1 ≤ 4 by omega)) (by omega))
          have hn : Hid (256 * q + s[a + j].toNat = fourN s a (j + 1)) := by
            show _ = _
            rw [fourN, ← hq.out, hx]
          rw [← hn.out] at hl2
          have hu := s[a + j].toNat_lt
          clear hx
          go_wp2_with fail
          go_roundw
          case rel => exact ⟨j + 1, 256 * q + s[a + j].toNat, by omega, by go_num, hn, hl2, by go_num, trivial⟩
          case measure => simp [intOf]; omega
        · obtain rfl : j = 4 := by omega
          by_cases hbig : 100000 < q
          · have HE := Lib.hid (allF_of (s := s) (k := k) (by omega) (by rw [hst.out]; exact nxtF_big (by rw [← hq.out]; exact hbig)))
            have e1 : (100000 < (q : Int)) = True := by simp; omega
            go_upto_region 9 with fail
            refine wp_region_held_drew (S := (fun w' => Below wr.heap.size wr w')) (by kernel_rfl) ?hSq1xs (fun hHeld => ?restq1xs)
            case hSq1xs => (first | exact (Below.refl _ _).drew | exact hHeld | exact hHeld.trans (hb'.mono hHeld.size))
            refine wpAnyH_take (i := 0) (oi := ?oiq1x1) (v := ?vq1x1) ?hiq1x1 (by kernel_rfl) (by kernel_rfl) (by kernel_rfl) ?hQq1x1 (Or.inl ⟨?hwq1x1, ?hyq1x1⟩) (by assumption) ?restq1x1
            case hiq1x1 => simp only [List.getElem?_toArray, List.getElem?_cons_succ, List.getElem?_cons_zero]; exact rfl
            case hQq1x1 => exact fun _ _ _ h => h
            case hwq1x1 => rfl
            case hyq1x1 => ((intro w hSw; (try dsimp only at hSw); go_simp) <;> with_reducible rfl)
            try simp only [Act.put, List.setIfInBounds_toArray, List.set_cons_zero, List.set_cons_succ]
            refine wpAnyH_take (i := 1) (oi := ?oiq1x2) (v := ?vq1x2) ?hiq1x2 (by kernel_rfl) (by kernel_rfl) (by kernel_rfl) ?hQq1x2 (Or.inl ⟨?hwq1x2, ?hyq1x2⟩) (by assumption) ?restq1x2
            case hiq1x2 => simp only [List.getElem?_toArray, List.getElem?_cons_succ, List.getElem?_cons_zero]; exact rfl
            case hQq1x2 => exact fun _ _ _ h => h
            case hwq1x2 => rfl
            case hyq1x2 => ((intro w hSw; (try dsimp only at hSw); go_simp) <;> with_reducible rfl)
            try simp only [Act.put, List.setIfInBounds_toArray, List.set_cons_zero, List.set_cons_succ]
            refine wpAnyH_take (i := 2) (oi := ?oiq1x3) (v := ?vq1x3) ?hiq1x3 (by kernel_rfl) (by kernel_rfl) (by kernel_rfl) ?hQq1x3 (Or.inl ⟨?hwq1x3, ?hyq1x3⟩) (by assumption) ?restq1x3
            case hiq1x3 => simp only [List.getElem?_toArray, List.getElem?_cons_succ, List.getElem?_cons_zero]; exact rfl
            case hQq1x3 => exact fun _ _ _ h => h
            case hwq1x3 => rfl
            case hyq1x3 => ((intro w hSw; (try dsimp only at hSw); go_simp) <;> with_reducible rfl)
            try simp only [Act.put, List.setIfInBounds_toArray, List.set_cons_zero, List.set_cons_succ]
            refine wpAnyH_take (i := 3) (oi := ?oiq1x4) (v := _) ?hiq1x4 (by kernel_rfl) (by kernel_rfl) (by kernel_rfl) ?hQq1x4 (Or.inr ⟨?hwq1x4, rfl⟩) (by assumption) ?restq1x4
            case hiq1x4 => simp only [List.getElem?_toArray, List.getElem?_cons_succ, List.getElem?_cons_zero]; exact rfl
            case hQq1x4 => exact fun _ _ _ h => h
            case hwq1x4 => rfl
            try simp only [Act.put, List.setIfInBounds_toArray, List.set_cons_zero, List.set_cons_succ]
            refine wpAnyH_take (i := 4) (oi := ?oiq1x5) (v := _) ?hiq1x5 (by kernel_rfl) (by kernel_rfl) (by kernel_rfl) ?hQq1x5 (Or.inr ⟨?hwq1x5, rfl⟩) (by assumption) ?restq1x5
            case hiq1x5 => simp only [List.getElem?_toArray, List.getElem?_cons_succ, List.getElem?_cons_zero]; exact rfl
            case hQq1x5 => exact fun _ _ _ h => h
            case hwq1x5 => rfl
            try simp only [Act.put, List.setIfInBounds_toArray, List.set_cons_zero, List.set_cons_succ]
            refine wpAnyH_take (i := 5) (oi := ?oiq1x6) (v := _) ?hiq1x6 (by kernel_rfl) (by kernel_rfl) (by kernel_rfl) ?hQq1x6 (Or.inr ⟨?hwq1x6, rfl⟩) (by assumption) ?restq1x6
            case hiq1x6 => simp only [List.getElem?_toArray, List.getElem?_cons_succ, List.getElem?_cons_zero]; exact rfl
            case hQq1x6 => exact fun _ _ _ h => h
            case hwq1x6 => rfl
            try simp only [Act.put, List.setIfInBounds_toArray, List.set_cons_zero, List.set_cons_succ]
            refine wpAnyH_take (i := 6) (oi := ?oiq1x7) (v := _) ?hiq1x7 (by kernel_rfl) (by kernel_rfl) (by kernel_rfl) ?hQq1x7 (Or.inr ⟨?hwq1x7, rfl⟩) (by assumption) ?restq1x7
            case hiq1x7 => simp only [List.getElem?_toArray, List.getElem?_cons_succ, List.getElem?_cons_zero]; exact rfl
            case hQq1x7 => exact fun _ _ _ h => h
            case hwq1x7 => rfl
            try simp only [Act.put, List.setIfInBounds_toArray, List.set_cons_zero, List.set_cons_succ]
            refine wpAnyH_take (i := 7) (oi := ?oiq1x8) (v := _) ?hiq1x8 (by kernel_rfl) (by kernel_rfl) (by kernel_rfl) ?hQq1x8 (Or.inr ⟨?hwq1x8, rfl⟩) (by assumption) ?restq1x8
            case hiq1x8 => simp only [List.getElem?_toArray, List.getElem?_cons_succ, List.getElem?_cons_zero]; exact rfl
            case hQq1x8 => exact fun _ _ _ h => h
            case hwq1x8 => rfl
            try simp only [Act.put, List.setIfInBounds_toArray, List.set_cons_zero, List.set_cons_succ]
            refine wpAnyH_take (i := 8) (oi := ?oiq1x9) (v := _) ?hiq1x9 (by kernel_rfl) (by kernel_rfl) (by kernel_rfl) ?hQq1x9 (Or.inr ⟨?hwq1x9, rfl⟩) (by assumption) ?restq1x9
            case hiq1x9 => simp only [List.getElem?_toArray, List.getElem?_cons_succ, List.getElem?_cons_zero]; exact rfl
            case hQq1x9 => exact fun _ _ _ h => h
            case hwq1x9 => rfl
            try simp only [Act.put, List.setIfInBounds_toArray, List.set_cons_zero, List.set_cons_succ]
            refine wpAnyH_take (i := 9) (oi := ?oiq1x10) (v := _) ?hiq1x10 (by kernel_rfl) (by kernel_rfl) (by kernel_rfl) ?hQq1x10 (Or.inr ⟨?hwq1x10, rfl⟩) (by assumption) ?restq1x10
            case hiq1x10 => simp only [List.getElem?_toArray, List.getElem?_cons_succ, List.getElem?_cons_zero]; exact rfl
            case hQq1x10 => exact fun _ _ _ h => h
            case hwq1x10 => rfl
            try simp only [Act.put, List.setIfInBounds_toArray, List.set_cons_zero, List.set_cons_succ]
            refine wpAnyH_take (i := 10) (oi := ?oiq1x11) (v := ?vq1x11) ?hiq1x11 (by kernel_rfl) (by kernel_rfl) (by kernel_rfl) ?hQq1x11 (Or.inl ⟨?hwq1x11, ?hyq1x11⟩) (by assumption) ?restq1x11
            case hiq1x11 => simp only [List.getElem?_toArray, List.getElem?_cons_succ, List.getElem?_cons_zero]; exact rfl
            case hQq1x11 => exact fun _ _ _ h => h
            case hwq1x11 => rfl
            case hyq1x11 => ((intro w hSw; (try dsimp only at hSw); go_simp) <;> with_reducible rfl)
            try simp only [Act.put, List.setIfInBounds_toArray, List.set_cons_zero, List.set_cons_succ]
            refine wpAnyH_take (i := 11) (oi := ?oiq1x12) (v := ?vq1x12) ?hiq1x12 (by kernel_rfl) (by kernel_rfl) (by kernel_rfl) ?hQq1x12 (Or.inl ⟨?hwq1x12, ?hyq1x12⟩) (by assumption) ?restq1x12
            case hiq1x12 => simp only [List.getElem?_toArray, List.getElem?_cons_succ, List.getElem?_cons_zero]; exact rfl
            case hQq1x12 => exact fun _ _ _ h => h
            case hwq1x12 => rfl
            case hyq1x12 => ((intro w hSw; (try dsimp only at hSw); go_simp) <;> with_reducible rfl)
            try simp only [Act.put, List.setIfInBounds_toArray, List.set_cons_zero, List.set_cons_succ]
            refine wpAnyH_take (i := 12) (oi := ?oiq1x13) (v := _) ?hiq1x13 (by kernel_rfl) (by kernel_rfl) (by kernel_rfl) ?hQq1x13 (Or.inr ⟨?hwq1x13, rfl⟩) (by assumption) ?restq1x13
            case hiq1x13 => simp only [List.getElem?_toArray, List.getElem?_cons_succ, List.getElem?_cons_zero]; exact rfl
            case hQq1x13 => exact fun _ _ _ h => h
            case hwq1x13 => rfl
            try simp only [Act.put, List.setIfInBounds_toArray, List.set_cons_zero, List.set_cons_succ]
            refine wpAnyH_take (i := 13) (oi := ?oiq1x14) (v := _) ?hiq1x14 (by kernel_rfl) (by kernel_rfl) (by kernel_rfl) ?hQq1x14 (Or.inr ⟨?hwq1x14, rfl⟩) (by assumption) ?restq1x14
            case hiq1x14 => simp only [List.getElem?_toArray, List.getElem?_cons_succ, List.getElem?_cons_zero]; exact rfl
            case hQq1x14 => exact fun _ _ _ h => h
            case hwq1x14 => rfl
            try simp only [Act.put, List.setIfInBounds_toArray, List.set_cons_zero, List.set_cons_succ]
            refine wpAnyH_take (i := 14) (oi := ?oiq1x15) (v := _) ?hiq1x15 (by kernel_rfl) (by kernel_rfl) (by kernel_rfl) ?hQq1x15 (Or.inr ⟨?hwq1x15, rfl⟩) (by assumption) ?restq1x15
            case hiq1x15 => simp only [List.getElem?_toArray, List.getElem?_cons_succ, List.getElem?_cons_zero]; exact rfl
            case hQq1x15 => exact fun _ _ _ h => h
            case hwq1x15 => rfl
            try simp only [Act.put, List.setIfInBounds_toArray, List.set_cons_zero, List.set_cons_succ]
            refine wpAnyH_take (i := 15) (oi := ?oiq1x16) (v := _) ?hiq1x16 (by kernel_rfl) (by kernel_rfl) (by kernel_rfl) ?hQq1x16 (Or.inr ⟨?hwq1x16, rfl⟩) (by assumption) ?restq1x16
            case hiq1x16 => simp only [List.getElem?_toArray, List.getElem?_cons_succ, List.getElem?_cons_zero]; exact rfl
            case hQq1x16 => exact fun _ _ _ h => h
            case hwq1x16 => rfl
            try simp only [Act.put, List.setIfInBounds_toArray, List.set_cons_zero, List.set_cons_succ]
            refine wpAnyH_take (i := 16) (oi := ?oiq1x17) (v := _) ?hiq1x17 (by kernel_rfl) (by kernel_rfl) (by kernel_rfl) ?hQq1x17 (Or.inr ⟨?hwq1x17, rfl⟩) (by assumption) ?restq1x17
            case hiq1x17 => simp only [List.getElem?_toArray, List.getElem?_cons_succ, List.getElem?_cons_zero]; exact rfl
            case hQq1x17 => exact fun _ _ _ h => h
            case hwq1x17 => rfl
            try simp only [Act.put, List.setIfInBounds_toArray, List.set_cons_zero, List.set_cons_succ]
            refine wpAnyH_take (i := 17) (oi := ?oiq1x18) (v := _) ?hiq1x18 (by kernel_rfl) (by kernel_rfl) (by kernel_rfl) ?hQq1x18 (Or.inr ⟨?hwq1x18, rfl⟩) (by assumption) ?restq1x18
            case hiq1x18 => simp only [List.getElem?_toArray, List.getElem?_cons_succ, List.getElem?_cons_zero]; exact rfl
            case hQq1x18 => exact fun _ _ _ h => h
            case hwq1x18 => rfl
            try simp only [Act.put, List.setIfInBounds_toArray, List.set_cons_zero, List.set_cons_succ]
            refine wpAnyH_take (i := 18) (oi := ?oiq1x19) (v := _) ?hiq1x19 (by kernel_rfl) (by kernel_rfl) (by kernel_rfl) ?hQq1x19 (Or.inr ⟨?hwq1x19, rfl⟩) (by assumption) ?restq1x19
            case hiq1x19 => simp only [List.getElem?_toArray, List.getElem?_cons_succ, List.getElem?_cons_zero]; exact rfl
            case hQq1x19 => exact fun _ _ _ h => h
            case hwq1x19 => rfl
            try simp only [Act.put, List.setIfInBounds_toArray, List.set_cons_zero, List.set_cons_succ]
            refine wpAnyH_take (i := 19) (oi := ?oiq1x20) (v := _) ?hiq1x20 (by kernel_rfl) (by kernel_rfl) (by kernel_rfl) ?hQq1x20 (Or.inr ⟨?hwq1x20, rfl⟩) (by assumption) ?restq1x20
            case hiq1x20 => simp only [List.getElem?_toArray, List.getElem?_cons_succ, List.getElem?_cons_zero]; exact rfl
            case hQq1x20 => exact fun _ _ _ h => h
            case hwq1x20 => rfl
            try simp only [Act.put, List.setIfInBounds_toArray, List.set_cons_zero, List.set_cons_succ]
            refine wpAnyH_take (i := 21) (oi := ?oiq1x21) (v := _) ?hiq1x21 (by kernel_rfl) (by kernel_rfl) (by kernel_rfl) ?hQq1x21 (Or.inr ⟨?hwq1x21, rfl⟩) (by assumption) ?restq1x21
            case hiq1x21 => simp only [List.getElem?_toArray, List.getElem?_cons_succ, List.getElem?_cons_zero]; exact rfl
            case hQq1x21 => exact fun _ _ _ h => h
            case hwq1x21 => rfl
            try simp only [Act.put, List.setIfInBounds_toArray, List.set_cons_zero, List.set_cons_succ]
            refine wpAnyH_take (i := 22) (oi := ?oiq1x22) (v := _) ?hiq1x22 (by kernel_rfl) (by kernel_rfl) (by kernel_rfl) ?hQq1x22 (Or.inr ⟨?hwq1x22, rfl⟩) (by assumption) ?restq1x22
            case hiq1x22 => simp only [List.getElem?_toArray, List.getElem?_cons_succ, List.getElem?_cons_zero]; exact rfl
            case hQq1x22 => exact fun _ _ _ h => h
            case hwq1x22 => rfl
            try simp only [Act.put, List.setIfInBounds_toArray, List.set_cons_zero, List.set_cons_succ]
            refine wpAnyH_take (i := 23) (oi := ?oiq1x23) (v := _) ?hiq1x23 (by kernel_rfl) (by kernel_rfl) (by kernel_rfl) ?hQq1x23 (Or.inr ⟨?hwq1x23, rfl⟩) (by assumption) ?restq1x23
            case hiq1x23 => simp only [List.getElem?_toArray, List.getElem?_cons_succ, List.getElem?_cons_zero]; exact rfl
            case hQq1x23 => exact fun _ _ _ h => h
            case hwq1x23 => rfl
            try simp only [Act.put, List.setIfInBounds_toArray, List.set_cons_zero, List.set_cons_succ]
            refine wpAnyH_take (i := 24) (oi := ?oiq1x24) (v := _) ?hiq1x24 (by kernel_rfl) (by kernel_rfl) (by kernel_rfl) ?hQq1x24 (Or.inr ⟨?hwq1x24, rfl⟩) (by assumption) ?restq1x24
            case hiq1x24 => simp only [List.getElem?_toArray, List.getElem?_cons_succ, List.getElem?_cons_zero]; exact rfl
            case hQq1x24 => exact fun _ _ _ h => h
            case hwq1x24 => rfl
            try simp only [Act.put, List.setIfInBounds_toArray, List.set_cons_zero, List.set_cons_succ]
            refine wpAnyH_take (i := 25) (oi := ?oiq1x25) (v := _) ?hiq1x25 (by kernel_rfl) (by kernel_rfl) (by kernel_rfl) ?hQq1x25 (Or.inr ⟨?hwq1x25, rfl⟩) (by assumption) ?restq1x25
            case hiq1x25 => simp only [List.getElem?_toArray, List.getElem?_cons_succ, List.getElem?_cons_zero]; exact rfl
            case hQq1x25 => exact fun _ _ _ h => h
            case hwq1x25 => rfl
            try simp only [Act.put, List.setIfInBounds_toArray, List.set_cons_zero, List.set_cons_succ]
            refine wpAnyH_take (i := 26) (oi := ?oiq1x26) (v := _) ?hiq1x26 (by kernel_rfl) (by kernel_rfl) (by kernel_rfl) ?hQq1x26 (Or.inr ⟨?hwq1x26, rfl⟩) (by assumption) ?restq1x26
            case hiq1x26 => simp only [List.getElem?_toArray, List.getElem?_cons_succ, List.getElem?_cons_zero]; exact rfl
            case hQq1x26 => exact fun _ _ _ h => h
            case hwq1x26 => rfl
            try simp only [Act.put, List.setIfInBounds_toArray, List.set_cons_zero, List.set_cons_succ]
            refine wpAnyH_ready (rs := [20]) (by kernel_rfl) (by simp) ?_
            refine AllReadyH.cons (o := ?oq1x27) ?hoq1x27 (fun K hK => ?stepq1x27) ?moreq1x27
            case hoq1x27 => simp only [List.getElem?_toArray, List.getElem?_cons_succ, List.getElem?_cons_zero]; exact rfl
            case moreq1x27 => exact AllReadyH.nil
            go_simp
            refine hK.out _ _ ?hSq1x27 (fun hHeld => ?restq1x27)
            case hSq1x27 => (first | exact (Below.refl _ _).drew | exact hHeld | exact hHeld.trans (hb'.mono hHeld.size))
            clear hK K
            try simp only [Act.put, List.setIfInBounds_toArray, List.set_cons_zero, List.set_cons_succ]
            refine wpAnyH_take (i := 27) (oi := ?oiq1x28) (v := _) ?hiq1x28 (by kernel_rfl) (by kernel_rfl) (by kernel_rfl) ?hQq1x28 (Or.inr ⟨?hwq1x28, rfl⟩) (by assumption) ?restq1x28
            case hiq1x28 => simp only [List.getElem?_toArray, List.getElem?_cons_succ, List.getElem?_cons_zero]; exact rfl
            case hQq1x28 => exact fun _ _ _ h => h
            case hwq1x28 => rfl
            try simp only [Act.put, List.setIfInBounds_toArray, List.set_cons_zero, List.set_cons_succ]
            refine wpAnyH_take (i := 28) (oi := ?oiq1x29) (v := ?vq1x29) ?hiq1x29 (by kernel_rfl) (by kernel_rfl) (by kernel_rfl) ?hQq1x29 (Or.inl ⟨?hwq1x29, ?hyq1x29⟩) (by assumption) ?restq1x29
            case hiq1x29 => simp only [List.getElem?_toArray, List.getElem?_cons_succ, List.getElem?_cons_zero]; exact rfl
            case hQq1x29 => exact fun _ _ _ h => h
            case hwq1x29 => rfl
            case hyq1x29 => ((intro w hSw; (try dsimp only at hSw); go_simp) <;> with_reducible rfl)
            try simp only [Act.put, List.setIfInBounds_toArray, List.set_cons_zero, List.set_cons_succ]
            refine wpAnyH_done (by kernel_rfl) ?_ _
            go_wp2_with fail
            refine bodyPost_ret (v := .tuple #[.slice A1 m c1, .int .i64 (a : Int)]) (by simp [results, Try.results37, go_sem]) rfl ⟨.slice A1 m c1, ?_, ?_, ?_⟩
            · rw [HE.out, hst.out]
            · rw [HE.out, hsm.out]; exact own_below hown hHeld
            · exact hb.trans (hHeld.mono hb.size)
          · have e1 : (100000 < (q : Int)) = False := by simp; omega
            have x1 : IntKind.i64.wrap ((a : Int) + 8) = (a : Int) + 8 := by rw [IntKind.wrap_i64]; omega
            have x2 : IntKind.i64.wrap ((a : Int) + 8 + (q : Int)) = (a : Int) + 8 + (q : Int) := by rw [IntKind.wrap_i64]; omega
            have x3 : IntKind.i64.wrap ((a : Int) + 4) = (a : Int) + 4 := by rw [IntKind.wrap_i64]; omega
            by_cases hlong : s.size < a + 8 + q
            · have HE := Lib.hid (allF_of (s := s) (k := k) (by omega) (by rw [hst.out]; exact nxtF_long (by rw [← hq.out]; exact hlong)))
              have e2 : ((s.size : Int) < (a : Int) + 8 + (q : Int)) = True := by simp; omega
              go_upto_region 9 with fail
              refine wp_region_held_drew (S := (fun w' => Below wr.heap.size wr w')) (by kernel_rfl) ?hSq2xs (fun hHeld => ?restq2xs)
              case hSq2xs => (first | exact (Below.refl _ _).drew | exact hHeld | exact hHeld.trans (hb'.mono hHeld.size))
              refine wpAnyH_take (i := 0) (oi := ?oiq2x1) (v := ?vq2x1) ?hiq2x1 (by kernel_rfl) (by kernel_rfl) (by kernel_rfl) ?hQq2x1 (Or.inl ⟨?hwq2x1, ?hyq2x1⟩) (by assumption) ?restq2x1
              case hiq2x1 => simp only [List.getElem?_toArray, List.getElem?_cons_succ, List.getElem?_cons_zero]; exact rfl
              case hQq2x1 => exact fun _ _ _ h => h
              case hwq2x1 => rfl
              case hyq2x1 => ((intro w hSw; (try dsimp only at hSw); go_simp) <;> with_reducible rfl)
              try simp only [Act.put, List.setIfInBounds_toArray, List.set_cons_zero, List.set_cons_succ]
              refine wpAnyH_take (i := 1) (oi := ?oiq2x2) (v := ?vq2x2) ?hiq2x2 (by kernel_rfl) (by kernel_rfl) (by kernel_rfl) ?hQq2x2 (Or.inl ⟨?hwq2x2, ?hyq2x2⟩) (by assumption) ?restq2x2
              case hiq2x2 => simp only [List.getElem?_toArray, List.getElem?_cons_succ, List.getElem?_cons_zero]; exact rfl
              case hQq2x2 => exact fun _ _ _ h => h
              case hwq2x2 => rfl
              case hyq2x2 => ((intro w hSw; (try dsimp only at hSw); go_simp) <;> with_reducible rfl)
              try simp only [Act.put, List.setIfInBounds_toArray, List.set_cons_zero, List.set_cons_succ]
              refine wpAnyH_take (i := 2) (oi := ?oiq2x3) (v := ?vq2x3) ?hiq2x3 (by kernel_rfl) (by kernel_rfl) (by kernel_rfl) ?hQq2x3 (Or.inl ⟨?hwq2x3, ?hyq2x3⟩) (by assumption) ?restq2x3
              case hiq2x3 => simp only [List.getElem?_toArray, List.getElem?_cons_succ, List.getElem?_cons_zero]; exact rfl
              case hQq2x3 => exact fun _ _ _ h => h
              case hwq2x3 => rfl
              case hyq2x3 => ((intro w hSw; (try dsimp only at hSw); go_simp) <;> with_reducible rfl)
              try simp only [Act.put, List.setIfInBounds_toArray, List.set_cons_zero, List.set_cons_succ]
              refine wpAnyH_take (i := 3) (oi := ?oiq2x4) (v := ?vq2x4) ?hiq2x4 (by kernel_rfl) (by kernel_rfl) (by kernel_rfl) ?hQq2x4 (Or.inl ⟨?hwq2x4, ?hyq2x4⟩) (by assumption) ?restq2x4
              case hiq2x4 => simp only [List.getElem?_toArray, List.getElem?_cons_succ, List.getElem?_cons_zero]; exact rfl
              case hQq2x4 => exact fun _ _ _ h => h
              case hwq2x4 => rfl
              case hyq2x4 => ((intro w hSw; (try dsimp only at hSw); go_simp) <;> with_reducible rfl)
              try simp only [Act.put, List.setIfInBounds_toArray, List.set_cons_zero, List.set_cons_succ]
              refine wpAnyH_take (i := 4) (oi := ?oiq2x5) (v := ?vq2x5) ?hiq2x5 (by kernel_rfl) (by kernel_rfl) (by kernel_rfl) ?hQq2x5 (Or.inl ⟨?hwq2x5, ?hyq2x5⟩) (by assumption) ?restq2x5
              case hiq2x5 => simp only [List.getElem?_toArray, List.getElem?_cons_succ, List.getElem?_cons_zero]; exact rfl
              case hQq2x5 => exact fun _ _ _ h => h
              case hwq2x5 => rfl
              case hyq2x5 => ((intro w hSw; (try dsimp only at hSw); go_simp) <;> with_reducible rfl)
              try simp only [Act.put, List.setIfInBounds_toArray, List.set_cons_zero, List.set_cons_succ]
              refine wpAnyH_take (i := 5) (oi := ?oiq2x6) (v := ?vq2x6) ?hiq2x6 (by kernel_rfl) (by kernel_rfl) (by kernel_rfl) ?hQq2x6 (Or.inl ⟨?hwq2x6, ?hyq2x6⟩) (by assumption) ?restq2x6
              case hiq2x6 => simp only [List.getElem?_toArray, List.getElem?_cons_succ, List.getElem?_cons_zero]; exact rfl
              case hQq2x6 => exact fun _ _ _ h => h
              case hwq2x6 => rfl
              case hyq2x6 => ((intro w hSw; (try dsimp only at hSw); go_simp) <;> with_reducible rfl)
              try simp only [Act.put, List.setIfInBounds_toArray, List.set_cons_zero, List.set_cons_succ]
              refine wpAnyH_take (i := 6) (oi := ?oiq2x7) (v := ?vq2x7) ?hiq2x7 (by kernel_rfl) (by kernel_rfl) (by kernel_rfl) ?hQq2x7 (Or.inl ⟨?hwq2x7, ?hyq2x7⟩) (by assumption) ?restq2x7
              case hiq2x7 => simp only [List.getElem?_toArray, List.getElem?_cons_succ, List.getElem?_cons_zero]; exact rfl
              case hQq2x7 => exact fun _ _ _ h => h
              case hwq2x7 => rfl
              case hyq2x7 => ((intro w hSw; (try dsimp only at hSw); go_simp) <;> with_reducible rfl)
              try simp only [Act.put, List.setIfInBounds_toArray, List.set_cons_zero, List.set_cons_succ]
              refine wpAnyH_take (i := 7) (oi := ?oiq2x8) (v := ?vq2x8) ?hiq2x8 (by kernel_rfl) (by kernel_rfl) (by kernel_rfl) ?hQq2x8 (Or.inl ⟨?hwq2x8, ?hyq2x8⟩) (by assumption) ?restq2x8
              case hiq2x8 => simp only [List.getElem?_toArray, List.getElem?_cons_succ, List.getElem?_cons_zero]; exact rfl
              case hQq2x8 => exact fun _ _ _ h => h
              case hwq2x8 => rfl
              case hyq2x8 => ((intro w hSw; (try dsimp only at hSw); go_simp) <;> with_reducible rfl)
              try simp only [Act.put, List.setIfInBounds_toArray, List.set_cons_zero, List.set_cons_succ]
              refine wpAnyH_take (i := 8) (oi := ?oiq2x9) (v := ?vq2x9) ?hiq2x9 (by kernel_rfl) (by kernel_rfl) (by kernel_rfl) ?hQq2x9 (Or.inl ⟨?hwq2x9, ?hyq2x9⟩) (by assumption) ?restq2x9
              case hiq2x9 => simp only [List.getElem?_toArray, List.getElem?_cons_succ, List.getElem?_cons_zero]; exact rfl
              case hQq2x9 => exact fun _ _ _ h => h
              case hwq2x9 => rfl
              case hyq2x9 => ((intro w hSw; (try dsimp only at hSw); go_simp) <;> with_reducible rfl)
              try simp only [Act.put, List.setIfInBounds_toArray, List.set_cons_zero, List.set_cons_succ]
              refine wpAnyH_take (i := 9) (oi := ?oiq2x10) (v := ?vq2x10) ?hiq2x10 (by kernel_rfl) (by kernel_rfl) (by kernel_rfl) ?hQq2x10 (Or.inl ⟨?hwq2x10, ?hyq2x10⟩) (by assumption) ?restq2x10
              case hiq2x10 => simp only [List.getElem?_toArray, List.getElem?_cons_succ, List.getElem?_cons_zero]; exact rfl
              case hQq2x10 => exact fun _ _ _ h => h
              case hwq2x10 => rfl
              case hyq2x10 => ((intro w hSw; (try dsimp only at hSw); go_simp) <;> with_reducible rfl)
              try simp only [Act.put, List.setIfInBounds_toArray, List.set_cons_zero, List.set_cons_succ]
              refine wpAnyH_take (i := 10) (oi := ?oiq2x11) (v := ?vq2x11) ?hiq2x11 (by kernel_rfl) (by kernel_rfl) (by kernel_rfl) ?hQq2x11 (Or.inl ⟨?hwq2x11, ?hyq2x11⟩) (by assumption) ?restq2x11
              case hiq2x11 => simp only [List.getElem?_toArray, List.getElem?_cons_succ, List.getElem?_cons_zero]; exact rfl
              case hQq2x11 => exact fun _ _ _ h => h
              case hwq2x11 => rfl
              case hyq2x11 => ((intro w hSw; (try dsimp only at hSw); go_simp) <;> with_reducible rfl)
              try simp only [Act.put, List.setIfInBounds_toArray, List.set_cons_zero, List.set_cons_succ]
              refine wpAnyH_take (i := 11) (oi := ?oiq2x12) (v := ?vq2x12) ?hiq2x12 (by kernel_rfl) (by kernel_rfl) (by kernel_rfl) ?hQq2x12 (Or.inl ⟨?hwq2x12, ?hyq2x12⟩) (by assumption) ?restq2x12
              case hiq2x12 => simp only [List.getElem?_toArray, List.getElem?_cons_succ, List.getElem?_cons_zero]; exact rfl
              case hQq2x12 => exact fun _ _ _ h => h
              case hwq2x12 => rfl
              case hyq2x12 => ((intro w hSw; (try dsimp only at hSw); go_simp) <;> with_reducible rfl)
              try simp only [Act.put, List.setIfInBounds_toArray, List.set_cons_zero, List.set_cons_succ]
              refine wpAnyH_take (i := 12) (oi := ?oiq2x13) (v := _) ?hiq2x13 (by kernel_rfl) (by kernel_rfl) (by kernel_rfl) ?hQq2x13 (Or.inr ⟨?hwq2x13, rfl⟩) (by assumption) ?restq2x13
              case hiq2x13 => simp only [List.getElem?_toArray, List.getElem?_cons_succ, List.getElem?_cons_zero]; exact rfl
              case hQq2x13 => exact fun _ _ _ h => h
              case hwq2x13 => rfl
              try simp only [Act.put, List.setIfInBounds_toArray, List.set_cons_zero, List.set_cons_succ]
              refine wpAnyH_take (i := 13) (oi := ?oiq2x14) (v := _) ?hiq2x14 (by kernel_rfl) (by kernel_rfl) (by kernel_rfl) ?hQq2x14 (Or.inr ⟨?hwq2x14, rfl⟩) (by assumption) ?restq2x14
              case hiq2x14 => simp only [List.getElem?_toArray, List.getElem?_cons_succ, List.getElem?_cons_zero]; exact rfl
              case hQq2x14 => exact fun _ _ _ h => h
              case hwq2x14 => rfl
              try simp only [Act.put, List.setIfInBounds_toArray, List.set_cons_zero, List.set_cons_succ]
              refine wpAnyH_take (i := 14) (oi := ?oiq2x15) (v := _) ?hiq2x15 (by kernel_rfl) (by kernel_rfl) (by kernel_rfl) ?hQq2x15 (Or.inr ⟨?hwq2x15, rfl⟩) (by assumption) ?restq2x15
              case hiq2x15 => simp only [List.getElem?_toArray, List.getElem?_cons_succ, List.getElem?_cons_zero]; exact rfl
              case hQq2x15 => exact fun _ _ _ h => h
              case hwq2x15 => rfl
              try simp only [Act.put, List.setIfInBounds_toArray, List.set_cons_zero, List.set_cons_succ]
              refine wpAnyH_take (i := 15) (oi := ?oiq2x16) (v := _) ?hiq2x16 (by kernel_rfl) (by kernel_rfl) (by kernel_rfl) ?hQq2x16 (Or.inr ⟨?hwq2x16, rfl⟩) (by assumption) ?restq2x16
              case hiq2x16 => simp only [List.getElem?_toArray, List.getElem?_cons_succ, List.getElem?_cons_zero]; exact rfl
              case hQq2x16 => exact fun _ _ _ h => h
              case hwq2x16 => rfl
              try simp only [Act.put, List.setIfInBounds_toArray, List.set_cons_zero, List.set_cons_succ]
              refine wpAnyH_take (i := 16) (oi := ?oiq2x17) (v := _) ?hiq2x17 (by kernel_rfl) (by kernel_rfl) (by kernel_rfl) ?hQq2x17 (Or.inr ⟨?hwq2x17, rfl⟩) (by assumption) ?restq2x17
              case hiq2x17 => simp only [List.getElem?_toArray, List.getElem?_cons_succ, List.getElem?_cons_zero]; exact rfl
              case hQq2x17 => exact fun _ _ _ h => h
              case hwq2x17 => rfl
              try simp only [Act.put, List.setIfInBounds_toArray, List.set_cons_zero, List.set_cons_succ]
              refine wpAnyH_take (i := 17) (oi := ?oiq2x18) (v := _) ?hiq2x18 (by kernel_rfl) (by kernel_rfl) (by kernel_rfl) ?hQq2x18 (Or.inr ⟨?hwq2x18, rfl⟩) (by assumption) ?restq2x18
              case hiq2x18 => simp only [List.getElem?_toArray, List.getElem?_cons_succ, List.getElem?_cons_zero]; exact rfl
              case hQq2x18 => exact fun _ _ _ h => h
              case hwq2x18 => rfl
              try simp only [Act.put, List.setIfInBounds_toArray, List.set_cons_zero, List.set_cons_succ]
              refine wpAnyH_take (i := 18) (oi := ?oiq2x19) (v := _) ?hiq2x19 (by kernel_rfl) (by kernel_rfl) (by kernel_rfl) ?hQq2x19 (Or.inr ⟨?hwq2x19, rfl⟩) (by assumption) ?restq2x19
              case hiq2x19 => simp only [List.getElem?_toArray, List.getElem?_cons_succ, List.getElem?_cons_zero]; exact rfl
              case hQq2x19 => exact fun _ _ _ h => h
              case hwq2x19 => rfl
              try simp only [Act.put, List.setIfInBounds_toArray, List.set_cons_zero, List.set_cons_succ]
              refine wpAnyH_take (i := 19) (oi := ?oiq2x20) (v := _) ?hiq2x20 (by kernel_rfl) (by kernel_rfl) (by kernel_rfl) ?hQq2x20 (Or.inr ⟨?hwq2x20, rfl⟩) (by assumption) ?restq2x20
              case hiq2x20 => simp only [List.getElem?_toArray, List.getElem?_cons_succ, List.getElem?_cons_zero]; exact rfl
              case hQq2x20 => exact fun _ _ _ h => h
              case hwq2x20 => rfl
              try simp only [Act.put, List.setIfInBounds_toArray, List.set_cons_zero, List.set_cons_succ]
              refine wpAnyH_take (i := 21) (oi := ?oiq2x21) (v := _) ?hiq2x21 (by kernel_rfl) (by kernel_rfl) (by kernel_rfl) ?hQq2x21 (Or.inr ⟨?hwq2x21, rfl⟩) (by assumption) ?restq2x21
              case hiq2x21 => simp only [List.getElem?_toArray, List.getElem?_cons_succ, List.getElem?_cons_zero]; exact rfl
              case hQq2x21 => exact fun _ _ _ h => h
              case hwq2x21 => rfl
              try simp only [Act.put, List.setIfInBounds_toArray, List.set_cons_zero, List.set_cons_succ]
              refine wpAnyH_take (i := 22) (oi := ?oiq2x22) (v := _) ?hiq2x22 (by kernel_rfl) (by kernel_rfl) (by kernel_rfl) ?hQq2x22 (Or.inr ⟨?hwq2x22, rfl⟩) (by assumption) ?restq2x22
              case hiq2x22 => simp only [List.getElem?_toArray, List.getElem?_cons_succ, List.getElem?_cons_zero]; exact rfl
              case hQq2x22 => exact fun _ _ _ h => h
              case hwq2x22 => rfl
              try simp only [Act.put, List.setIfInBounds_toArray, List.set_cons_zero, List.set_cons_succ]
              refine wpAnyH_take (i := 23) (oi := ?oiq2x23) (v := _) ?hiq2x23 (by kernel_rfl) (by kernel_rfl) (by kernel_rfl) ?hQq2x23 (Or.inr ⟨?hwq2x23, rfl⟩) (by assumption) ?restq2x23
              case hiq2x23 => simp only [List.getElem?_toArray, List.getElem?_cons_succ, List.getElem?_cons_zero]; exact rfl
              case hQq2x23 => exact fun _ _ _ h => h
              case hwq2x23 => rfl
              try simp only [Act.put, List.setIfInBounds_toArray, List.set_cons_zero, List.set_cons_succ]
              refine wpAnyH_take (i := 24) (oi := ?oiq2x24) (v := _) ?hiq2x24 (by kernel_rfl) (by kernel_rfl) (by kernel_rfl) ?hQq2x24 (Or.inr ⟨?hwq2x24, rfl⟩) (by assumption) ?restq2x24
              case hiq2x24 => simp only [List.getElem?_toArray, List.getElem?_cons_succ, List.getElem?_cons_zero]; exact rfl
              case hQq2x24 => exact fun _ _ _ h => h
              case hwq2x24 => rfl
              try simp only [Act.put, List.setIfInBounds_toArray, List.set_cons_zero, List.set_cons_succ]
              refine wpAnyH_take (i := 25) (oi := ?oiq2x25) (v := _) ?hiq2x25 (by kernel_rfl) (by kernel_rfl) (by kernel_rfl) ?hQq2x25 (Or.inr ⟨?hwq2x25, rfl⟩) (by assumption) ?restq2x25
              case hiq2x25 => simp only [List.getElem?_toArray, List.getElem?_cons_succ, List.getElem?_cons_zero]; exact rfl
              case hQq2x25 => exact fun _ _ _ h => h
              case hwq2x25 => rfl
              try simp only [Act.put, List.setIfInBounds_toArray, List.set_cons_zero, List.set_cons_succ]
              refine wpAnyH_take (i := 26) (oi := ?oiq2x26) (v := _) ?hiq2x26 (by kernel_rfl) (by kernel_rfl) (by kernel_rfl) ?hQq2x26 (Or.inr ⟨?hwq2x26, rfl⟩) (by assumption) ?restq2x26
              case hiq2x26 => simp only [List.getElem?_toArray, List.getElem?_cons_succ, List.getElem?_cons_zero]; exact rfl
              case hQq2x26 => exact fun _ _ _ h => h
              case hwq2x26 => rfl
              try simp only [Act.put, List.setIfInBounds_toArray, List.set_cons_zero, List.set_cons_succ]
              refine wpAnyH_ready (rs := [20]) (by kernel_rfl) (by simp) ?_
              refine AllReadyH.cons (o := ?oq2x27) ?hoq2x27 (fun K hK => ?stepq2x27) ?moreq2x27
              case hoq2x27 => simp only [List.getElem?_toArray, List.getElem?_cons_succ, List.getElem?_cons_zero]; exact rfl
              case moreq2x27 => exact AllReadyH.nil
              go_simp
              refine hK.out _ _ ?hSq2x27 (fun hHeld => ?restq2x27)
              case hSq2x27 => (first | exact (Below.refl _ _).drew | exact hHeld | exact hHeld.trans (hb'.mono hHeld.size))
              clear hK K
              try simp only [Act.put, List.setIfInBounds_toArray, List.set_cons_zero, List.set_cons_succ]
              refine wpAnyH_take (i := 27) (oi := ?oiq2x28) (v := _) ?hiq2x28 (by kernel_rfl) (by kernel_rfl) (by kernel_rfl) ?hQq2x28 (Or.inr ⟨?hwq2x28, rfl⟩) (by assumption) ?restq2x28
              case hiq2x28 => simp only [List.getElem?_toArray, List.getElem?_cons_succ, List.getElem?_cons_zero]; exact rfl
              case hQq2x28 => exact fun _ _ _ h => h
              case hwq2x28 => rfl
              try simp only [Act.put, List.setIfInBounds_toArray, List.set_cons_zero, List.set_cons_succ]
              refine wpAnyH_take (i := 28) (oi := ?oiq2x29) (v := ?vq2x29) ?hiq2x29 (by kernel_rfl) (by kernel_rfl) (by kernel_rfl) ?hQq2x29 (Or.inl ⟨?hwq2x29, ?hyq2x29⟩) (by assumption) ?restq2x29
              case hiq2x29 => simp only [List.getElem?_toArray, List.getElem?_cons_succ, List.getElem?_cons_zero]; exact rfl
              case hQq2x29 => exact fun _ _ _ h => h
              case hwq2x29 => rfl
              case hyq2x29 => ((intro w hSw; (try dsimp only at hSw); go_simp) <;> with_reducible rfl)
              try simp only [Act.put, List.setIfInBounds_toArray, List.set_cons_zero, List.set_cons_succ]
              refine wpAnyH_done (by kernel_rfl) ?_ _
              go_wp2_with fail
              refine bodyPost_ret (v := .tuple #[.slice A1 m c1, .int .i64 (a : Int)]) (by simp [results, Try.results37, go_sem]) rfl ⟨.slice A1 m c1, ?_, ?_, ?_⟩
              · rw [HE.out, hst.out]
              · rw [HE.out, hsm.out]; exact own_below hown hHeld
              · exact hb.trans (hHeld.mono hb.size)
            · have e2 : ((s.size : Int) < (a : Int) + 8 + (q : Int)) = False := by simp; omega
              have y1 : (0 ≤ (a : Int) + 8 + (q : Int) ∧ (a : Int) + 8 + (q : Int) ≤ (s.size : Int)) = True := by simp; omega
              have y2 : (0 ≤ (a : Int) + 8 ∧ (a : Int) + 8 ≤ (a : Int) + 8 + (q : Int)) = True := by simp; omega
              have y3 : (0 ≤ (a : Int) + 8 ∧ (a : Int) + 8 ≤ (s.size : Int)) = True := by simp; omega
              have y4 : (0 ≤ (a : Int) + 4 ∧ (a : Int) + 4 ≤ (a : Int) + 8) = True := by simp; omega
              have y8 : (0 ≤ (a : Int) + 4) = True := by simp; omega
              have y5 : ((a : Int) + 8 + (q : Int)).toNat = a + 8 + q := by omega
              have y6 : ((a : Int) + 8).toNat = a + 8 := by omega
              have y7 : ((a : Int) + 4).toNat = a + 4 := by omega
              by_cases hsum : (⟨(le4 (crcN (s.extract (a + 8) (a + 8 + q)))).toArray⟩ : ByteArray) = s.extract (a + 4) (a + 8)
              · have hsy := sum_yes hsum
                have HN := Lib.hid (nxtF_yes (s := s) (a := a) hlt (by rw [← hq.out]; omega) (by rw [← hq.out]; omega) (by rw [← hq.out]; exact hsum))
                clear hsum
                go_upto_region 9 with fail
                refine wp_region_held_drew (S := (fun w' => Below wr.heap.size wr w')) (by kernel_rfl) ?hSq3xs (fun hHeld => ?restq3xs)
                case hSq3xs => (first | exact (Below.refl _ _).drew | exact hHeld | exact hHeld.trans (hb'.mono hHeld.size))
                refine wpAnyH_take (i := 0) (oi := ?oiq3x1) (v := ?vq3x1) ?hiq3x1 (by kernel_rfl) (by kernel_rfl) (by kernel_rfl) ?hQq3x1 (Or.inl ⟨?hwq3x1, ?hyq3x1⟩) (by assumption) ?restq3x1
                case hiq3x1 => simp only [List.getElem?_toArray, List.getElem?_cons_succ, List.getElem?_cons_zero]; exact rfl
                case hQq3x1 => exact fun _ _ _ h => h
                case hwq3x1 => rfl
                case hyq3x1 => ((intro w hSw; (try dsimp only at hSw); go_simp) <;> with_reducible rfl)
                try simp only [Act.put, List.setIfInBounds_toArray, List.set_cons_zero, List.set_cons_succ]
                refine wpAnyH_take (i := 1) (oi := ?oiq3x2) (v := ?vq3x2) ?hiq3x2 (by kernel_rfl) (by kernel_rfl) (by kernel_rfl) ?hQq3x2 (Or.inl ⟨?hwq3x2, ?hyq3x2⟩) (by assumption) ?restq3x2
                case hiq3x2 => simp only [List.getElem?_toArray, List.getElem?_cons_succ, List.getElem?_cons_zero]; exact rfl
                case hQq3x2 => exact fun _ _ _ h => h
                case hwq3x2 => rfl
                case hyq3x2 => ((intro w hSw; (try dsimp only at hSw); go_simp) <;> with_reducible rfl)
                try simp only [Act.put, List.setIfInBounds_toArray, List.set_cons_zero, List.set_cons_succ]
                refine wpAnyH_take (i := 2) (oi := ?oiq3x3) (v := ?vq3x3) ?hiq3x3 (by kernel_rfl) (by kernel_rfl) (by kernel_rfl) ?hQq3x3 (Or.inl ⟨?hwq3x3, ?hyq3x3⟩) (by assumption) ?restq3x3
                case hiq3x3 => simp only [List.getElem?_toArray, List.getElem?_cons_succ, List.getElem?_cons_zero]; exact rfl
                case hQq3x3 => exact fun _ _ _ h => h
                case hwq3x3 => rfl
                case hyq3x3 => ((intro w hSw; (try dsimp only at hSw); go_simp) <;> with_reducible rfl)
                try simp only [Act.put, List.setIfInBounds_toArray, List.set_cons_zero, List.set_cons_succ]
                refine wpAnyH_take (i := 3) (oi := ?oiq3x4) (v := ?vq3x4) ?hiq3x4 (by kernel_rfl) (by kernel_rfl) (by kernel_rfl) ?hQq3x4 (Or.inl ⟨?hwq3x4, ?hyq3x4⟩) (by assumption) ?restq3x4
                case hiq3x4 => simp only [List.getElem?_toArray, List.getElem?_cons_succ, List.getElem?_cons_zero]; exact rfl
                case hQq3x4 => exact fun _ _ _ h => h
                case hwq3x4 => rfl
                case hyq3x4 => ((intro w hSw; (try dsimp only at hSw); go_simp) <;> with_reducible rfl)
                try simp only [Act.put, List.setIfInBounds_toArray, List.set_cons_zero, List.set_cons_succ]
                refine wpAnyH_take (i := 4) (oi := ?oiq3x5) (v := ?vq3x5) ?hiq3x5 (by kernel_rfl) (by kernel_rfl) (by kernel_rfl) ?hQq3x5 (Or.inl ⟨?hwq3x5, ?hyq3x5⟩) (by assumption) ?restq3x5
                case hiq3x5 => simp only [List.getElem?_toArray, List.getElem?_cons_succ, List.getElem?_cons_zero]; exact rfl
                case hQq3x5 => exact fun _ _ _ h => h
                case hwq3x5 => rfl
                case hyq3x5 => ((intro w hSw; (try dsimp only at hSw); go_simp) <;> with_reducible rfl)
                try simp only [Act.put, List.setIfInBounds_toArray, List.set_cons_zero, List.set_cons_succ]
                refine wpAnyH_take (i := 5) (oi := ?oiq3x6) (v := ?vq3x6) ?hiq3x6 (by kernel_rfl) (by kernel_rfl) (by kernel_rfl) ?hQq3x6 (Or.inl ⟨?hwq3x6, ?hyq3x6⟩) (by assumption) ?restq3x6
                case hiq3x6 => simp only [List.getElem?_toArray, List.getElem?_cons_succ, List.getElem?_cons_zero]; exact rfl
                case hQq3x6 => exact fun _ _ _ h => h
                case hwq3x6 => rfl
                case hyq3x6 => ((intro w hSw; (try dsimp only at hSw); go_simp) <;> with_reducible rfl)
                try simp only [Act.put, List.setIfInBounds_toArray, List.set_cons_zero, List.set_cons_succ]
                refine wpAnyH_take (i := 6) (oi := ?oiq3x7) (v := ?vq3x7) ?hiq3x7 (by kernel_rfl) (by kernel_rfl) (by kernel_rfl) ?hQq3x7 (Or.inl ⟨?hwq3x7, ?hyq3x7⟩) (by assumption) ?restq3x7
                case hiq3x7 => simp only [List.getElem?_toArray, List.getElem?_cons_succ, List.getElem?_cons_zero]; exact rfl
                case hQq3x7 => exact fun _ _ _ h => h
                case hwq3x7 => rfl
                case hyq3x7 => ((intro w hSw; (try dsimp only at hSw); go_simp) <;> with_reducible rfl)
                try simp only [Act.put, List.setIfInBounds_toArray, List.set_cons_zero, List.set_cons_succ]
                refine wpAnyH_take (i := 7) (oi := ?oiq3x8) (v := ?vq3x8) ?hiq3x8 (by kernel_rfl) (by kernel_rfl) (by kernel_rfl) ?hQq3x8 (Or.inl ⟨?hwq3x8, ?hyq3x8⟩) (by assumption) ?restq3x8
                case hiq3x8 => simp only [List.getElem?_toArray, List.getElem?_cons_succ, List.getElem?_cons_zero]; exact rfl
                case hQq3x8 => exact fun _ _ _ h => h
                case hwq3x8 => rfl
                case hyq3x8 => ((intro w hSw; (try dsimp only at hSw); go_simp) <;> with_reducible rfl)
                try simp only [Act.put, List.setIfInBounds_toArray, List.set_cons_zero, List.set_cons_succ]
                refine wpAnyH_take (i := 8) (oi := ?oiq3x9) (v := ?vq3x9) ?hiq3x9 (by kernel_rfl) (by kernel_rfl) (by kernel_rfl) ?hQq3x9 (Or.inl ⟨?hwq3x9, ?hyq3x9⟩) (by assumption) ?restq3x9
                case hiq3x9 => simp only [List.getElem?_toArray, List.getElem?_cons_succ, List.getElem?_cons_zero]; exact rfl
                case hQq3x9 => exact fun _ _ _ h => h
                case hwq3x9 => rfl
                case hyq3x9 => ((intro w hSw; (try dsimp only at hSw); go_simp) <;> with_reducible rfl)
                try simp only [Act.put, List.setIfInBounds_toArray, List.set_cons_zero, List.set_cons_succ]
                refine wpAnyH_take (i := 9) (oi := ?oiq3x10) (v := ?vq3x10) ?hiq3x10 (by kernel_rfl) (by kernel_rfl) (by kernel_rfl) ?hQq3x10 (Or.inl ⟨?hwq3x10, ?hyq3x10⟩) (by assumption) ?restq3x10
                case hiq3x10 => simp only [List.getElem?_toArray, List.getElem?_cons_succ, List.getElem?_cons_zero]; exact rfl
                case hQq3x10 => exact fun _ _ _ h => h
                case hwq3x10 => rfl
                case hyq3x10 => ((intro w hSw; (try dsimp only at hSw); go_simp) <;> with_reducible rfl)
                try simp only [Act.put, List.setIfInBounds_toArray, List.set_cons_zero, List.set_cons_succ]
                refine wpAnyH_take (i := 10) (oi := ?oiq3x11) (v := ?vq3x11) ?hiq3x11 (by kernel_rfl) (by kernel_rfl) (by kernel_rfl) ?hQq3x11 (Or.inl ⟨?hwq3x11, ?hyq3x11⟩) (by assumption) ?restq3x11
                case hiq3x11 => simp only [List.getElem?_toArray, List.getElem?_cons_succ, List.getElem?_cons_zero]; exact rfl
                case hQq3x11 => exact fun _ _ _ h => h
                case hwq3x11 => rfl
                case hyq3x11 => ((intro w hSw; (try dsimp only at hSw); go_simp) <;> with_reducible rfl)
                try simp only [Act.put, List.setIfInBounds_toArray, List.set_cons_zero, List.set_cons_succ]
                refine wpAnyH_take (i := 11) (oi := ?oiq3x12) (v := ?vq3x12) ?hiq3x12 (by kernel_rfl) (by kernel_rfl) (by kernel_rfl) ?hQq3x12 (Or.inl ⟨?hwq3x12, ?hyq3x12⟩) (by assumption) ?restq3x12
                case hiq3x12 => simp only [List.getElem?_toArray, List.getElem?_cons_succ, List.getElem?_cons_zero]; exact rfl
                case hQq3x12 => exact fun _ _ _ h => h
                case hwq3x12 => rfl
                case hyq3x12 => ((intro w hSw; (try dsimp only at hSw); go_simp) <;> with_reducible rfl)
                try simp only [Act.put, List.setIfInBounds_toArray, List.set_cons_zero, List.set_cons_succ]
                refine wpAnyH_take (i := 12) (oi := ?oiq3x13) (v := ?vq3x13) ?hiq3x13 (by kernel_rfl) (by kernel_rfl) (by kernel_rfl) ?hQq3x13 (Or.inl ⟨?hwq3x13, ?hyq3x13⟩) (by assumption) ?restq3x13
                case hiq3x13 => simp only [List.getElem?_toArray, List.getElem?_cons_succ, List.getElem?_cons_zero]; exact rfl
                case hQq3x13 => exact fun _ _ _ h => h
                case hwq3x13 => rfl
                case hyq3x13 => ((intro w hSw; (try dsimp only at hSw); go_simp) <;> with_reducible rfl)
                try simp only [Act.put, List.setIfInBounds_toArray, List.set_cons_zero, List.set_cons_succ]
                refine wpAnyH_take (i := 13) (oi := ?oiq3x14) (v := ?vq3x14) ?hiq3x14 (by kernel_rfl) (by kernel_rfl) (by kernel_rfl) ?hQq3x14 (Or.inl ⟨?hwq3x14, ?hyq3x14⟩) (by assumption) ?restq3x14
                case hiq3x14 => simp only [List.getElem?_toArray, List.getElem?_cons_succ, List.getElem?_cons_zero]; exact rfl
                case hQq3x14 => exact fun _ _ _ h => h
                case hwq3x14 => rfl
                case hyq3x14 => ((intro w hSw; (try dsimp only at hSw); go_simp) <;> with_reducible rfl)
                try simp only [Act.put, List.setIfInBounds_toArray, List.set_cons_zero, List.set_cons_succ]
                refine wpAnyH_take (i := 14) (oi := ?oiq3x15) (v := ?vq3x15) ?hiq3x15 (by kernel_rfl) (by kernel_rfl) (by kernel_rfl) ?hQq3x15 (Or.inl ⟨?hwq3x15, ?hyq3x15⟩) (by assumption) ?restq3x15
                case hiq3x15 => simp only [List.getElem?_toArray, List.getElem?_cons_succ, List.getElem?_cons_zero]; exact rfl
                case hQq3x15 => exact fun _ _ _ h => h
                case hwq3x15 => rfl
                case hyq3x15 => ((intro w hSw; (try dsimp only at hSw); go_simp) <;> with_reducible rfl)
                try simp only [Act.put, List.setIfInBounds_toArray, List.set_cons_zero, List.set_cons_succ]
                refine wpAnyH_take (i := 15) (oi := ?oiq3x16) (v := ?vq3x16) ?hiq3x16 (by kernel_rfl) (by kernel_rfl) (by kernel_rfl) ?hQq3x16 (Or.inl ⟨?hwq3x16, ?hyq3x16⟩) (by assumption) ?restq3x16
                case hiq3x16 => simp only [List.getElem?_toArray, List.getElem?_cons_succ, List.getElem?_cons_zero]; exact rfl
                case hQq3x16 => exact fun _ _ _ h => h
                case hwq3x16 => rfl
                case hyq3x16 => ((intro w hSw; (try dsimp only at hSw); go_simp) <;> with_reducible rfl)
                try simp only [Act.put, List.setIfInBounds_toArray, List.set_cons_zero, List.set_cons_succ]
                refine wpAnyH_take (i := 16) (oi := ?oiq3x17) (v := ?vq3x17) ?hiq3x17 (by kernel_rfl) (by kernel_rfl) (by kernel_rfl) ?hQq3x17 (Or.inl ⟨?hwq3x17, ?hyq3x17⟩) (by assumption) ?restq3x17
                case hiq3x17 => simp only [List.getElem?_toArray, List.getElem?_cons_succ, List.getElem?_cons_zero]; exact rfl
                case hQq3x17 => exact fun _ _ _ h => h
                case hwq3x17 => rfl
                case hyq3x17 => ((intro w hSw; (try dsimp only at hSw); go_simp) <;> with_reducible rfl)
                try simp only [Act.put, List.setIfInBounds_toArray, List.set_cons_zero, List.set_cons_succ]
                refine wpAnyH_take (i := 17) (oi := ?oiq3x18) (v := ?vq3x18) ?hiq3x18 (by kernel_rfl) (by kernel_rfl) (by kernel_rfl) ?hQq3x18 (Or.inl ⟨?hwq3x18, ?hyq3x18⟩) (by assumption) ?restq3x18
                case hiq3x18 => simp only [List.getElem?_toArray, List.getElem?_cons_succ, List.getElem?_cons_zero]; exact rfl
                case hQq3x18 => exact fun _ _ _ h => h
                case hwq3x18 => rfl
                case hyq3x18 => ((intro w hSw; (try dsimp only at hSw); go_simp) <;> with_reducible rfl)
                try simp only [Act.put, List.setIfInBounds_toArray, List.set_cons_zero, List.set_cons_succ]
                refine wpAnyH_take (i := 18) (oi := ?oiq3x19) (v := ?vq3x19) ?hiq3x19 (by kernel_rfl) (by kernel_rfl) (by kernel_rfl) ?hQq3x19 (Or.inl ⟨?hwq3x19, ?hyq3x19⟩) (by assumption) ?restq3x19
                case hiq3x19 => simp only [List.getElem?_toArray, List.getElem?_cons_succ, List.getElem?_cons_zero]; exact rfl
                case hQq3x19 => exact fun _ _ _ h => h
                case hwq3x19 => rfl
                case hyq3x19 => ((intro w hSw; (try dsimp only at hSw); go_simp) <;> with_reducible rfl)
                try simp only [Act.put, List.setIfInBounds_toArray, List.set_cons_zero, List.set_cons_succ]
                refine wpAnyH_take (i := 19) (oi := ?oiq3x20) (v := ?vq3x20) ?hiq3x20 (by kernel_rfl) (by kernel_rfl) (by kernel_rfl) ?hQq3x20 (Or.inl ⟨?hwq3x20, ?hyq3x20⟩) (by assumption) ?restq3x20
                case hiq3x20 => simp only [List.getElem?_toArray, List.getElem?_cons_succ, List.getElem?_cons_zero]; exact rfl
                case hQq3x20 => exact fun _ _ _ h => h
                case hwq3x20 => rfl
                case hyq3x20 => ((intro w hSw; (try dsimp only at hSw); go_simp) <;> with_reducible rfl)
                try simp only [Act.put, List.setIfInBounds_toArray, List.set_cons_zero, List.set_cons_succ]
                refine wpAnyH_take (i := 21) (oi := ?oiq3x21) (v := ?vq3x21) ?hiq3x21 (by kernel_rfl) (by kernel_rfl) (by kernel_rfl) ?hQq3x21 (Or.inl ⟨?hwq3x21, ?hyq3x21⟩) (by assumption) ?restq3x21
                case hiq3x21 => simp only [List.getElem?_toArray, List.getElem?_cons_succ, List.getElem?_cons_zero]; exact rfl
                case hQq3x21 => exact fun _ _ _ h => h
                case hwq3x21 => rfl
                case hyq3x21 => ((intro w hSw; (try dsimp only at hSw); go_simp) <;> with_reducible rfl)
                try simp only [Act.put, List.setIfInBounds_toArray, List.set_cons_zero, List.set_cons_succ]
                refine wpAnyH_take (i := 22) (oi := ?oiq3x22) (v := ?vq3x22) ?hiq3x22 (by kernel_rfl) (by kernel_rfl) (by kernel_rfl) ?hQq3x22 (Or.inl ⟨?hwq3x22, ?hyq3x22⟩) (by assumption) ?restq3x22
                case hiq3x22 => simp only [List.getElem?_toArray, List.getElem?_cons_succ, List.getElem?_cons_zero]; exact rfl
                case hQq3x22 => exact fun _ _ _ h => h
                case hwq3x22 => rfl
                case hyq3x22 => ((intro w hSw; (try dsimp only at hSw); go_simp) <;> with_reducible rfl)
                try simp only [Act.put, List.setIfInBounds_toArray, List.set_cons_zero, List.set_cons_succ]
                refine wpAnyH_take (i := 23) (oi := ?oiq3x23) (v := ?vq3x23) ?hiq3x23 (by kernel_rfl) (by kernel_rfl) (by kernel_rfl) ?hQq3x23 (Or.inl ⟨?hwq3x23, ?hyq3x23⟩) (by assumption) ?restq3x23
                case hiq3x23 => simp only [List.getElem?_toArray, List.getElem?_cons_succ, List.getElem?_cons_zero]; exact rfl
                case hQq3x23 => exact fun _ _ _ h => h
                case hwq3x23 => rfl
                case hyq3x23 => ((intro w hSw; (try dsimp only at hSw); go_simp) <;> with_reducible rfl)
                try simp only [Act.put, List.setIfInBounds_toArray, List.set_cons_zero, List.set_cons_succ]
                refine wpAnyH_take (i := 24) (oi := ?oiq3x24) (v := ?vq3x24) ?hiq3x24 (by kernel_rfl) (by kernel_rfl) (by kernel_rfl) ?hQq3x24 (Or.inl ⟨?hwq3x24, ?hyq3x24⟩) (by assumption) ?restq3x24
                case hiq3x24 => simp only [List.getElem?_toArray, List.getElem?_cons_succ, List.getElem?_cons_zero]; exact rfl
                case hQq3x24 => exact fun _ _ _ h => h
                case hwq3x24 => rfl
                case hyq3x24 => ((intro w hSw; (try dsimp only at hSw); go_simp) <;> with_reducible rfl)
                try simp only [Act.put, List.setIfInBounds_toArray, List.set_cons_zero, List.set_cons_succ]
                refine wpAnyH_take (i := 25) (oi := ?oiq3x25) (v := ?vq3x25) ?hiq3x25 (by kernel_rfl) (by kernel_rfl) (by kernel_rfl) ?hQq3x25 (Or.inl ⟨?hwq3x25, ?hyq3x25⟩) (by assumption) ?restq3x25
                case hiq3x25 => simp only [List.getElem?_toArray, List.getElem?_cons_succ, List.getElem?_cons_zero]; exact rfl
                case hQq3x25 => exact fun _ _ _ h => h
                case hwq3x25 => rfl
                case hyq3x25 => ((intro w hSw; (try dsimp only at hSw); go_simp) <;> with_reducible rfl)
                try simp only [Act.put, List.setIfInBounds_toArray, List.set_cons_zero, List.set_cons_succ]
                refine wpAnyH_take (i := 26) (oi := ?oiq3x26) (v := ?vq3x26) ?hiq3x26 (by kernel_rfl) (by kernel_rfl) (by kernel_rfl) ?hQq3x26 (Or.inl ⟨?hwq3x26, ?hyq3x26⟩) (by assumption) ?restq3x26
                case hiq3x26 => simp only [List.getElem?_toArray, List.getElem?_cons_succ, List.getElem?_cons_zero]; exact rfl
                case hQq3x26 => exact fun _ _ _ h => h
                case hwq3x26 => rfl
                case hyq3x26 => ((intro w hSw; (try dsimp only at hSw); go_simp) <;> with_reducible rfl)
                try simp only [Act.put, List.setIfInBounds_toArray, List.set_cons_zero, List.set_cons_succ]
                refine wpAnyH_ready (rs := [20]) (by kernel_rfl) (by simp) ?_
                refine AllReadyH.cons (o := ?oq3x27) ?hoq3x27 (fun K hK => ?stepq3x27) ?moreq3x27
                case hoq3x27 => simp only [List.getElem?_toArray, List.getElem?_cons_succ, List.getElem?_cons_zero]; exact rfl
                case moreq3x27 => exact AllReadyH.nil
                go_simp
                (go_at_call 73; refine (l12Sum_any _ _ (by rw [ByteArray.size_extract]; unfold maxLen; omega)).mono ?_; rintro e w' ⟨rfl, hb'⟩)
                refine hK.out _ _ ?hSq3x27 (fun hHeld => ?restq3x27)
                case hSq3x27 => (first | exact (Below.refl _ _).drew | exact hHeld | exact hHeld.trans (hb'.mono hHeld.size))
                clear hK K
                try simp only [Act.put, List.setIfInBounds_toArray, List.set_cons_zero, List.set_cons_succ]
                refine wpAnyH_take (i := 27) (oi := ?oiq3x28) (v := ?vq3x28) ?hiq3x28 (by kernel_rfl) (by kernel_rfl) (by kernel_rfl) ?hQq3x28 (Or.inl ⟨?hwq3x28, ?hyq3x28⟩) (by assumption) ?restq3x28
                case hiq3x28 => simp only [List.getElem?_toArray, List.getElem?_cons_succ, List.getElem?_cons_zero]; exact rfl
                case hQq3x28 => exact fun _ _ _ h => h
                case hwq3x28 => rfl
                case hyq3x28 => ((intro w hSw; (try dsimp only at hSw); go_simp) <;> with_reducible rfl)
                try simp only [Act.put, List.setIfInBounds_toArray, List.set_cons_zero, List.set_cons_succ]
                refine wpAnyH_take (i := 28) (oi := ?oiq3x29) (v := ?vq3x29) ?hiq3x29 (by kernel_rfl) (by kernel_rfl) (by kernel_rfl) ?hQq3x29 (Or.inl ⟨?hwq3x29, ?hyq3x29⟩) (by assumption) ?restq3x29
                case hiq3x29 => simp only [List.getElem?_toArray, List.getElem?_cons_succ, List.getElem?_cons_zero]; exact rfl
                case hQq3x29 => exact fun _ _ _ h => h
                case hwq3x29 => rfl
                case hyq3x29 => ((intro w hSw; (try dsimp only at hSw); go_simp) <;> with_reducible rfl)
                try simp only [Act.put, List.setIfInBounds_toArray, List.set_cons_zero, List.set_cons_succ]
                refine wpAnyH_done (by kernel_rfl) ?_ _
                have hst2 := Lib.hid (stF_some (s := s) (k := k) (n := q) (by rw [hst.out, HN.out, ← hq.out]))
                rw [hst.out] at hst2
                have hown1 := own_below hown hHeld
                have hbw1 := hb.trans (hHeld.mono hb.size)
                have hov := hown1.lt
                have hbs := hbw1.size
                clear hown hb hHeld
                go_wp2_with (at_builtin; refine wpList_append_own_at _ rfl _ _ 54 rfl w.heap.size 9 i0 _ 1 16 Try.underlying54 hi hz0 hz1 hz2 rfl (by decide) _ _ _ rfl (hown1.alloc _) ⟨w'.heap.size, 0, none⟩ 1 1 [.string (s.extract (a + 8) (a + 8 + q))] rfl rfl ?c1 ?c2 ?c3 ?c4 ?c5 ?_)
                case c1 => exact World.news_of_block (heap_alloc_new w' _)
                case c2 => intro u hu; simp at hu; subst hu; rfl
                case c3 => unfold maxLen; omega
                case c4 => omega
                case c5 => simp; omega
                intro v' w2 hown2 hgrow2 _ _
                have hbw2 : Below w.heap.size w w2 := (hbw1.alloc hbs _).grown hgrow2 (by simp; omega) (fun q hq => (hov q hq).1)
                have hown3 : w2.ownsRow w.heap.size 9 1 v' (m + 1) (strs (stF s (k + 1)).1) := by rw [hst2.out, strs_append]; exact hown2
                obtain ⟨A2, c2, rfl, _, _⟩ := own_slice hown2
                clear hown2 hgrow2 hown1 hbw1 hov
                go_wp2_with fail
                go_roundw
                case rel => exact ⟨k + 1, a + 8 + q, m + 1, by omega, by omega, by rw [hst2.out]; rfl, by rw [hst2.out]; show List.length ((stF s k).1 ++ [_]) = _; rw [List.length_append, hsm.out]; rfl, by omega, by go_num, hown3, hbw2⟩
                case measure => simp [intOf]; omega
              · have HE := Lib.hid (allF_of (s := s) (k := k) (by omega) (by rw [hst.out]; exact nxtF_sum (by rw [← hq.out]; exact hsum)))
                have hsy := sum_no hsum
                go_upto_region 9 with fail
                refine wp_region_held_drew (S := (fun w' => Below wr.heap.size wr w')) (by kernel_rfl) ?hSq4xs (fun hHeld => ?restq4xs)
                case hSq4xs => (first | exact (Below.refl _ _).drew | exact hHeld | exact hHeld.trans (hb'.mono hHeld.size))
                refine wpAnyH_take (i := 0) (oi := ?oiq4x1) (v := ?vq4x1) ?hiq4x1 (by kernel_rfl) (by kernel_rfl) (by kernel_rfl) ?hQq4x1 (Or.inl ⟨?hwq4x1, ?hyq4x1⟩) (by assumption) ?restq4x1
                case hiq4x1 => simp only [List.getElem?_toArray, List.getElem?_cons_succ, List.getElem?_cons_zero]; exact rfl
                case hQq4x1 => exact fun _ _ _ h => h
                case hwq4x1 => rfl
                case hyq4x1 => ((intro w hSw; (try dsimp only at hSw); go_simp) <;> with_reducible rfl)
                try simp only [Act.put, List.setIfInBounds_toArray, List.set_cons_zero, List.set_cons_succ]
                refine wpAnyH_take (i := 1) (oi := ?oiq4x2) (v := ?vq4x2) ?hiq4x2 (by kernel_rfl) (by kernel_rfl) (by kernel_rfl) ?hQq4x2 (Or.inl ⟨?hwq4x2, ?hyq4x2⟩) (by assumption) ?restq4x2
                case hiq4x2 => simp only [List.getElem?_toArray, List.getElem?_cons_succ, List.getElem?_cons_zero]; exact rfl
                case hQq4x2 => exact fun _ _ _ h => h
                case hwq4x2 => rfl
                case hyq4x2 => ((intro w hSw; (try dsimp only at hSw); go_simp) <;> with_reducible rfl)
                try simp only [Act.put, List.setIfInBounds_toArray, List.set_cons_zero, List.set_cons_succ]
                refine wpAnyH_take (i := 2) (oi := ?oiq4x3) (v := ?vq4x3) ?hiq4x3 (by kernel_rfl) (by kernel_rfl) (by kernel_rfl) ?hQq4x3 (Or.inl ⟨?hwq4x3, ?hyq4x3⟩) (by assumption) ?restq4x3
                case hiq4x3 => simp only [List.getElem?_toArray, List.getElem?_cons_succ, List.getElem?_cons_zero]; exact rfl
                case hQq4x3 => exact fun _ _ _ h => h
                case hwq4x3 => rfl
                case hyq4x3 => ((intro w hSw; (try dsimp only at hSw); go_simp) <;> with_reducible rfl)
                try simp only [Act.put, List.setIfInBounds_toArray, List.set_cons_zero, List.set_cons_succ]
                refine wpAnyH_take (i := 3) (oi := ?oiq4x4) (v := ?vq4x4) ?hiq4x4 (by kernel_rfl) (by kernel_rfl) (by kernel_rfl) ?hQq4x4 (Or.inl ⟨?hwq4x4, ?hyq4x4⟩) (by assumption) ?restq4x4
                case hiq4x4 => simp only [List.getElem?_toArray, List.getElem?_cons_succ, List.getElem?_cons_zero]; exact rfl
                case hQq4x4 => exact fun _ _ _ h => h
                case hwq4x4 => rfl
                case hyq4x4 => ((intro w hSw; (try dsimp only at hSw); go_simp) <;> with_reducible rfl)
                try simp only [Act.put, List.setIfInBounds_toArray, List.set_cons_zero, List.set_cons_succ]
                refine wpAnyH_take (i := 4) (oi := ?oiq4x5) (v := ?vq4x5) ?hiq4x5 (by kernel_rfl) (by kernel_rfl) (by kernel_rfl) ?hQq4x5 (Or.inl ⟨?hwq4x5, ?hyq4x5⟩) (by assumption) ?restq4x5
                case hiq4x5 => simp only [List.getElem?_toArray, List.getElem?_cons_succ, List.getElem?_cons_zero]; exact rfl
                case hQq4x5 => exact fun _ _ _ h => h
                case hwq4x5 => rfl
                case hyq4x5 => ((intro w hSw; (try dsimp only at hSw); go_simp) <;> with_reducible rfl)
                try simp only [Act.put, List.setIfInBounds_toArray, List.set_cons_zero, List.set_cons_succ]
                refine wpAnyH_take (i := 5) (oi := ?oiq4x6) (v := ?vq4x6) ?hiq4x6 (by kernel_rfl) (by kernel_rfl) (by kernel_rfl) ?hQq4x6 (Or.inl ⟨?hwq4x6, ?hyq4x6⟩) (by assumption) ?restq4x6
                case hiq4x6 => simp only [List.getElem?_toArray, List.getElem?_cons_succ, List.getElem?_cons_zero]; exact rfl
                case hQq4x6 => exact fun _ _ _ h => h
                case hwq4x6 => rfl
                case hyq4x6 => ((intro w hSw; (try dsimp only at hSw); go_simp) <;> with_reducible rfl)
                try simp only [Act.put, List.setIfInBounds_toArray, List.set_cons_zero, List.set_cons_succ]
                refine wpAnyH_take (i := 6) (oi := ?oiq4x7) (v := ?vq4x7) ?hiq4x7 (by kernel_rfl) (by kernel_rfl) (by kernel_rfl) ?hQq4x7 (Or.inl ⟨?hwq4x7, ?hyq4x7⟩) (by assumption) ?restq4x7
                case hiq4x7 => simp only [List.getElem?_toArray, List.getElem?_cons_succ, List.getElem?_cons_zero]; exact rfl
                case hQq4x7 => exact fun _ _ _ h => h
                case hwq4x7 => rfl
                case hyq4x7 => ((intro w hSw; (try dsimp only at hSw); go_simp) <;> with_reducible rfl)
                try simp only [Act.put, List.setIfInBounds_toArray, List.set_cons_zero, List.set_cons_succ]
                refine wpAnyH_take (i := 7) (oi := ?oiq4x8) (v := ?vq4x8) ?hiq4x8 (by kernel_rfl) (by kernel_rfl) (by kernel_rfl) ?hQq4x8 (Or.inl ⟨?hwq4x8, ?hyq4x8⟩) (by assumption) ?restq4x8
                case hiq4x8 => simp only [List.getElem?_toArray, List.getElem?_cons_succ, List.getElem?_cons_zero]; exact rfl
                case hQq4x8 => exact fun _ _ _ h => h
                case hwq4x8 => rfl
                case hyq4x8 => ((intro w hSw; (try dsimp only at hSw); go_simp) <;> with_reducible rfl)
                try simp only [Act.put, List.setIfInBounds_toArray, List.set_cons_zero, List.set_cons_succ]
                refine wpAnyH_take (i := 8) (oi := ?oiq4x9) (v := ?vq4x9) ?hiq4x9 (by kernel_rfl) (by kernel_rfl) (by kernel_rfl) ?hQq4x9 (Or.inl ⟨?hwq4x9, ?hyq4x9⟩) (by assumption) ?restq4x9
                case hiq4x9 => simp only [List.getElem?_toArray, List.getElem?_cons_succ, List.getElem?_cons_zero]; exact rfl
                case hQq4x9 => exact fun _ _ _ h => h
                case hwq4x9 => rfl
                case hyq4x9 => ((intro w hSw; (try dsimp only at hSw); go_simp) <;> with_reducible rfl)
                try simp only [Act.put, List.setIfInBounds_toArray, List.set_cons_zero, List.set_cons_succ]
                refine wpAnyH_take (i := 9) (oi := ?oiq4x10) (v := ?vq4x10) ?hiq4x10 (by kernel_rfl) (by kernel_rfl) (by kernel_rfl) ?hQq4x10 (Or.inl ⟨?hwq4x10, ?hyq4x10⟩) (by assumption) ?restq4x10
                case hiq4x10 => simp only [List.getElem?_toArray, List.getElem?_cons_succ, List.getElem?_cons_zero]; exact rfl
                case hQq4x10 => exact fun _ _ _ h => h
                case hwq4x10 => rfl
                case hyq4x10 => ((intro w hSw; (try dsimp only at hSw); go_simp) <;> with_reducible rfl)
                try simp only [Act.put, List.setIfInBounds_toArray, List.set_cons_zero, List.set_cons_succ]
                refine wpAnyH_take (i := 10) (oi := ?oiq4x11) (v := ?vq4x11) ?hiq4x11 (by kernel_rfl) (by kernel_rfl) (by kernel_rfl) ?hQq4x11 (Or.inl ⟨?hwq4x11, ?hyq4x11⟩) (by assumption) ?restq4x11
                case hiq4x11 => simp only [List.getElem?_toArray, List.getElem?_cons_succ, List.getElem?_cons_zero]; exact rfl
                case hQq4x11 => exact fun _ _ _ h => h
                case hwq4x11 => rfl
                case hyq4x11 => ((intro w hSw; (try dsimp only at hSw); go_simp) <;> with_reducible rfl)
                try simp only [Act.put, List.setIfInBounds_toArray, List.set_cons_zero, List.set_cons_succ]
                refine wpAnyH_take (i := 11) (oi := ?oiq4x12) (v := ?vq4x12) ?hiq4x12 (by kernel_rfl) (by kernel_rfl) (by kernel_rfl) ?hQq4x12 (Or.inl ⟨?hwq4x12, ?hyq4x12⟩) (by assumption) ?restq4x12
                case hiq4x12 => simp only [List.getElem?_toArray, List.getElem?_cons_succ, List.getElem?_cons_zero]; exact rfl
                case hQq4x12 => exact fun _ _ _ h => h
                case hwq4x12 => rfl
                case hyq4x12 => ((intro w hSw; (try dsimp only at hSw); go_simp) <;> with_reducible rfl)
                try simp only [Act.put, List.setIfInBounds_toArray, List.set_cons_zero, List.set_cons_succ]
                refine wpAnyH_take (i := 12) (oi := ?oiq4x13) (v := ?vq4x13) ?hiq4x13 (by kernel_rfl) (by kernel_rfl) (by kernel_rfl) ?hQq4x13 (Or.inl ⟨?hwq4x13, ?hyq4x13⟩) (by assumption) ?restq4x13
                case hiq4x13 => simp only [List.getElem?_toArray, List.getElem?_cons_succ, List.getElem?_cons_zero]; exact rfl
                case hQq4x13 => exact fun _ _ _ h => h
                case hwq4x13 => rfl
                case hyq4x13 => ((intro w hSw; (try dsimp only at hSw); go_simp) <;> with_reducible rfl)
                try simp only [Act.put, List.setIfInBounds_toArray, List.set_cons_zero, List.set_cons_succ]
                refine wpAnyH_take (i := 13) (oi := ?oiq4x14) (v := ?vq4x14) ?hiq4x14 (by kernel_rfl) (by kernel_rfl) (by kernel_rfl) ?hQq4x14 (Or.inl ⟨?hwq4x14, ?hyq4x14⟩) (by assumption) ?restq4x14
                case hiq4x14 => simp only [List.getElem?_toArray, List.getElem?_cons_succ, List.getElem?_cons_zero]; exact rfl
                case hQq4x14 => exact fun _ _ _ h => h
                case hwq4x14 => rfl
                case hyq4x14 => ((intro w hSw; (try dsimp only at hSw); go_simp) <;> with_reducible rfl)
                try simp only [Act.put, List.setIfInBounds_toArray, List.set_cons_zero, List.set_cons_succ]
                refine wpAnyH_take (i := 14) (oi := ?oiq4x15) (v := ?vq4x15) ?hiq4x15 (by kernel_rfl) (by kernel_rfl) (by kernel_rfl) ?hQq4x15 (Or.inl ⟨?hwq4x15, ?hyq4x15⟩) (by assumption) ?restq4x15
                case hiq4x15 => simp only [List.getElem?_toArray, List.getElem?_cons_succ, List.getElem?_cons_zero]; exact rfl
                case hQq4x15 => exact fun _ _ _ h => h
                case hwq4x15 => rfl
                case hyq4x15 => ((intro w hSw; (try dsimp only at hSw); go_simp) <;> with_reducible rfl)
                try simp only [Act.put, List.setIfInBounds_toArray, List.set_cons_zero, List.set_cons_succ]
                refine wpAnyH_take (i := 15) (oi := ?oiq4x16) (v := ?vq4x16) ?hiq4x16 (by kernel_rfl) (by kernel_rfl) (by kernel_rfl) ?hQq4x16 (Or.inl ⟨?hwq4x16, ?hyq4x16⟩) (by assumption) ?restq4x16
                case hiq4x16 => simp only [List.getElem?_toArray, List.getElem?_cons_succ, List.getElem?_cons_zero]; exact rfl
                case hQq4x16 => exact fun _ _ _ h => h
                case hwq4x16 => rfl
                case hyq4x16 => ((intro w hSw; (try dsimp only at hSw); go_simp) <;> with_reducible rfl)
                try simp only [Act.put, List.setIfInBounds_toArray, List.set_cons_zero, List.set_cons_succ]
                refine wpAnyH_take (i := 16) (oi := ?oiq4x17) (v := ?vq4x17) ?hiq4x17 (by kernel_rfl) (by kernel_rfl) (by kernel_rfl) ?hQq4x17 (Or.inl ⟨?hwq4x17, ?hyq4x17⟩) (by assumption) ?restq4x17
                case hiq4x17 => simp only [List.getElem?_toArray, List.getElem?_cons_succ, List.getElem?_cons_zero]; exact rfl
                case hQq4x17 => exact fun _ _ _ h => h
                case hwq4x17 => rfl
                case hyq4x17 => ((intro w hSw; (try dsimp only at hSw); go_simp) <;> with_reducible rfl)
                try simp only [Act.put, List.setIfInBounds_toArray, List.set_cons_zero, List.set_cons_succ]
                refine wpAnyH_take (i := 17) (oi := ?oiq4x18) (v := ?vq4x18) ?hiq4x18 (by kernel_rfl) (by kernel_rfl) (by kernel_rfl) ?hQq4x18 (Or.inl ⟨?hwq4x18, ?hyq4x18⟩) (by assumption) ?restq4x18
                case hiq4x18 => simp only [List.getElem?_toArray, List.getElem?_cons_succ, List.getElem?_cons_zero]; exact rfl
                case hQq4x18 => exact fun _ _ _ h => h
                case hwq4x18 => rfl
                case hyq4x18 => ((intro w hSw; (try dsimp only at hSw); go_simp) <;> with_reducible rfl)
                try simp only [Act.put, List.setIfInBounds_toArray, List.set_cons_zero, List.set_cons_succ]
                refine wpAnyH_take (i := 18) (oi := ?oiq4x19) (v := ?vq4x19) ?hiq4x19 (by kernel_rfl) (by kernel_rfl) (by kernel_rfl) ?hQq4x19 (Or.inl ⟨?hwq4x19, ?hyq4x19⟩) (by assumption) ?restq4x19
                case hiq4x19 => simp only [List.getElem?_toArray, List.getElem?_cons_succ, List.getElem?_cons_zero]; exact rfl
                case hQq4x19 => exact fun _ _ _ h => h
                case hwq4x19 => rfl
                case hyq4x19 => ((intro w hSw; (try dsimp only at hSw); go_simp) <;> with_reducible rfl)
                try simp only [Act.put, List.setIfInBounds_toArray, List.set_cons_zero, List.set_cons_succ]
                refine wpAnyH_take (i := 19) (oi := ?oiq4x20) (v := ?vq4x20) ?hiq4x20 (by kernel_rfl) (by kernel_rfl) (by kernel_rfl) ?hQq4x20 (Or.inl ⟨?hwq4x20, ?hyq4x20⟩) (by assumption) ?restq4x20
                case hiq4x20 => simp only [List.getElem?_toArray, List.getElem?_cons_succ, List.getElem?_cons_zero]; exact rfl
                case hQq4x20 => exact fun _ _ _ h => h
                case hwq4x20 => rfl
                case hyq4x20 => ((intro w hSw; (try dsimp only at hSw); go_simp) <;> with_reducible rfl)
                try simp only [Act.put, List.setIfInBounds_toArray, List.set_cons_zero, List.set_cons_succ]
                refine wpAnyH_take (i := 21) (oi := ?oiq4x21) (v := ?vq4x21) ?hiq4x21 (by kernel_rfl) (by kernel_rfl) (by kernel_rfl) ?hQq4x21 (Or.inl ⟨?hwq4x21, ?hyq4x21⟩) (by assumption) ?restq4x21
                case hiq4x21 => simp only [List.getElem?_toArray, List.getElem?_cons_succ, List.getElem?_cons_zero]; exact rfl
                case hQq4x21 => exact fun _ _ _ h => h
                case hwq4x21 => rfl
                case hyq4x21 => ((intro w hSw; (try dsimp only at hSw); go_simp) <;> with_reducible rfl)
                try simp only [Act.put, List.setIfInBounds_toArray, List.set_cons_zero, List.set_cons_succ]
                refine wpAnyH_take (i := 22) (oi := ?oiq4x22) (v := ?vq4x22) ?hiq4x22 (by kernel_rfl) (by kernel_rfl) (by kernel_rfl) ?hQq4x22 (Or.inl ⟨?hwq4x22, ?hyq4x22⟩) (by assumption) ?restq4x22
                case hiq4x22 => simp only [List.getElem?_toArray, List.getElem?_cons_succ, List.getElem?_cons_zero]; exact rfl
                case hQq4x22 => exact fun _ _ _ h => h
                case hwq4x22 => rfl
                case hyq4x22 => ((intro w hSw; (try dsimp only at hSw); go_simp) <;> with_reducible rfl)
                try simp only [Act.put, List.setIfInBounds_toArray, List.set_cons_zero, List.set_cons_succ]
                refine wpAnyH_take (i := 23) (oi := ?oiq4x23) (v := ?vq4x23) ?hiq4x23 (by kernel_rfl) (by kernel_rfl) (by kernel_rfl) ?hQq4x23 (Or.inl ⟨?hwq4x23, ?hyq4x23⟩) (by assumption) ?restq4x23
                case hiq4x23 => simp only [List.getElem?_toArray, List.getElem?_cons_succ, List.getElem?_cons_zero]; exact rfl
                case hQq4x23 => exact fun _ _ _ h => h
                case hwq4x23 => rfl
                case hyq4x23 => ((intro w hSw; (try dsimp only at hSw); go_simp) <;> with_reducible rfl)
                try simp only [Act.put, List.setIfInBounds_toArray, List.set_cons_zero, List.set_cons_succ]
                refine wpAnyH_take (i := 24) (oi := ?oiq4x24) (v := ?vq4x24) ?hiq4x24 (by kernel_rfl) (by kernel_rfl) (by kernel_rfl) ?hQq4x24 (Or.inl ⟨?hwq4x24, ?hyq4x24⟩) (by assumption) ?restq4x24
                case hiq4x24 => simp only [List.getElem?_toArray, List.getElem?_cons_succ, List.getElem?_cons_zero]; exact rfl
                case hQq4x24 => exact fun _ _ _ h => h
                case hwq4x24 => rfl
                case hyq4x24 => ((intro w hSw; (try dsimp only at hSw); go_simp) <;> with_reducible rfl)
                try simp only [Act.put, List.setIfInBounds_toArray, List.set_cons_zero, List.set_cons_succ]
                refine wpAnyH_take (i := 25) (oi := ?oiq4x25) (v := ?vq4x25) ?hiq4x25 (by kernel_rfl) (by kernel_rfl) (by kernel_rfl) ?hQq4x25 (Or.inl ⟨?hwq4x25, ?hyq4x25⟩) (by assumption) ?restq4x25
                case hiq4x25 => simp only [List.getElem?_toArray, List.getElem?_cons_succ, List.getElem?_cons_zero]; exact rfl
                case hQq4x25 => exact fun _ _ _ h => h
                case hwq4x25 => rfl
                case hyq4x25 => ((intro w hSw; (try dsimp only at hSw); go_simp) <;> with_reducible rfl)
                try simp only [Act.put, List.setIfInBounds_toArray, List.set_cons_zero, List.set_cons_succ]
                refine wpAnyH_take (i := 26) (oi := ?oiq4x26) (v := ?vq4x26) ?hiq4x26 (by kernel_rfl) (by kernel_rfl) (by kernel_rfl) ?hQq4x26 (Or.inl ⟨?hwq4x26, ?hyq4x26⟩) (by assumption) ?restq4x26
                case hiq4x26 => simp only [List.getElem?_toArray, List.getElem?_cons_succ, List.getElem?_cons_zero]; exact rfl
                case hQq4x26 => exact fun _ _ _ h => h
                case hwq4x26 => rfl
                case hyq4x26 => ((intro w hSw; (try dsimp only at hSw); go_simp) <;> with_reducible rfl)
                try simp only [Act.put, List.setIfInBounds_toArray, List.set_cons_zero, List.set_cons_succ]
                refine wpAnyH_ready (rs := [20]) (by kernel_rfl) (by simp) ?_
                refine AllReadyH.cons (o := ?oq4x27) ?hoq4x27 (fun K hK => ?stepq4x27) ?moreq4x27
                case hoq4x27 => simp only [List.getElem?_toArray, List.getElem?_cons_succ, List.getElem?_cons_zero]; exact rfl
                case moreq4x27 => exact AllReadyH.nil
                go_simp
                (go_at_call 73; refine (l12Sum_any _ _ (by rw [ByteArray.size_extract]; unfold maxLen; omega)).mono ?_; rintro e w' ⟨rfl, hb'⟩)
                refine hK.out _ _ ?hSq4x27 (fun hHeld => ?restq4x27)
                case hSq4x27 => (first | exact (Below.refl _ _).drew | exact hHeld | exact hHeld.trans (hb'.mono hHeld.size))
                clear hK K
                try simp only [Act.put, List.setIfInBounds_toArray, List.set_cons_zero, List.set_cons_succ]
                refine wpAnyH_take (i := 27) (oi := ?oiq4x28) (v := ?vq4x28) ?hiq4x28 (by kernel_rfl) (by kernel_rfl) (by kernel_rfl) ?hQq4x28 (Or.inl ⟨?hwq4x28, ?hyq4x28⟩) (by assumption) ?restq4x28
                case hiq4x28 => simp only [List.getElem?_toArray, List.getElem?_cons_succ, List.getElem?_cons_zero]; exact rfl
                case hQq4x28 => exact fun _ _ _ h => h
                case hwq4x28 => rfl
                case hyq4x28 => ((intro w hSw; (try dsimp only at hSw); go_simp) <;> with_reducible rfl)
                try simp only [Act.put, List.setIfInBounds_toArray, List.set_cons_zero, List.set_cons_succ]
                refine wpAnyH_take (i := 28) (oi := ?oiq4x29) (v := ?vq4x29) ?hiq4x29 (by kernel_rfl) (by kernel_rfl) (by kernel_rfl) ?hQq4x29 (Or.inl ⟨?hwq4x29, ?hyq4x29⟩) (by assumption) ?restq4x29
                case hiq4x29 => simp only [List.getElem?_toArray, List.getElem?_cons_succ, List.getElem?_cons_zero]; exact rfl
                case hQq4x29 => exact fun _ _ _ h => h
                case hwq4x29 => rfl
                case hyq4x29 => ((intro w hSw; (try dsimp only at hSw); go_simp) <;> with_reducible rfl)
                try simp only [Act.put, List.setIfInBounds_toArray, List.set_cons_zero, List.set_cons_succ]
                refine wpAnyH_done (by kernel_rfl) ?_ _
                go_wp2_with fail
                refine bodyPost_ret (v := .tuple #[.slice A1 m c1, .int .i64 (a : Int)]) (by simp [results, Try.results37, go_sem]) rfl ⟨.slice A1 m c1, ?_, ?_, ?_⟩
                · rw [HE.out, hst.out]
                · rw [HE.out, hsm.out]; exact own_below hown hHeld
                · exact hb.trans (hHeld.mono hb.size)
    · have HE := Lib.hid (allF_of (s := s) (k := k) (by omega) (by rw [hst.out]; exact nxtF_end hlt))
      go_wp2_with fail
      refine bodyPost_ret (v := .tuple #[.slice A1 m c1, .int .i64 (a : Int)]) (by simp [results, Try.results37, go_sem]) rfl ⟨.slice A1 m c1, ?_, ?_, ?_⟩
      · rw [HE.out, hst.out]
      · rw [HE.out, hsm.out]; exact hown
      · exact hb
end Go.Proofs.Yteikflfchkmbnaa
