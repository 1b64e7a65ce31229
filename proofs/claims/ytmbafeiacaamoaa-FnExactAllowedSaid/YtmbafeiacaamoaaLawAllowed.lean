/-
  The exact law of Allowed.
-/
import Derived.Test.YtmbafeiacaamoaaAlwI
import Derived.Test.YtmbafeiacaamoaaEngT
import Derived.Deep.RegionHeld3
namespace Go.Proofs.Ytmbafeiacaamoaa
open Go.RowKit Wire

set_option maxRecDepth 100000 in
theorem toRisk_alw (ra rs ro rl : Int) (w : World) :
    Calls Try.prog 17 #[.agg #[.int .i64 ra, .int .i64 rs, .int .i64 ro, .int .i64 rl]] w fun x w' => x = .returned (.agg #[.int .i64 ra, .int .i64 rs, .int .i64 ro, .int .i64 rl]) ∧ Below w.heap.size w w' := by
  go_enter Try.func17, Try.ntmps17
  go_wp2
  refine bodyPost_ret (v := .agg #[.int .i64 ra, .int .i64 rs, .int .i64 ro, .int .i64 rl]) (by simp [results, Try.results17, go_sem]) rfl ⟨rfl, ?_⟩
  go_grown
set_option maxRecDepth 100000 in
theorem toCmd_alw (k1 k2 k3 k4 k5 k6 k7 k8 : Int) (w : World) :
    Calls Try.prog 18 #[.agg #[.int .i64 k1, .int .i64 k2, .int .i64 k3, .int .i64 k4, .int .i64 k5, .int .i64 k6, .int .i64 k7, .int .i64 k8]] w fun x w' => x = .returned (.agg #[.int .i64 k1, .int .i64 k2, .int .i64 k3, .int .i64 k4, .int .i64 k5, .int .i64 k6, .int .i64 k7, .int .i64 k8]) ∧ Below w.heap.size w w' := by
  go_enter Try.func18, Try.ntmps18
  go_wp2
  refine bodyPost_ret (v := .agg #[.int .i64 k1, .int .i64 k2, .int .i64 k3, .int .i64 k4, .int .i64 k5, .int .i64 k6, .int .i64 k7, .int .i64 k8]) (by simp [results, Try.results18, go_sem]) rfl ⟨rfl, ?_⟩
  go_grown
set_option linter.unusedSimpArgs false in
set_option maxHeartbeats 3200000 in
set_option maxRecDepth 100000 in
theorem law_Allowed (A : Option Addr) (n c : Nat) (I : Option Addr) (i d : Nat) (bs : List (List Int × List Int)) (is : List Int) (ra rs ro rl k1 k2 k3 k4 k5 k6 k7 k8 has : Int) (w : World) (hl : BksAt maxLen w w.heap.size A bs) (hlen : bs.length = n) (ha : Lst w w.heap.size 1 I i is) (hn : n ≤ maxLen) (hi : i ≤ maxLen) :
    Calls Try.prog 5 #[.agg #[.slice A n c, .slice I i d], .agg #[.int .i64 ra, .int .i64 rs, .int .i64 ro, .int .i64 rl], .agg #[.int .i64 k1, .int .i64 k2, .int .i64 k3, .int .i64 k4, .int .i64 k5, .int .i64 k6, .int .i64 k7, .int .i64 k8], .int .i64 has] w fun e w' => e = .returned (.bool true) ∧ Below w.heap.size w w' := by
  obtain ⟨u, hu⟩ : ∃ u, alV bs n i is ra rs ro rl k1 k2 k3 k4 k5 k6 k7 k8 has = u := ⟨_, rfl⟩
  have HA := Lib.hid hu
  clear hu
  have hbw : Below w.heap.size w (((w.alloc (.cells #[.slice A n c, .slice I i d] 25)).alloc (.cells #[.int .i64 ra, .int .i64 rs, .int .i64 ro, .int .i64 rl] 38)).alloc (.cells #[.int .i64 k1, .int .i64 k2, .int .i64 k3, .int .i64 k4, .int .i64 k5, .int .i64 k6, .int .i64 k7, .int .i64 k8] 40)) := (((Below.refl _ _).alloc (Nat.le_refl _) _).alloc (by simp) _).alloc (by simp; omega) _
  obtain ⟨t0, t1, t2⟩ := three_blocks w (.cells #[.slice A n c, .slice I i d] 25) (.cells #[.int .i64 ra, .int .i64 rs, .int .i64 ro, .int .i64 rl] 38) (.cells #[.int .i64 k1, .int .i64 k2, .int .i64 k3, .int .i64 k4, .int .i64 k5, .int .i64 k6, .int .i64 k7, .int .i64 k8] 40)
  have hsw : (((w.alloc (.cells #[.slice A n c, .slice I i d] 25)).alloc (.cells #[.int .i64 ra, .int .i64 rs, .int .i64 ro, .int .i64 rl] 38)).alloc (.cells #[.int .i64 k1, .int .i64 k2, .int .i64 k3, .int .i64 k4, .int .i64 k5, .int .i64 k6, .int .i64 k7, .int .i64 k8] 40)).heap.size = w.heap.size + 3 := by simp
  have hlw : BksAt maxLen _ _ A bs ∧ Lst _ _ 1 I i is := ⟨hl.later hbw, ha.later hbw⟩
  clear hl ha
  go_enter Try.func5, Try.ntmps5
  go_wp2_with fail
  generalize (((w.alloc (.cells #[.slice A n c, .slice I i d] 25)).alloc (.cells #[.int .i64 ra, .int .i64 rs, .int .i64 ro, .int .i64 rl] 38)).alloc (.cells #[.int .i64 k1, .int .i64 k2, .int .i64 k3, .int .i64 k4, .int .i64 k5, .int .i64 k6, .int .i64 k7, .int .i64 k8] 40)) = ww at *
  refine (szEngine_any A n c I i d bs _ hlw.1 hlen hn hi).mono ?_
  rintro e w0 ⟨⟨z, rfl, hz⟩, hb0⟩
  have t0 := (hb0.block (w.heap.size) (by omega)).trans t0
  have t1 := (hb0.block (w.heap.size + 1) (by omega)).trans t1
  have t2 := (hb0.block (w.heap.size + 1 + 1) (by omega)).trans t2
  have hs0 : w.heap.size + 3 ≤ w0.heap.size := by have := hb0.size; omega
  have hl0 : BksAt maxLen w0 w0.heap.size A bs ∧ Lst w0 w0.heap.size 1 I i is := ⟨hlw.1.later hb0, hlw.2.later hb0⟩
  have hB0 := hbw.trans (hb0.mono hbw.size)
  clear hb0 hlw hbw hsw
  rcases hz with rfl | ⟨hz0, hn1, hi1, hsm⟩
  · clear t0 t1 t2
    go_wp2_with fail
    go_ret
    exact ⟨rfl, hB0⟩
  have hz1 : decide (z < 0) = false := decide_eq_false (by omega)
  have x0 := cell_of_row w0 (w.heap.size) 0 _ _ (0, 0) t0
  have x1 := cell_of_row w0 (w.heap.size) 1 _ _ (0, 0) t0
  have r0 := cell_of_row w0 (w.heap.size + 1) 0 _ _ (0, 0) t1
  have r1 := cell_of_row w0 (w.heap.size + 1) 1 _ _ (0, 0) t1
  have r2 := cell_of_row w0 (w.heap.size + 1) 2 _ _ (0, 0) t1
  have r3 := cell_of_row w0 (w.heap.size + 1) 3 _ _ (0, 0) t1
  have c0 := cell_of_row w0 (w.heap.size + 1 + 1) 0 _ _ (0, 0) t2
  have c1 := cell_of_row w0 (w.heap.size + 1 + 1) 1 _ _ (0, 0) t2
  have c2 := cell_of_row w0 (w.heap.size + 1 + 1) 2 _ _ (0, 0) t2
  have c3 := cell_of_row w0 (w.heap.size + 1 + 1) 3 _ _ (0, 0) t2
  have c4 := cell_of_row w0 (w.heap.size + 1 + 1) 4 _ _ (0, 0) t2
  have c5 := cell_of_row w0 (w.heap.size + 1 + 1) 5 _ _ (0, 0) t2
  have c6 := cell_of_row w0 (w.heap.size + 1 + 1) 6 _ _ (0, 0) t2
  have c7 := cell_of_row w0 (w.heap.size + 1 + 1) 7 _ _ (0, 0) t2
  simp at x0 x1 r0 r1 r2 r3 c0 c1 c2 c3 c4 c5 c6 c7
  go_wp2_with fail
  go_upto_region 5 with fail
  refine wp_region_held_drew (S := (fun w' => Below w0.heap.size w0 w' ∧ w'.cell? ⟨w.heap.size, 0, none⟩ = some (.slice A n c) ∧ w'.cell? ⟨w.heap.size, 1, none⟩ = some (.slice I i d) ∧ w'.cell? ⟨w.heap.size + 1, 0, none⟩ = some (.int .i64 ra) ∧ w'.cell? ⟨w.heap.size + 1, 1, none⟩ = some (.int .i64 rs) ∧ w'.cell? ⟨w.heap.size + 1, 2, none⟩ = some (.int .i64 ro) ∧ w'.cell? ⟨w.heap.size + 1, 3, none⟩ = some (.int .i64 rl) ∧ w'.cell? ⟨w.heap.size + 1 + 1, 0, none⟩ = some (.int .i64 k1) ∧ w'.cell? ⟨w.heap.size + 1 + 1, 1, none⟩ = some (.int .i64 k2) ∧ w'.cell? ⟨w.heap.size + 1 + 1, 2, none⟩ = some (.int .i64 k3) ∧ w'.cell? ⟨w.heap.size + 1 + 1, 3, none⟩ = some (.int .i64 k4) ∧ w'.cell? ⟨w.heap.size + 1 + 1, 4, none⟩ = some (.int .i64 k5) ∧ w'.cell? ⟨w.heap.size + 1 + 1, 5, none⟩ = some (.int .i64 k6) ∧ w'.cell? ⟨w.heap.size + 1 + 1, 6, none⟩ = some (.int .i64 k7) ∧ w'.cell? ⟨w.heap.size + 1 + 1, 7, none⟩ = some (.int .i64 k8))) (by kernel_rfl) ?hSq1xs (fun hHeld => ?restq1xs)
  case hSq1xs => ((first | assumption | ((((try dsimp only); repeat' apply And.intro) <;> (first | assumption | (refine below_later ?_ (by assumption); first | assumption | (simp only [*]; done) | (go_grown; done)) | (refine cell_later (by assumption) ?_; first | assumption | (simp only [*]; done) | (simp [go_sem]; done)) | (go_grown; done) | (simp [go_sem]; done))))))
  refine wpAnyH_take (i := 0) (oi := ?oiq1x1) (v := ?vq1x1) ?hiq1x1 (by kernel_rfl) (by kernel_rfl) (by kernel_rfl) ?hQq1x1 (Or.inl ⟨?hwq1x1, ?hyq1x1⟩) (by assumption) ?restq1x1
  case hiq1x1 => simp only [List.getElem?_toArray, List.getElem?_cons_succ, List.getElem?_cons_zero]; exact rfl
  case hQq1x1 => exact fun _ _ _ h => h
  case hwq1x1 => rfl
  case hyq1x1 => ((intro w hSw; (try dsimp only at hSw); go_simp) <;> with_reducible rfl)
  try simp only [Act.put, List.setIfInBounds_toArray, List.set_cons_zero, List.set_cons_succ]
  refine wpAnyH_take (i := 2) (oi := ?oiq1x2) (v := ?vq1x2) ?hiq1x2 (by kernel_rfl) (by kernel_rfl) (by kernel_rfl) ?hQq1x2 (Or.inl ⟨?hwq1x2, ?hyq1x2⟩) (by assumption) ?restq1x2
  case hiq1x2 => simp only [List.getElem?_toArray, List.getElem?_cons_succ, List.getElem?_cons_zero]; exact rfl
  case hQq1x2 => exact fun _ _ _ h => h
  case hwq1x2 => rfl
  case hyq1x2 => ((intro w hSw; (try dsimp only at hSw); go_simp) <;> with_reducible rfl)
  try simp only [Act.put, List.setIfInBounds_toArray, List.set_cons_zero, List.set_cons_succ]
  refine wpAnyH_take (i := 4) (oi := ?oiq1x3) (v := ?vq1x3) ?hiq1x3 (by kernel_rfl) (by kernel_rfl) (by kernel_rfl) ?hQq1x3 (Or.inl ⟨?hwq1x3, ?hyq1x3⟩) (by assumption) ?restq1x3
  case hiq1x3 => simp only [List.getElem?_toArray, List.getElem?_cons_succ, List.getElem?_cons_zero]; exact rfl
  case hQq1x3 => exact fun _ _ _ h => h
  case hwq1x3 => rfl
  case hyq1x3 => ((intro w hSw; (try dsimp only at hSw); go_simp) <;> with_reducible rfl)
  try simp only [Act.put, List.setIfInBounds_toArray, List.set_cons_zero, List.set_cons_succ]
  refine wpAnyH_take (i := 6) (oi := ?oiq1x4) (v := ?vq1x4) ?hiq1x4 (by kernel_rfl) (by kernel_rfl) (by kernel_rfl) ?hQq1x4 (Or.inl ⟨?hwq1x4, ?hyq1x4⟩) (by assumption) ?restq1x4
  case hiq1x4 => simp only [List.getElem?_toArray, List.getElem?_cons_succ, List.getElem?_cons_zero]; exact rfl
  case hQq1x4 => exact fun _ _ _ h => h
  case hwq1x4 => rfl
  case hyq1x4 => ((intro w hSw; (try dsimp only at hSw); go_simp) <;> with_reducible rfl)
  try simp only [Act.put, List.setIfInBounds_toArray, List.set_cons_zero, List.set_cons_succ]
  refine wpAnyH_ready (rs := [1]) (by kernel_rfl) (by simp) ?_
  refine AllReadyH.cons (o := ?oq1x5) ?hoq1x5 (fun K hK => ?stepq1x5) ?moreq1x5
  case hoq1x5 => simp only [List.getElem?_toArray, List.getElem?_cons_succ, List.getElem?_cons_zero]; exact rfl
  case moreq1x5 => exact AllReadyH.nil
  go_simp
  (go_at_call 11; refine (toEngine_any A n c I i d bs is _ (hl0.1.later hHeld.1) hlen hsm hn1 (hl0.2.later hHeld.1) hi1).mono ?_; rintro e w5 ⟨g5, f5, rfl, hx5, hb5⟩)
  refine hK.out _ _ ?hSq1x5 (fun hHeld => ?restq1x5)
  case hSq1x5 => ((first | assumption | ((((try dsimp only); repeat' apply And.intro) <;> (first | assumption | (refine below_later ?_ (by assumption); first | assumption | (simp only [*]; done) | (go_grown; done)) | (refine cell_later (by assumption) ?_; first | assumption | (simp only [*]; done) | (simp [go_sem]; done)) | (go_grown; done) | (simp [go_sem]; done))))))
  clear hK K
  try simp only [Act.put, List.setIfInBounds_toArray, List.set_cons_zero, List.set_cons_succ]
  refine wpAnyH_ready (rs := [3]) (by kernel_rfl) (by simp) ?_
  refine AllReadyH.cons (o := ?oq1x6) ?hoq1x6 (fun K hK => ?stepq1x6) ?moreq1x6
  case hoq1x6 => simp only [List.getElem?_toArray, List.getElem?_cons_succ, List.getElem?_cons_zero]; exact rfl
  case moreq1x6 => exact AllReadyH.nil
  go_simp
  (go_at_call 17; refine (toRisk_alw ra rs ro rl _).mono ?_; rintro e w6 ⟨rfl, hb6⟩)
  refine hK.out _ _ ?hSq1x6 (fun hHeld => ?restq1x6)
  case hSq1x6 => ((first | assumption | ((((try dsimp only); repeat' apply And.intro) <;> (first | assumption | (refine below_later ?_ (by assumption); first | assumption | (simp only [*]; done) | (go_grown; done)) | (refine cell_later (by assumption) ?_; first | assumption | (simp only [*]; done) | (simp [go_sem]; done)) | (go_grown; done) | (simp [go_sem]; done))))))
  clear hK K
  try simp only [Act.put, List.setIfInBounds_toArray, List.set_cons_zero, List.set_cons_succ]
  refine wpAnyH_ready (rs := [5]) (by kernel_rfl) (by simp) ?_
  refine AllReadyH.cons (o := ?oq1x7) ?hoq1x7 (fun K hK => ?stepq1x7) ?moreq1x7
  case hoq1x7 => simp only [List.getElem?_toArray, List.getElem?_cons_succ, List.getElem?_cons_zero]; exact rfl
  case moreq1x7 => exact AllReadyH.nil
  go_simp
  (go_at_call 18; refine (toCmd_alw k1 k2 k3 k4 k5 k6 k7 k8 _).mono ?_; rintro e w7 ⟨rfl, hb7⟩)
  refine hK.out _ _ ?hSq1x7 (fun hHeld => ?restq1x7)
  case hSq1x7 => ((first | assumption | ((((try dsimp only); repeat' apply And.intro) <;> (first | assumption | (refine below_later ?_ (by assumption); first | assumption | (simp only [*]; done) | (go_grown; done)) | (refine cell_later (by assumption) ?_; first | assumption | (simp only [*]; done) | (simp [go_sem]; done)) | (go_grown; done) | (simp [go_sem]; done))))))
  clear hK K
  try simp only [Act.put, List.setIfInBounds_toArray, List.set_cons_zero, List.set_cons_succ]
  refine wpAnyH_ready (rs := [7]) (by kernel_rfl) (by simp) ?_
  refine AllReadyH.cons (o := ?oq1x8) ?hoq1x8 (fun K hK => ?stepq1x8) ?moreq1x8
  case hoq1x8 => simp only [List.getElem?_toArray, List.getElem?_cons_succ, List.getElem?_cons_zero]; exact rfl
  case moreq1x8 => exact AllReadyH.nil
  go_simp
  (go_at_call 16; refine (spec_Allowed _ n n _ i i bs is ra rs ro rl k1 k2 k3 k4 k5 k6 k7 k8 has _ ((hx5.later hb6).later hb7) hn1 hi1).mono ?_; rw [HA.out]; rintro e w8 ⟨rfl, hb8⟩)
  refine hK.out _ _ ?hSq1x8 (fun hHeld => ?restq1x8)
  case hSq1x8 => ((first | assumption | ((((try dsimp only); repeat' apply And.intro) <;> (first | assumption | (refine below_later ?_ (by assumption); first | assumption | (simp only [*]; done) | (go_grown; done)) | (refine cell_later (by assumption) ?_; first | assumption | (simp only [*]; done) | (simp [go_sem]; done)) | (go_grown; done) | (simp [go_sem]; done))))))
  clear hK K
  try simp only [Act.put, List.setIfInBounds_toArray, List.set_cons_zero, List.set_cons_succ]
  refine wpAnyH_take (i := 8) (oi := ?oiq1x9) (v := ?vq1x9) ?hiq1x9 (by kernel_rfl) (by kernel_rfl) (by kernel_rfl) ?hQq1x9 (Or.inl ⟨?hwq1x9, ?hyq1x9⟩) (by assumption) ?restq1x9
  case hiq1x9 => simp only [List.getElem?_toArray, List.getElem?_cons_succ, List.getElem?_cons_zero]; exact rfl
  case hQq1x9 => exact fun _ _ _ h => h
  case hwq1x9 => rfl
  case hyq1x9 => ((intro w hSw; (try dsimp only at hSw); go_simp) <;> with_reducible rfl)
  try simp only [Act.put, List.setIfInBounds_toArray, List.set_cons_zero, List.set_cons_succ]
  refine wpAnyH_done (by kernel_rfl) ?_ _
  have hb8 := hHeld.1
  have t0 := (hb8.block (w.heap.size) (by omega)).trans t0
  have t1 := (hb8.block (w.heap.size + 1) (by omega)).trans t1
  have t2 := (hb8.block (w.heap.size + 1 + 1) (by omega)).trans t2
  have hs8 : w.heap.size + 3 ≤ w8.heap.size := by have := hb8.size; omega
  have hl8 : BksAt maxLen w8 w8.heap.size A bs ∧ Lst w8 w8.heap.size 1 I i is := ⟨hl0.1.later hb8, hl0.2.later hb8⟩
  have hB8 := hB0.trans (hb8.mono hB0.size)
  clear x0 x1 r0 r1 r2 r3 c0 c1 c2 c3 c4 c5 c6 c7 hHeld hb8 hl0 hB0 hx5 hb5 hb6 hb7 hs0
  have x0 := cell_of_row w8 (w.heap.size) 0 _ _ (0, 0) t0
  have x1 := cell_of_row w8 (w.heap.size) 1 _ _ (0, 0) t0
  simp at x0 x1
  go_wp2_with fail
  refine (toEngine_any A n c I i d bs is _ hl8.1 hlen hsm hn1 hl8.2 hi1).mono ?_
  rintro e w9 ⟨g9, f9, rfl, hx9, hb9⟩
  have t0 := (hb9.block (w.heap.size) (by omega)).trans t0
  have t1 := (hb9.block (w.heap.size + 1) (by omega)).trans t1
  have t2 := (hb9.block (w.heap.size + 1 + 1) (by omega)).trans t2
  have hs9 : w.heap.size + 3 ≤ w9.heap.size := by have := hb9.size; omega
  have hl9 : BksAt maxLen w9 w9.heap.size A bs ∧ Lst w9 w9.heap.size 1 I i is := ⟨hl8.1.later hb9, hl8.2.later hb9⟩
  have hB9 := hB8.trans (hb9.mono hB8.size)
  clear x0 x1 hl8 hB8 hb9 hs8
  have kx := heap_alloc_new w9 (.cells #[.slice (some ⟨g9, 0, none⟩) n n, .slice (some ⟨f9, 0, none⟩) i i] 31)
  have hba : Below w9.heap.size w9 (w9.alloc (.cells #[.slice (some ⟨g9, 0, none⟩) n n, .slice (some ⟨f9, 0, none⟩) i i] 31)) := (Below.refl _ _).alloc (Nat.le_refl _) _
  have hsz : w9.heap.size < (w9.alloc (.cells #[.slice (some ⟨g9, 0, none⟩) n n, .slice (some ⟨f9, 0, none⟩) i i] 31)).heap.size := by simp
  go_wp2_with fail
  generalize (w9.alloc (.cells #[.slice (some ⟨g9, 0, none⟩) n n, .slice (some ⟨f9, 0, none⟩) i i] 31)) = wz at *
  have t0 := (hba.block (w.heap.size) (by omega)).trans t0
  have t1 := (hba.block (w.heap.size + 1) (by omega)).trans t1
  have t2 := (hba.block (w.heap.size + 1 + 1) (by omega)).trans t2
  have hsz3 : w.heap.size + 3 ≤ wz.heap.size := by omega
  have hxz := hx9.later hba
  have hlz : BksAt maxLen wz wz.heap.size A bs ∧ Lst wz wz.heap.size 1 I i is := ⟨hl9.1.later hba, hl9.2.later hba⟩
  have hBz := hB9.trans (hba.mono hB9.size)
  clear hx9 hl9 hB9 hba hs9
  generalize w9.heap.size = GX at *
  have y0 := cell_of_row wz (GX) 0 _ _ (0, 0) kx
  have y1 := cell_of_row wz (GX) 1 _ _ (0, 0) kx
  have r0 := cell_of_row wz (w.heap.size + 1) 0 _ _ (0, 0) t1
  have r1 := cell_of_row wz (w.heap.size + 1) 1 _ _ (0, 0) t1
  have r2 := cell_of_row wz (w.heap.size + 1) 2 _ _ (0, 0) t1
  have r3 := cell_of_row wz (w.heap.size + 1) 3 _ _ (0, 0) t1
  have c0 := cell_of_row wz (w.heap.size + 1 + 1) 0 _ _ (0, 0) t2
  have c1 := cell_of_row wz (w.heap.size + 1 + 1) 1 _ _ (0, 0) t2
  have c2 := cell_of_row wz (w.heap.size + 1 + 1) 2 _ _ (0, 0) t2
  have c3 := cell_of_row wz (w.heap.size + 1 + 1) 3 _ _ (0, 0) t2
  have c4 := cell_of_row wz (w.heap.size + 1 + 1) 4 _ _ (0, 0) t2
  have c5 := cell_of_row wz (w.heap.size + 1 + 1) 5 _ _ (0, 0) t2
  have c6 := cell_of_row wz (w.heap.size + 1 + 1) 6 _ _ (0, 0) t2
  have c7 := cell_of_row wz (w.heap.size + 1 + 1) 7 _ _ (0, 0) t2
  simp at y0 y1 r0 r1 r2 r3 c0 c1 c2 c3 c4 c5 c6 c7
  go_upto_region 7 with fail
  refine wp_region_held_drew (S := (fun w' => Below wz.heap.size wz w' ∧ w'.cell? ⟨GX, 0, none⟩ = some (.slice (some ⟨g9, 0, none⟩) n n) ∧ w'.cell? ⟨GX, 1, none⟩ = some (.slice (some ⟨f9, 0, none⟩) i i) ∧ w'.cell? ⟨w.heap.size + 1, 0, none⟩ = some (.int .i64 ra) ∧ w'.cell? ⟨w.heap.size + 1, 1, none⟩ = some (.int .i64 rs) ∧ w'.cell? ⟨w.heap.size + 1, 2, none⟩ = some (.int .i64 ro) ∧ w'.cell? ⟨w.heap.size + 1, 3, none⟩ = some (.int .i64 rl) ∧ w'.cell? ⟨w.heap.size + 1 + 1, 0, none⟩ = some (.int .i64 k1) ∧ w'.cell? ⟨w.heap.size + 1 + 1, 1, none⟩ = some (.int .i64 k2) ∧ w'.cell? ⟨w.heap.size + 1 + 1, 2, none⟩ = some (.int .i64 k3) ∧ w'.cell? ⟨w.heap.size + 1 + 1, 3, none⟩ = some (.int .i64 k4) ∧ w'.cell? ⟨w.heap.size + 1 + 1, 4, none⟩ = some (.int .i64 k5) ∧ w'.cell? ⟨w.heap.size + 1 + 1, 5, none⟩ = some (.int .i64 k6) ∧ w'.cell? ⟨w.heap.size + 1 + 1, 6, none⟩ = some (.int .i64 k7) ∧ w'.cell? ⟨w.heap.size + 1 + 1, 7, none⟩ = some (.int .i64 k8))) (by kernel_rfl) ?hSq2xs (fun hHeld => ?restq2xs)
  case hSq2xs => ((first | assumption | ((((try dsimp only); repeat' apply And.intro) <;> (first | assumption | (refine below_later ?_ (by assumption); first | assumption | (simp only [*]; done) | (go_grown; done)) | (refine cell_later (by assumption) ?_; first | assumption | (simp only [*]; done) | (simp [go_sem]; done)) | (go_grown; done) | (simp [go_sem]; done))))))
  refine wpAnyH_take (i := 0) (oi := ?oiq2x1) (v := ?vq2x1) ?hiq2x1 (by kernel_rfl) (by kernel_rfl) (by kernel_rfl) ?hQq2x1 (Or.inl ⟨?hwq2x1, ?hyq2x1⟩) (by assumption) ?restq2x1
  case hiq2x1 => simp only [List.getElem?_toArray, List.getElem?_cons_succ, List.getElem?_cons_zero]; exact rfl
  case hQq2x1 => exact fun _ _ _ h => h
  case hwq2x1 => rfl
  case hyq2x1 => ((intro w hSw; (try dsimp only at hSw); go_simp) <;> with_reducible rfl)
  try simp only [Act.put, List.setIfInBounds_toArray, List.set_cons_zero, List.set_cons_succ]
  refine wpAnyH_take (i := 1) (oi := ?oiq2x2) (v := ?vq2x2) ?hiq2x2 (by kernel_rfl) (by kernel_rfl) (by kernel_rfl) ?hQq2x2 (Or.inl ⟨?hwq2x2, ?hyq2x2⟩) (by assumption) ?restq2x2
  case hiq2x2 => simp only [List.getElem?_toArray, List.getElem?_cons_succ, List.getElem?_cons_zero]; exact rfl
  case hQq2x2 => exact fun _ _ _ h => h
  case hwq2x2 => rfl
  case hyq2x2 => ((intro w hSw; (try dsimp only at hSw); go_simp) <;> with_reducible rfl)
  try simp only [Act.put, List.setIfInBounds_toArray, List.set_cons_zero, List.set_cons_succ]
  refine wpAnyH_take (i := 3) (oi := ?oiq2x3) (v := ?vq2x3) ?hiq2x3 (by kernel_rfl) (by kernel_rfl) (by kernel_rfl) ?hQq2x3 (Or.inl ⟨?hwq2x3, ?hyq2x3⟩) (by assumption) ?restq2x3
  case hiq2x3 => simp only [List.getElem?_toArray, List.getElem?_cons_succ, List.getElem?_cons_zero]; exact rfl
  case hQq2x3 => exact fun _ _ _ h => h
  case hwq2x3 => rfl
  case hyq2x3 => ((intro w hSw; (try dsimp only at hSw); go_simp) <;> with_reducible rfl)
  try simp only [Act.put, List.setIfInBounds_toArray, List.set_cons_zero, List.set_cons_succ]
  refine wpAnyH_take (i := 5) (oi := ?oiq2x4) (v := ?vq2x4) ?hiq2x4 (by kernel_rfl) (by kernel_rfl) (by kernel_rfl) ?hQq2x4 (Or.inl ⟨?hwq2x4, ?hyq2x4⟩) (by assumption) ?restq2x4
  case hiq2x4 => simp only [List.getElem?_toArray, List.getElem?_cons_succ, List.getElem?_cons_zero]; exact rfl
  case hQq2x4 => exact fun _ _ _ h => h
  case hwq2x4 => rfl
  case hyq2x4 => ((intro w hSw; (try dsimp only at hSw); go_simp) <;> with_reducible rfl)
  try simp only [Act.put, List.setIfInBounds_toArray, List.set_cons_zero, List.set_cons_succ]
  refine wpAnyH_ready (rs := [2]) (by kernel_rfl) (by simp) ?_
  refine AllReadyH.cons (o := ?oq2x5) ?hoq2x5 (fun K hK => ?stepq2x5) ?moreq2x5
  case hoq2x5 => simp only [List.getElem?_toArray, List.getElem?_cons_succ, List.getElem?_cons_zero]; exact rfl
  case moreq2x5 => exact AllReadyH.nil
  go_simp
  (go_at_call 17; refine (toRisk_alw ra rs ro rl _).mono ?_; rintro e w6 ⟨rfl, hb6⟩)
  refine hK.out _ _ ?hSq2x5 (fun hHeld => ?restq2x5)
  case hSq2x5 => ((first | assumption | ((((try dsimp only); repeat' apply And.intro) <;> (first | assumption | (refine below_later ?_ (by assumption); first | assumption | (simp only [*]; done) | (go_grown; done)) | (refine cell_later (by assumption) ?_; first | assumption | (simp only [*]; done) | (simp [go_sem]; done)) | (go_grown; done) | (simp [go_sem]; done))))))
  clear hK K
  try simp only [Act.put, List.setIfInBounds_toArray, List.set_cons_zero, List.set_cons_succ]
  refine wpAnyH_ready (rs := [4]) (by kernel_rfl) (by simp) ?_
  refine AllReadyH.cons (o := ?oq2x6) ?hoq2x6 (fun K hK => ?stepq2x6) ?moreq2x6
  case hoq2x6 => simp only [List.getElem?_toArray, List.getElem?_cons_succ, List.getElem?_cons_zero]; exact rfl
  case moreq2x6 => exact AllReadyH.nil
  go_simp
  (go_at_call 18; refine (toCmd_alw k1 k2 k3 k4 k5 k6 k7 k8 _).mono ?_; rintro e w7 ⟨rfl, hb7⟩)
  refine hK.out _ _ ?hSq2x6 (fun hHeld => ?restq2x6)
  case hSq2x6 => ((first | assumption | ((((try dsimp only); repeat' apply And.intro) <;> (first | assumption | (refine below_later ?_ (by assumption); first | assumption | (simp only [*]; done) | (go_grown; done)) | (refine cell_later (by assumption) ?_; first | assumption | (simp only [*]; done) | (simp [go_sem]; done)) | (go_grown; done) | (simp [go_sem]; done))))))
  clear hK K
  try simp only [Act.put, List.setIfInBounds_toArray, List.set_cons_zero, List.set_cons_succ]
  refine wpAnyH_ready (rs := [6]) (by kernel_rfl) (by simp) ?_
  refine AllReadyH.cons (o := ?oq2x7) ?hoq2x7 (fun K hK => ?stepq2x7) ?moreq2x7
  case hoq2x7 => simp only [List.getElem?_toArray, List.getElem?_cons_succ, List.getElem?_cons_zero]; exact rfl
  case moreq2x7 => exact AllReadyH.nil
  go_simp
  (go_at_call 19; refine (impl_Allowed _ n n _ i i bs is ra rs ro rl k1 k2 k3 k4 k5 k6 k7 k8 has _ (hxz.later hHeld.1) hn1 hi1).mono ?_; rw [HA.out]; rintro e wy ⟨rfl, hby⟩)
  refine hK.out _ _ ?hSq2x7 (fun hHeld => ?restq2x7)
  case hSq2x7 => ((first | assumption | ((((try dsimp only); repeat' apply And.intro) <;> (first | assumption | (refine below_later ?_ (by assumption); first | assumption | (simp only [*]; done) | (go_grown; done)) | (refine cell_later (by assumption) ?_; first | assumption | (simp only [*]; done) | (simp [go_sem]; done)) | (go_grown; done) | (simp [go_sem]; done))))))
  clear hK K
  try simp only [Act.put, List.setIfInBounds_toArray, List.set_cons_zero, List.set_cons_succ]
  refine wpAnyH_take (i := 7) (oi := ?oiq2x8) (v := ?vq2x8) ?hiq2x8 (by kernel_rfl) (by kernel_rfl) (by kernel_rfl) ?hQq2x8 (Or.inl ⟨?hwq2x8, ?hyq2x8⟩) (by assumption) ?restq2x8
  case hiq2x8 => simp only [List.getElem?_toArray, List.getElem?_cons_succ, List.getElem?_cons_zero]; exact rfl
  case hQq2x8 => exact fun _ _ _ h => h
  case hwq2x8 => rfl
  case hyq2x8 => ((intro w hSw; (try dsimp only at hSw); go_simp) <;> with_reducible rfl)
  try simp only [Act.put, List.setIfInBounds_toArray, List.set_cons_zero, List.set_cons_succ]
  refine wpAnyH_done (by kernel_rfl) ?_ _
  have hby := hHeld.1
  have t0 := (hby.block (w.heap.size) (by omega)).trans t0
  have kx := (hby.block GX hsz).trans kx
  have hxy := hxz.later hby
  have hly : BksAt maxLen wy wy.heap.size A bs ∧ Lst wy wy.heap.size 1 I i is := ⟨hlz.1.later hby, hlz.2.later hby⟩
  have hBy := hBz.trans (hby.mono hBz.size)
  clear y0 y1 r0 r1 r2 r3 c0 c1 c2 c3 c4 c5 c6 c7 hHeld hby hxz hlz hBz hb6 hb7 t1 t2 hsz3 hsz
  have x0 := cell_of_row wy (w.heap.size) 0 _ _ (0, 0) t0
  have x1 := cell_of_row wy (w.heap.size) 1 _ _ (0, 0) t0
  have y0 := cell_of_row wy (GX) 0 _ _ (0, 0) kx
  have y1 := cell_of_row wy (GX) 1 _ _ (0, 0) kx
  simp at x0 x1 y0 y1
  clear t0 kx
  go_upto_region 10 with fail
  refine wp_region_held_drew (S := (fun w' => Below wy.heap.size wy w' ∧ w'.cell? ⟨w.heap.size, 0, none⟩ = some (.slice A n c) ∧ w'.cell? ⟨w.heap.size, 1, none⟩ = some (.slice I i d) ∧ w'.cell? ⟨GX, 0, none⟩ = some (.slice (some ⟨g9, 0, none⟩) n n) ∧ w'.cell? ⟨GX, 1, none⟩ = some (.slice (some ⟨f9, 0, none⟩) i i))) (by kernel_rfl) ?hSq3xs (fun hHeld => ?restq3xs)
  case hSq3xs => ((first | assumption | ((((try dsimp only); repeat' apply And.intro) <;> (first | assumption | (refine below_later ?_ (by assumption); first | assumption | (simp only [*]; done) | (go_grown; done)) | (refine cell_later (by assumption) ?_; first | assumption | (simp only [*]; done) | (simp [go_sem]; done)) | (go_grown; done) | (simp [go_sem]; done))))))
  refine wpAnyH_take (i := 0) (oi := ?oiq3x1) (v := ?vq3x1) ?hiq3x1 (by kernel_rfl) (by kernel_rfl) (by kernel_rfl) ?hQq3x1 (Or.inl ⟨?hwq3x1, ?hyq3x1⟩) (by assumption) ?restq3x1
  case hiq3x1 => simp only [List.getElem?_toArray, List.getElem?_cons_succ, List.getElem?_cons_zero]; exact rfl
  case hQq3x1 => exact fun _ _ _ h => h
  case hwq3x1 => rfl
  case hyq3x1 => ((intro w hSw; (try dsimp only at hSw); go_simp) <;> with_reducible rfl)
  try simp only [Act.put, List.setIfInBounds_toArray, List.set_cons_zero, List.set_cons_succ]
  refine wpAnyH_take (i := 1) (oi := ?oiq3x2) (v := ?vq3x2) ?hiq3x2 (by kernel_rfl) (by kernel_rfl) (by kernel_rfl) ?hQq3x2 (Or.inl ⟨?hwq3x2, ?hyq3x2⟩) (by assumption) ?restq3x2
  case hiq3x2 => simp only [List.getElem?_toArray, List.getElem?_cons_succ, List.getElem?_cons_zero]; exact rfl
  case hQq3x2 => exact fun _ _ _ h => h
  case hwq3x2 => rfl
  case hyq3x2 => ((intro w hSw; (try dsimp only at hSw); go_simp) <;> with_reducible rfl)
  try simp only [Act.put, List.setIfInBounds_toArray, List.set_cons_zero, List.set_cons_succ]
  refine wpAnyH_ready (rs := [2]) (by kernel_rfl) (by simp) ?_
  refine AllReadyH.cons (o := ?oq3x3) ?hoq3x3 (fun K hK => ?stepq3x3) ?moreq3x3
  case hoq3x3 => simp only [List.getElem?_toArray, List.getElem?_cons_succ, List.getElem?_cons_zero]; exact rfl
  case moreq3x3 => exact AllReadyH.nil
  go_simp
  (go_at_call 11; refine (toEngine_any A n c I i d bs is _ (hly.1.later hHeld.1) hlen hsm hn1 (hly.2.later hHeld.1) hi1).mono ?_; rintro e wq ⟨gq, fq, rfl, hxq, hbq⟩)
  refine hK.out _ _ ?hSq3x3 (fun hHeld => ?restq3x3)
  case hSq3x3 => ((first | assumption | ((((try dsimp only); repeat' apply And.intro) <;> (first | assumption | (refine below_later ?_ (by assumption); first | assumption | (simp only [*]; done) | (go_grown; done)) | (refine cell_later (by assumption) ?_; first | assumption | (simp only [*]; done) | (simp [go_sem]; done)) | (go_grown; done) | (simp [go_sem]; done))))))
  clear hK K
  try simp only [Act.put, List.setIfInBounds_toArray, List.set_cons_zero, List.set_cons_succ]
  refine wpAnyH_ready (rs := [3]) (by kernel_rfl) (by simp) ?_
  refine AllReadyH.cons (o := ?oq3x4) ?hoq3x4 (fun K hK => ?stepq3x4) ?moreq3x4
  case hoq3x4 => simp only [List.getElem?_toArray, List.getElem?_cons_succ, List.getElem?_cons_zero]; exact rfl
  case moreq3x4 => exact AllReadyH.nil
  go_simp
  (go_at_call 13; refine (eqEngine_same _ _ _ _ n _ i _ _ _ bs is _ ((hxy.later hHeld.1).engIn) (hxq.engIn) hn1 hi1).mono ?_; rintro e wr ⟨rfl, hbr⟩)
  refine hK.out _ _ ?hSq3x4 (fun hHeld => ?restq3x4)
  case hSq3x4 => ((first | assumption | ((((try dsimp only); repeat' apply And.intro) <;> (first | assumption | (refine below_later ?_ (by assumption); first | assumption | (simp only [*]; done) | (go_grown; done)) | (refine cell_later (by assumption) ?_; first | assumption | (simp only [*]; done) | (simp [go_sem]; done)) | (go_grown; done) | (simp [go_sem]; done))))))
  clear hK K
  try simp only [Act.put, List.setIfInBounds_toArray, List.set_cons_zero, List.set_cons_succ]
  refine wpAnyH_take (i := 4) (oi := ?oiq3x5) (v := ?vq3x5) ?hiq3x5 (by kernel_rfl) (by kernel_rfl) (by kernel_rfl) ?hQq3x5 (Or.inl ⟨?hwq3x5, ?hyq3x5⟩) (by assumption) ?restq3x5
  case hiq3x5 => simp only [List.getElem?_toArray, List.getElem?_cons_succ, List.getElem?_cons_zero]; exact rfl
  case hQq3x5 => exact fun _ _ _ h => h
  case hwq3x5 => rfl
  case hyq3x5 => ((intro w hSw; (try dsimp only at hSw); go_simp) <;> with_reducible rfl)
  try simp only [Act.put, List.setIfInBounds_toArray, List.set_cons_zero, List.set_cons_succ]
  refine wpAnyH_done (by kernel_rfl) ?_ _
  have hfin := hBy.trans (hHeld.1.mono hBy.size)
  clear hHeld
  go_wp2_with fail
  go_ret
  exact ⟨by first | rfl | simp, hfin⟩
end Go.Proofs.Ytmbafeiacaamoaa
