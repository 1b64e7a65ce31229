/-
  What is allowed, in the program.
-/
import Derived.Test.YtmbafeiacaamoaaAlwS
import Derived.Test.YtmbafeiacaamoaaKeep
namespace Go.Proofs.Ytmbafeiacaamoaa
open Go.RowKit Wire

theorem impl_isOrder (k1 k2 k3 k4 k5 k6 k7 k8 : Int) (w : World) :
    Calls Try.prog 46 #[.agg #[.int .i64 k1, .int .i64 k2, .int .i64 k3, .int .i64 k4, .int .i64 k5, .int .i64 k6, .int .i64 k7, .int .i64 k8]] w fun e w' => e = .returned (.bool (decide (k1 ≤ 5))) ∧ Below w.heap.size w w' := by
  go_enter Try.func46, Try.ntmps46
  go_wp2_with fail
  go_ret
  exact ⟨rfl, (Below.refl _ _).alloc (Nat.le_refl _) _⟩
def wthQ (q : Int × Int) (side qty : Int) : Int × Int := if side = 1 then (q.1 + qty, q.2) else (q.1, q.2 + qty)
set_option maxHeartbeats 800000 in
set_option maxRecDepth 100000 in
theorem impl_with (has u1 u2 side qty : Int) (w : World) (a : 0 ≤ u1 ∧ u1 ≤ 20000000) (b : 0 ≤ u2 ∧ u2 ≤ 20000000) (q : 1 ≤ qty ∧ qty ≤ 1000000) :
    Calls Try.prog 50 #[.agg #[.int .i64 has, .int .i64 u1, .int .i64 u2], .int .i64 side, .int .i64 qty] w fun e w' => e = .returned (.agg #[.int .i64 has, .int .i64 (wthQ (u1, u2) side qty).1, .int .i64 (wthQ (u1, u2) side qty).2]) ∧ Below w.heap.size w w' := by
  by_cases h : side = 1
  · have H : Hid (wthQ (u1, u2) side qty = (u1 + qty, u2)) := Lib.hid (by rw [wthQ, if_pos h])
    subst h
    go_enter Try.func50, Try.ntmps50
    go_wp2_with fail
    refine bodyPost_ret (v := .agg #[.int .i64 has, .int .i64 (u1 + qty), .int .i64 u2]) (by simp [results, Try.results50, go_sem]) rfl ⟨by rw [H.out], ?_⟩
    go_grown
  · have H : Hid (wthQ (u1, u2) side qty = (u1, u2 + qty)) := Lib.hid (by rw [wthQ, if_neg h])
    have t : (side == 1) = false := beq_eq_false_iff_ne.2 h
    go_enter Try.func50, Try.ntmps50
    go_wp2_with fail
    refine bodyPost_ret (v := .agg #[.int .i64 has, .int .i64 u1, .int .i64 (u2 + qty)]) (by simp [results, Try.results50, go_sem]) rfl ⟨by rw [H.out], ?_⟩
    go_grown
set_option linter.unusedVariables false in
set_option maxRecDepth 100000 in
theorem lim_size (ra rs ro rl k1 k2 k3 k4 k5 k6 k7 k8 has b s : Int) (w : World) (hb : 0 ≤ b ∧ b ≤ 40000000) (hs : 0 ≤ s ∧ s ≤ 40000000) :
    Calls Try.prog 47 #[.agg #[.int .i64 ra, .int .i64 rs, .int .i64 ro, .int .i64 rl], .agg #[.int .i64 k1, .int .i64 k2, .int .i64 k3, .int .i64 k4, .int .i64 k5, .int .i64 k6, .int .i64 k7, .int .i64 k8], .agg #[.int .i64 has, .int .i64 b, .int .i64 s]] w fun e w' => e = .returned (.bool (decide (rs < k7))) ∧ Below w.heap.size w w' := by
  have hb0 : Below w.heap.size w (((w.alloc (.cells #[.int .i64 ra, .int .i64 rs, .int .i64 ro, .int .i64 rl] 42)).alloc (.cells #[.int .i64 k1, .int .i64 k2, .int .i64 k3, .int .i64 k4, .int .i64 k5, .int .i64 k6, .int .i64 k7, .int .i64 k8] 44)).alloc (.cells #[.int .i64 has, .int .i64 b, .int .i64 s] 72)) := (((Below.refl _ _).alloc (Nat.le_refl _) _).alloc (by simp) _).alloc (by simp; omega) _
  go_enter Try.func47, Try.ntmps47
  go_wp2_with fail
  go_ret
  exact ⟨rfl, hb0⟩
set_option linter.unusedVariables false in
set_option maxRecDepth 100000 in
theorem lim_open (ra rs ro rl k1 k2 k3 k4 k5 k6 k7 k8 has b s : Int) (w : World) (hb : 0 ≤ b ∧ b ≤ 40000000) (hs : 0 ≤ s ∧ s ≤ 40000000) :
    Calls Try.prog 48 #[.agg #[.int .i64 ra, .int .i64 rs, .int .i64 ro, .int .i64 rl], .agg #[.int .i64 k1, .int .i64 k2, .int .i64 k3, .int .i64 k4, .int .i64 k5, .int .i64 k6, .int .i64 k7, .int .i64 k8], .agg #[.int .i64 has, .int .i64 b, .int .i64 s]] w fun e w' => e = .returned (.bool (decide (ro < b + s))) ∧ Below w.heap.size w w' := by
  have hb0 : Below w.heap.size w (((w.alloc (.cells #[.int .i64 ra, .int .i64 rs, .int .i64 ro, .int .i64 rl] 42)).alloc (.cells #[.int .i64 k1, .int .i64 k2, .int .i64 k3, .int .i64 k4, .int .i64 k5, .int .i64 k6, .int .i64 k7, .int .i64 k8] 44)).alloc (.cells #[.int .i64 has, .int .i64 b, .int .i64 s] 72)) := (((Below.refl _ _).alloc (Nat.le_refl _) _).alloc (by simp) _).alloc (by simp; omega) _
  go_enter Try.func48, Try.ntmps48
  go_wp2_with fail
  go_ret
  exact ⟨rfl, hb0⟩
set_option linter.unusedSimpArgs false in
set_option maxHeartbeats 1600000 in
set_option maxRecDepth 100000 in
theorem lim_long (ra rs ro rl k1 k2 k3 k4 k5 k6 k7 k8 has b s : Int) (w : World) (hb : 0 ≤ b ∧ b ≤ 40000000) (hs : 0 ≤ s ∧ s ≤ 40000000) (hp : -1000000000 ≤ has ∧ has ≤ 1000000000) (hl : 0 ≤ rl ∧ rl ≤ 1000000000) :
    Calls Try.prog 49 #[.agg #[.int .i64 ra, .int .i64 rs, .int .i64 ro, .int .i64 rl], .agg #[.int .i64 k1, .int .i64 k2, .int .i64 k3, .int .i64 k4, .int .i64 k5, .int .i64 k6, .int .i64 k7, .int .i64 k8], .agg #[.int .i64 has, .int .i64 b, .int .i64 s]] w fun e w' => e = .returned (.bool (decide (rl < has + b) || decide (has - s < -rl))) ∧ Below w.heap.size w w' := by
  have hb0 : Below w.heap.size w (((w.alloc (.cells #[.int .i64 ra, .int .i64 rs, .int .i64 ro, .int .i64 rl] 42)).alloc (.cells #[.int .i64 k1, .int .i64 k2, .int .i64 k3, .int .i64 k4, .int .i64 k5, .int .i64 k6, .int .i64 k7, .int .i64 k8] 44)).alloc (.cells #[.int .i64 has, .int .i64 b, .int .i64 s] 72)) := (((Below.refl _ _).alloc (Nat.le_refl _) _).alloc (by simp) _).alloc (by simp; omega) _
  obtain ⟨t0, t1, t2⟩ := three_blocks w (.cells #[.int .i64 ra, .int .i64 rs, .int .i64 ro, .int .i64 rl] 42) (.cells #[.int .i64 k1, .int .i64 k2, .int .i64 k3, .int .i64 k4, .int .i64 k5, .int .i64 k6, .int .i64 k7, .int .i64 k8] 44) (.cells #[.int .i64 has, .int .i64 b, .int .i64 s] 72)
  go_enter Try.func49, Try.ntmps49
  go_wp2_with fail
  generalize (((w.alloc (.cells #[.int .i64 ra, .int .i64 rs, .int .i64 ro, .int .i64 rl] 42)).alloc (.cells #[.int .i64 k1, .int .i64 k2, .int .i64 k3, .int .i64 k4, .int .i64 k5, .int .i64 k6, .int .i64 k7, .int .i64 k8] 44)).alloc (.cells #[.int .i64 has, .int .i64 b, .int .i64 s] 72)) = w0 at *
  have r0 := cell_of_row w0 (w.heap.size) 0 _ _ (0, 0) t0
  have r1 := cell_of_row w0 (w.heap.size) 1 _ _ (0, 0) t0
  have r2 := cell_of_row w0 (w.heap.size) 2 _ _ (0, 0) t0
  have r3 := cell_of_row w0 (w.heap.size) 3 _ _ (0, 0) t0
  have p0 := cell_of_row w0 (w.heap.size + 1 + 1) 0 _ _ (0, 0) t2
  have p1 := cell_of_row w0 (w.heap.size + 1 + 1) 1 _ _ (0, 0) t2
  have p2 := cell_of_row w0 (w.heap.size + 1 + 1) 2 _ _ (0, 0) t2
  simp at r0 r1 r2 r3 p0 p1 p2
  by_cases h1 : rl < has + b
  · have H : Hid ((decide (rl < has + b) || decide (has - s < -rl)) = true) := Lib.hid (by simp [h1])
    go_upto_region 1 with fail
    refine wp_region_held_drew (S := (fun w' => Below w0.heap.size w0 w' ∧ w'.cell? ⟨w.heap.size, 3, none⟩ = some (.int .i64 rl) ∧ w'.cell? ⟨w.heap.size + 1 + 1, 0, none⟩ = some (.int .i64 has) ∧ w'.cell? ⟨w.heap.size + 1 + 1, 1, none⟩ = some (.int .i64 b) ∧ w'.cell? ⟨w.heap.size + 1 + 1, 2, none⟩ = some (.int .i64 s))) (by kernel_rfl) ?hSq2xs (fun hHeld => ?restq2xs)
    case hSq2xs => ((first | assumption | ((((try dsimp only); repeat' apply And.intro) <;> (first | assumption | (refine below_later ?_ (by assumption); first | assumption | (simp only [*]; done) | (go_grown; done)) | (refine cell_later (by assumption) ?_; first | assumption | (simp only [*]; done) | (simp [go_sem]; done)) | (go_grown; done) | (simp [go_sem]; done))))))
    refine wpAnyH_take (i := 0) (oi := ?oiq2x1) (v := ?vq2x1) ?hiq2x1 (by kernel_rfl) (by kernel_rfl) (by kernel_rfl) ?hQq2x1 (Or.inl ⟨?hwq2x1, ?hyq2x1⟩) (by assumption) ?restq2x1
    case hiq2x1 => simp only [List.getElem?_toArray, List.getElem?_cons_succ, List.getElem?_cons_zero]; exact rfl
    case hQq2x1 => exact fun _ _ _ h => h
    case hwq2x1 => rfl
    case hyq2x1 => ((intro w hSw; (try dsimp only at hSw); go_simp) <;> with_reducible rfl)
    try simp only [Act.put, List.setIfInBounds_toArray, List.set_cons_zero, List.set_cons_succ]
    refine wpAnyH_take (i := 2) (oi := ?oiq2x2) (v := ?vq2x2) ?hiq2x2 (by kernel_rfl) (by kernel_rfl) (by kernel_rfl) ?hQq2x2 (Or.inl ⟨?hwq2x2, ?hyq2x2⟩) (by assumption) ?restq2x2
    case hiq2x2 => simp only [List.getElem?_toArray, List.getElem?_cons_succ, List.getElem?_cons_zero]; exact rfl
    case hQq2x2 => exact fun _ _ _ h => h
    case hwq2x2 => rfl
    case hyq2x2 => ((intro w hSw; (try dsimp only at hSw); go_simp) <;> with_reducible rfl)
    try simp only [Act.put, List.setIfInBounds_toArray, List.set_cons_zero, List.set_cons_succ]
    refine wpAnyH_take (i := 3) (oi := ?oiq2x3) (v := ?vq2x3) ?hiq2x3 (by kernel_rfl) (by kernel_rfl) (by kernel_rfl) ?hQq2x3 (Or.inl ⟨?hwq2x3, ?hyq2x3⟩) (by assumption) ?restq2x3
    case hiq2x3 => simp only [List.getElem?_toArray, List.getElem?_cons_succ, List.getElem?_cons_zero]; exact rfl
    case hQq2x3 => exact fun _ _ _ h => h
    case hwq2x3 => rfl
    case hyq2x3 => ((intro w hSw; (try dsimp only at hSw); go_simp) <;> with_reducible rfl)
    try simp only [Act.put, List.setIfInBounds_toArray, List.set_cons_zero, List.set_cons_succ]
    refine wpAnyH_ready (rs := [1]) (by kernel_rfl) (by simp) ?_
    refine AllReadyH.cons (o := ?oq2x4) ?hoq2x4 (fun K hK => ?stepq2x4) ?moreq2x4
    case hoq2x4 => simp only [List.getElem?_toArray, List.getElem?_cons_succ, List.getElem?_cons_zero]; exact rfl
    case moreq2x4 => exact AllReadyH.nil
    go_simp
    (go_at_call 40; refine (pr_greatest has b s _ hp.1 hp.2 hb hs).mono ?_; rintro e w6 ⟨rfl, hb6⟩)
    refine hK.out _ _ ?hSq2x4 (fun hHeld => ?restq2x4)
    case hSq2x4 => ((first | assumption | ((((try dsimp only); repeat' apply And.intro) <;> (first | assumption | (refine below_later ?_ (by assumption); first | assumption | (simp only [*]; done) | (go_grown; done)) | (refine cell_later (by assumption) ?_; first | assumption | (simp only [*]; done) | (simp [go_sem]; done)) | (go_grown; done) | (simp [go_sem]; done))))))
    clear hK K
    try simp only [Act.put, List.setIfInBounds_toArray, List.set_cons_zero, List.set_cons_succ]
    refine wpAnyH_take (i := 4) (oi := ?oiq2x5) (v := ?vq2x5) ?hiq2x5 (by kernel_rfl) (by kernel_rfl) (by kernel_rfl) ?hQq2x5 (Or.inl ⟨?hwq2x5, ?hyq2x5⟩) (by assumption) ?restq2x5
    case hiq2x5 => simp only [List.getElem?_toArray, List.getElem?_cons_succ, List.getElem?_cons_zero]; exact rfl
    case hQq2x5 => exact fun _ _ _ h => h
    case hwq2x5 => rfl
    case hyq2x5 => ((intro w hSw; (try dsimp only at hSw); go_simp) <;> with_reducible rfl)
    try simp only [Act.put, List.setIfInBounds_toArray, List.set_cons_zero, List.set_cons_succ]
    refine wpAnyH_take (i := 5) (oi := ?oiq2x6) (v := ?vq2x6) ?hiq2x6 (by kernel_rfl) (by kernel_rfl) (by kernel_rfl) ?hQq2x6 (Or.inl ⟨?hwq2x6, ?hyq2x6⟩) (by assumption) ?restq2x6
    case hiq2x6 => simp only [List.getElem?_toArray, List.getElem?_cons_succ, List.getElem?_cons_zero]; exact rfl
    case hQq2x6 => exact fun _ _ _ h => h
    case hwq2x6 => rfl
    case hyq2x6 => ((intro w hSw; (try dsimp only at hSw); go_simp) <;> with_reducible rfl)
    try simp only [Act.put, List.setIfInBounds_toArray, List.set_cons_zero, List.set_cons_succ]
    refine wpAnyH_take (i := 6) (oi := ?oiq2x7) (v := _) ?hiq2x7 (by kernel_rfl) (by kernel_rfl) (by kernel_rfl) ?hQq2x7 (Or.inr ⟨?hwq2x7, rfl⟩) (by assumption) ?restq2x7
    case hiq2x7 => simp only [List.getElem?_toArray, List.getElem?_cons_succ, List.getElem?_cons_zero]; exact rfl
    case hQq2x7 => exact fun _ _ _ h => h
    case hwq2x7 => rfl
    try simp only [Act.put, List.setIfInBounds_toArray, List.set_cons_zero, List.set_cons_succ]
    refine wpAnyH_take (i := 8) (oi := ?oiq2x8) (v := _) ?hiq2x8 (by kernel_rfl) (by kernel_rfl) (by kernel_rfl) ?hQq2x8 (Or.inr ⟨?hwq2x8, rfl⟩) (by assumption) ?restq2x8
    case hiq2x8 => simp only [List.getElem?_toArray, List.getElem?_cons_succ, List.getElem?_cons_zero]; exact rfl
    case hQq2x8 => exact fun _ _ _ h => h
    case hwq2x8 => rfl
    try simp only [Act.put, List.setIfInBounds_toArray, List.set_cons_zero, List.set_cons_succ]
    refine wpAnyH_take (i := 9) (oi := ?oiq2x9) (v := _) ?hiq2x9 (by kernel_rfl) (by kernel_rfl) (by kernel_rfl) ?hQq2x9 (Or.inr ⟨?hwq2x9, rfl⟩) (by assumption) ?restq2x9
    case hiq2x9 => simp only [List.getElem?_toArray, List.getElem?_cons_succ, List.getElem?_cons_zero]; exact rfl
    case hQq2x9 => exact fun _ _ _ h => h
    case hwq2x9 => rfl
    try simp only [Act.put, List.setIfInBounds_toArray, List.set_cons_zero, List.set_cons_succ]
    refine wpAnyH_take (i := 10) (oi := ?oiq2x10) (v := _) ?hiq2x10 (by kernel_rfl) (by kernel_rfl) (by kernel_rfl) ?hQq2x10 (Or.inr ⟨?hwq2x10, rfl⟩) (by assumption) ?restq2x10
    case hiq2x10 => simp only [List.getElem?_toArray, List.getElem?_cons_succ, List.getElem?_cons_zero]; exact rfl
    case hQq2x10 => exact fun _ _ _ h => h
    case hwq2x10 => rfl
    try simp only [Act.put, List.setIfInBounds_toArray, List.set_cons_zero, List.set_cons_succ]
    refine wpAnyH_ready (rs := [7]) (by kernel_rfl) (by simp) ?_
    refine AllReadyH.cons (o := ?oq2x11) ?hoq2x11 (fun K hK => ?stepq2x11) ?moreq2x11
    case hoq2x11 => simp only [List.getElem?_toArray, List.getElem?_cons_succ, List.getElem?_cons_zero]; exact rfl
    case moreq2x11 => exact AllReadyH.nil
    go_simp
    refine hK.out _ _ ?hSq2x11 (fun hHeld => ?restq2x11)
    case hSq2x11 => ((first | assumption | ((((try dsimp only); repeat' apply And.intro) <;> (first | assumption | (refine below_later ?_ (by assumption); first | assumption | (simp only [*]; done) | (go_grown; done)) | (refine cell_later (by assumption) ?_; first | assumption | (simp only [*]; done) | (simp [go_sem]; done)) | (go_grown; done) | (simp [go_sem]; done))))))
    clear hK K
    try simp only [Act.put, List.setIfInBounds_toArray, List.set_cons_zero, List.set_cons_succ]
    refine wpAnyH_take (i := 11) (oi := ?oiq2x12) (v := _) ?hiq2x12 (by kernel_rfl) (by kernel_rfl) (by kernel_rfl) ?hQq2x12 (Or.inr ⟨?hwq2x12, rfl⟩) (by assumption) ?restq2x12
    case hiq2x12 => simp only [List.getElem?_toArray, List.getElem?_cons_succ, List.getElem?_cons_zero]; exact rfl
    case hQq2x12 => exact fun _ _ _ h => h
    case hwq2x12 => rfl
    try simp only [Act.put, List.setIfInBounds_toArray, List.set_cons_zero, List.set_cons_succ]
    refine wpAnyH_take (i := 12) (oi := ?oiq2x13) (v := ?vq2x13) ?hiq2x13 (by kernel_rfl) (by kernel_rfl) (by kernel_rfl) ?hQq2x13 (Or.inl ⟨?hwq2x13, ?hyq2x13⟩) (by assumption) ?restq2x13
    case hiq2x13 => simp only [List.getElem?_toArray, List.getElem?_cons_succ, List.getElem?_cons_zero]; exact rfl
    case hQq2x13 => exact fun _ _ _ h => h
    case hwq2x13 => rfl
    case hyq2x13 => ((intro w hSw; (try dsimp only at hSw); go_simp) <;> with_reducible rfl)
    try simp only [Act.put, List.setIfInBounds_toArray, List.set_cons_zero, List.set_cons_succ]
    refine wpAnyH_take (i := 13) (oi := ?oiq2x14) (v := ?vq2x14) ?hiq2x14 (by kernel_rfl) (by kernel_rfl) (by kernel_rfl) ?hQq2x14 (Or.inl ⟨?hwq2x14, ?hyq2x14⟩) (by assumption) ?restq2x14
    case hiq2x14 => simp only [List.getElem?_toArray, List.getElem?_cons_succ, List.getElem?_cons_zero]; exact rfl
    case hQq2x14 => exact fun _ _ _ h => h
    case hwq2x14 => rfl
    case hyq2x14 => ((intro w hSw; (try dsimp only at hSw); go_simp) <;> with_reducible rfl)
    try simp only [Act.put, List.setIfInBounds_toArray, List.set_cons_zero, List.set_cons_succ]
    refine wpAnyH_done (by kernel_rfl) ?_ _
    have hfin := hb0.trans (hHeld.1.mono hb0.size)
    clear hHeld
    go_wp2_with fail
    go_ret
    exact ⟨ret_bool H.out.symm, hfin⟩
  · have H : Hid ((decide (rl < has + b) || decide (has - s < -rl)) = decide (has - s < -rl)) := Lib.hid (by simp [h1])
    have wneg : IntKind.i64.wrap (-rl) = -rl := by rw [IntKind.wrap_i64]; omega
    go_upto_region 1 with fail
    refine wp_region_held_drew (S := (fun w' => Below w0.heap.size w0 w' ∧ w'.cell? ⟨w.heap.size, 3, none⟩ = some (.int .i64 rl) ∧ w'.cell? ⟨w.heap.size + 1 + 1, 0, none⟩ = some (.int .i64 has) ∧ w'.cell? ⟨w.heap.size + 1 + 1, 1, none⟩ = some (.int .i64 b) ∧ w'.cell? ⟨w.heap.size + 1 + 1, 2, none⟩ = some (.int .i64 s))) (by kernel_rfl) ?hSq3xs (fun hHeld => ?restq3xs)
    case hSq3xs => ((first | assumption | ((((try dsimp only); repeat' apply And.intro) <;> (first | assumption | (refine below_later ?_ (by assumption); first | assumption | (simp only [*]; done) | (go_grown; done)) | (refine cell_later (by assumption) ?_; first | assumption | (simp only [*]; done) | (simp [go_sem]; done)) | (go_grown; done) | (simp [go_sem]; done))))))
    refine wpAnyH_take (i := 0) (oi := ?oiq3x1) (v := ?vq3x1) ?hiq3x1 (by kernel_rfl) (by kernel_rfl) (by kernel_rfl) ?hQq3x1 (Or.inl ⟨?hwq3x1, ?hyq3x1⟩) (by assumption) ?restq3x1
    case hiq3x1 => simp only [List.getElem?_toArray, List.getElem?_cons_succ, List.getElem?_cons_zero]; exact rfl
    case hQq3x1 => exact fun _ _ _ h => h
    case hwq3x1 => rfl
    case hyq3x1 => ((intro w hSw; (try dsimp only at hSw); go_simp) <;> with_reducible rfl)
    try simp only [Act.put, List.setIfInBounds_toArray, List.set_cons_zero, List.set_cons_succ]
    refine wpAnyH_take (i := 2) (oi := ?oiq3x2) (v := ?vq3x2) ?hiq3x2 (by kernel_rfl) (by kernel_rfl) (by kernel_rfl) ?hQq3x2 (Or.inl ⟨?hwq3x2, ?hyq3x2⟩) (by assumption) ?restq3x2
    case hiq3x2 => simp only [List.getElem?_toArray, List.getElem?_cons_succ, List.getElem?_cons_zero]; exact rfl
    case hQq3x2 => exact fun _ _ _ h => h
    case hwq3x2 => rfl
    case hyq3x2 => ((intro w hSw; (try dsimp only at hSw); go_simp) <;> with_reducible rfl)
    try simp only [Act.put, List.setIfInBounds_toArray, List.set_cons_zero, List.set_cons_succ]
    refine wpAnyH_take (i := 3) (oi := ?oiq3x3) (v := ?vq3x3) ?hiq3x3 (by kernel_rfl) (by kernel_rfl) (by kernel_rfl) ?hQq3x3 (Or.inl ⟨?hwq3x3, ?hyq3x3⟩) (by assumption) ?restq3x3
    case hiq3x3 => simp only [List.getElem?_toArray, List.getElem?_cons_succ, List.getElem?_cons_zero]; exact rfl
    case hQq3x3 => exact fun _ _ _ h => h
    case hwq3x3 => rfl
    case hyq3x3 => ((intro w hSw; (try dsimp only at hSw); go_simp) <;> with_reducible rfl)
    try simp only [Act.put, List.setIfInBounds_toArray, List.set_cons_zero, List.set_cons_succ]
    refine wpAnyH_ready (rs := [1]) (by kernel_rfl) (by simp) ?_
    refine AllReadyH.cons (o := ?oq3x4) ?hoq3x4 (fun K hK => ?stepq3x4) ?moreq3x4
    case hoq3x4 => simp only [List.getElem?_toArray, List.getElem?_cons_succ, List.getElem?_cons_zero]; exact rfl
    case moreq3x4 => exact AllReadyH.nil
    go_simp
    (go_at_call 40; refine (pr_greatest has b s _ hp.1 hp.2 hb hs).mono ?_; rintro e w6 ⟨rfl, hb6⟩)
    refine hK.out _ _ ?hSq3x4 (fun hHeld => ?restq3x4)
    case hSq3x4 => ((first | assumption | ((((try dsimp only); repeat' apply And.intro) <;> (first | assumption | (refine below_later ?_ (by assumption); first | assumption | (simp only [*]; done) | (go_grown; done)) | (refine cell_later (by assumption) ?_; first | assumption | (simp only [*]; done) | (simp [go_sem]; done)) | (go_grown; done) | (simp [go_sem]; done))))))
    clear hK K
    try simp only [Act.put, List.setIfInBounds_toArray, List.set_cons_zero, List.set_cons_succ]
    refine wpAnyH_take (i := 4) (oi := ?oiq3x5) (v := ?vq3x5) ?hiq3x5 (by kernel_rfl) (by kernel_rfl) (by kernel_rfl) ?hQq3x5 (Or.inl ⟨?hwq3x5, ?hyq3x5⟩) (by assumption) ?restq3x5
    case hiq3x5 => simp only [List.getElem?_toArray, List.getElem?_cons_succ, List.getElem?_cons_zero]; exact rfl
    case hQq3x5 => exact fun _ _ _ h => h
    case hwq3x5 => rfl
    case hyq3x5 => ((intro w hSw; (try dsimp only at hSw); go_simp) <;> with_reducible rfl)
    try simp only [Act.put, List.setIfInBounds_toArray, List.set_cons_zero, List.set_cons_succ]
    refine wpAnyH_take (i := 5) (oi := ?oiq3x6) (v := ?vq3x6) ?hiq3x6 (by kernel_rfl) (by kernel_rfl) (by kernel_rfl) ?hQq3x6 (Or.inl ⟨?hwq3x6, ?hyq3x6⟩) (by assumption) ?restq3x6
    case hiq3x6 => simp only [List.getElem?_toArray, List.getElem?_cons_succ, List.getElem?_cons_zero]; exact rfl
    case hQq3x6 => exact fun _ _ _ h => h
    case hwq3x6 => rfl
    case hyq3x6 => ((intro w hSw; (try dsimp only at hSw); go_simp) <;> with_reducible rfl)
    try simp only [Act.put, List.setIfInBounds_toArray, List.set_cons_zero, List.set_cons_succ]
    refine wpAnyH_take (i := 6) (oi := ?oiq3x7) (v := ?vq3x7) ?hiq3x7 (by kernel_rfl) (by kernel_rfl) (by kernel_rfl) ?hQq3x7 (Or.inl ⟨?hwq3x7, ?hyq3x7⟩) (by assumption) ?restq3x7
    case hiq3x7 => simp only [List.getElem?_toArray, List.getElem?_cons_succ, List.getElem?_cons_zero]; exact rfl
    case hQq3x7 => exact fun _ _ _ h => h
    case hwq3x7 => rfl
    case hyq3x7 => ((intro w hSw; (try dsimp only at hSw); go_simp) <;> with_reducible rfl)
    try simp only [Act.put, List.setIfInBounds_toArray, List.set_cons_zero, List.set_cons_succ]
    refine wpAnyH_take (i := 8) (oi := ?oiq3x8) (v := ?vq3x8) ?hiq3x8 (by kernel_rfl) (by kernel_rfl) (by kernel_rfl) ?hQq3x8 (Or.inl ⟨?hwq3x8, ?hyq3x8⟩) (by assumption) ?restq3x8
    case hiq3x8 => simp only [List.getElem?_toArray, List.getElem?_cons_succ, List.getElem?_cons_zero]; exact rfl
    case hQq3x8 => exact fun _ _ _ h => h
    case hwq3x8 => rfl
    case hyq3x8 => ((intro w hSw; (try dsimp only at hSw); go_simp) <;> with_reducible rfl)
    try simp only [Act.put, List.setIfInBounds_toArray, List.set_cons_zero, List.set_cons_succ]
    refine wpAnyH_take (i := 9) (oi := ?oiq3x9) (v := ?vq3x9) ?hiq3x9 (by kernel_rfl) (by kernel_rfl) (by kernel_rfl) ?hQq3x9 (Or.inl ⟨?hwq3x9, ?hyq3x9⟩) (by assumption) ?restq3x9
    case hiq3x9 => simp only [List.getElem?_toArray, List.getElem?_cons_succ, List.getElem?_cons_zero]; exact rfl
    case hQq3x9 => exact fun _ _ _ h => h
    case hwq3x9 => rfl
    case hyq3x9 => ((intro w hSw; (try dsimp only at hSw); go_simp) <;> with_reducible rfl)
    try simp only [Act.put, List.setIfInBounds_toArray, List.set_cons_zero, List.set_cons_succ]
    refine wpAnyH_take (i := 10) (oi := ?oiq3x10) (v := ?vq3x10) ?hiq3x10 (by kernel_rfl) (by kernel_rfl) (by kernel_rfl) ?hQq3x10 (Or.inl ⟨?hwq3x10, ?hyq3x10⟩) (by assumption) ?restq3x10
    case hiq3x10 => simp only [List.getElem?_toArray, List.getElem?_cons_succ, List.getElem?_cons_zero]; exact rfl
    case hQq3x10 => exact fun _ _ _ h => h
    case hwq3x10 => rfl
    case hyq3x10 => ((intro w hSw; (try dsimp only at hSw); go_simp) <;> with_reducible rfl)
    try simp only [Act.put, List.setIfInBounds_toArray, List.set_cons_zero, List.set_cons_succ]
    refine wpAnyH_ready (rs := [7]) (by kernel_rfl) (by simp) ?_
    refine AllReadyH.cons (o := ?oq3x11) ?hoq3x11 (fun K hK => ?stepq3x11) ?moreq3x11
    case hoq3x11 => simp only [List.getElem?_toArray, List.getElem?_cons_succ, List.getElem?_cons_zero]; exact rfl
    case moreq3x11 => exact AllReadyH.nil
    go_simp
    (go_at_call 39; refine (pr_least has b s _ hp.1 hp.2 hb hs).mono ?_; rintro e w6 ⟨rfl, hb6⟩)
    refine hK.out _ _ ?hSq3x11 (fun hHeld => ?restq3x11)
    case hSq3x11 => ((first | assumption | ((((try dsimp only); repeat' apply And.intro) <;> (first | assumption | (refine below_later ?_ (by assumption); first | assumption | (simp only [*]; done) | (go_grown; done)) | (refine cell_later (by assumption) ?_; first | assumption | (simp only [*]; done) | (simp [go_sem]; done)) | (go_grown; done) | (simp [go_sem]; done))))))
    clear hK K
    try simp only [Act.put, List.setIfInBounds_toArray, List.set_cons_zero, List.set_cons_succ]
    refine wpAnyH_take (i := 11) (oi := ?oiq3x12) (v := ?vq3x12) ?hiq3x12 (by kernel_rfl) (by kernel_rfl) (by kernel_rfl) ?hQq3x12 (Or.inl ⟨?hwq3x12, ?hyq3x12⟩) (by assumption) ?restq3x12
    case hiq3x12 => simp only [List.getElem?_toArray, List.getElem?_cons_succ, List.getElem?_cons_zero]; exact rfl
    case hQq3x12 => exact fun _ _ _ h => h
    case hwq3x12 => rfl
    case hyq3x12 => ((intro w hSw; (try dsimp only at hSw); go_simp) <;> with_reducible rfl)
    try simp only [Act.put, List.setIfInBounds_toArray, List.set_cons_zero, List.set_cons_succ]
    refine wpAnyH_take (i := 12) (oi := ?oiq3x13) (v := ?vq3x13) ?hiq3x13 (by kernel_rfl) (by kernel_rfl) (by kernel_rfl) ?hQq3x13 (Or.inl ⟨?hwq3x13, ?hyq3x13⟩) (by assumption) ?restq3x13
    case hiq3x13 => simp only [List.getElem?_toArray, List.getElem?_cons_succ, List.getElem?_cons_zero]; exact rfl
    case hQq3x13 => exact fun _ _ _ h => h
    case hwq3x13 => rfl
    case hyq3x13 => ((intro w hSw; (try dsimp only at hSw); go_simp) <;> with_reducible rfl)
    try simp only [Act.put, List.setIfInBounds_toArray, List.set_cons_zero, List.set_cons_succ]
    refine wpAnyH_take (i := 13) (oi := ?oiq3x14) (v := ?vq3x14) ?hiq3x14 (by kernel_rfl) (by kernel_rfl) (by kernel_rfl) ?hQq3x14 (Or.inl ⟨?hwq3x14, ?hyq3x14⟩) (by assumption) ?restq3x14
    case hiq3x14 => simp only [List.getElem?_toArray, List.getElem?_cons_succ, List.getElem?_cons_zero]; exact rfl
    case hQq3x14 => exact fun _ _ _ h => h
    case hwq3x14 => rfl
    case hyq3x14 => ((intro w hSw; (try dsimp only at hSw); go_simp) <;> with_reducible rfl)
    try simp only [Act.put, List.setIfInBounds_toArray, List.set_cons_zero, List.set_cons_succ]
    refine wpAnyH_done (by kernel_rfl) ?_ _
    have hfin := hb0.trans (hHeld.1.mono hb0.size)
    clear hHeld
    go_wp2_with fail
    go_ret
    exact ⟨ret_bool H.out.symm, hfin⟩
theorem bcell2 {w : World} {S : Nat} {x0 x1 : Value} {T : TypeId} (h : w.heap[S]? = some (.cells #[x0, x1] T (0, 0))) : w.cell? ⟨S, 0, none⟩ = some x0 ∧ w.cell? ⟨S, 1, none⟩ = some x1 := by
  refine ⟨?_, ?_⟩ <;> simp [World.cell?, h]
theorem bfree2 {w : World} {S : Nat} {x0 x1 : Value} {T : TypeId} (h : w.heap[S]? = some (.cells #[x0, x1] T (0, 0))) : w.frozen? ⟨S, 0, none⟩ = false ∧ w.frozen? ⟨S, 1, none⟩ = false := by
  refine ⟨?_, ?_⟩ <;> simp [World.frozen?, h]
theorem bput2 {w : World} {S : Nat} {x0 x1 u0 u1 : Value} {T : TypeId} (h : w.heap[S]? = some (.cells #[x0, x1] T (0, 0))) : ((w.setCell ⟨S, 0, none⟩ u0).setCell ⟨S, 1, none⟩ u1).heap[S]? = some (.cells #[u0, u1] T (0, 0)) := by
  simp [World.setCell, Array.getElem?_modify, h]
theorem bbelow2 {B : Nat} {a w : World} (h : Below B a w) {S : Nat} (hS : B ≤ S) (u0 u1 : Value) : Below B a ((w.setCell ⟨S, 0, none⟩ u0).setCell ⟨S, 1, none⟩ u1) := ((h.setCell (p := ⟨S, 0, none⟩) hS _).setCell (p := ⟨S, 1, none⟩) hS _)
theorem bcell3 {w : World} {S : Nat} {x0 x1 x2 : Value} {T : TypeId} (h : w.heap[S]? = some (.cells #[x0, x1, x2] T (0, 0))) : w.cell? ⟨S, 0, none⟩ = some x0 ∧ w.cell? ⟨S, 1, none⟩ = some x1 ∧ w.cell? ⟨S, 2, none⟩ = some x2 := by
  refine ⟨?_, ?_, ?_⟩ <;> simp [World.cell?, h]
theorem bfree3 {w : World} {S : Nat} {x0 x1 x2 : Value} {T : TypeId} (h : w.heap[S]? = some (.cells #[x0, x1, x2] T (0, 0))) : w.frozen? ⟨S, 0, none⟩ = false ∧ w.frozen? ⟨S, 1, none⟩ = false ∧ w.frozen? ⟨S, 2, none⟩ = false := by
  refine ⟨?_, ?_, ?_⟩ <;> simp [World.frozen?, h]
theorem bput3 {w : World} {S : Nat} {x0 x1 x2 u0 u1 u2 : Value} {T : TypeId} (h : w.heap[S]? = some (.cells #[x0, x1, x2] T (0, 0))) : (((w.setCell ⟨S, 0, none⟩ u0).setCell ⟨S, 1, none⟩ u1).setCell ⟨S, 2, none⟩ u2).heap[S]? = some (.cells #[u0, u1, u2] T (0, 0)) := by
  simp [World.setCell, Array.getElem?_modify, h]
theorem bbelow3 {B : Nat} {a w : World} (h : Below B a w) {S : Nat} (hS : B ≤ S) (u0 u1 u2 : Value) : Below B a (((w.setCell ⟨S, 0, none⟩ u0).setCell ⟨S, 1, none⟩ u1).setCell ⟨S, 2, none⟩ u2) := (((h.setCell (p := ⟨S, 0, none⟩) hS _).setCell (p := ⟨S, 1, none⟩) hS _).setCell (p := ⟨S, 2, none⟩) hS _)
theorem bcell4 {w : World} {S : Nat} {x0 x1 x2 x3 : Value} {T : TypeId} (h : w.heap[S]? = some (.cells #[x0, x1, x2, x3] T (0, 0))) : w.cell? ⟨S, 0, none⟩ = some x0 ∧ w.cell? ⟨S, 1, none⟩ = some x1 ∧ w.cell? ⟨S, 2, none⟩ = some x2 ∧ w.cell? ⟨S, 3, none⟩ = some x3 := by
  refine ⟨?_, ?_, ?_, ?_⟩ <;> simp [World.cell?, h]
theorem bfree4 {w : World} {S : Nat} {x0 x1 x2 x3 : Value} {T : TypeId} (h : w.heap[S]? = some (.cells #[x0, x1, x2, x3] T (0, 0))) : w.frozen? ⟨S, 0, none⟩ = false ∧ w.frozen? ⟨S, 1, none⟩ = false ∧ w.frozen? ⟨S, 2, none⟩ = false ∧ w.frozen? ⟨S, 3, none⟩ = false := by
  refine ⟨?_, ?_, ?_, ?_⟩ <;> simp [World.frozen?, h]
theorem bput4 {w : World} {S : Nat} {x0 x1 x2 x3 u0 u1 u2 u3 : Value} {T : TypeId} (h : w.heap[S]? = some (.cells #[x0, x1, x2, x3] T (0, 0))) : ((((w.setCell ⟨S, 0, none⟩ u0).setCell ⟨S, 1, none⟩ u1).setCell ⟨S, 2, none⟩ u2).setCell ⟨S, 3, none⟩ u3).heap[S]? = some (.cells #[u0, u1, u2, u3] T (0, 0)) := by
  simp [World.setCell, Array.getElem?_modify, h]
theorem bbelow4 {B : Nat} {a w : World} (h : Below B a w) {S : Nat} (hS : B ≤ S) (u0 u1 u2 u3 : Value) : Below B a ((((w.setCell ⟨S, 0, none⟩ u0).setCell ⟨S, 1, none⟩ u1).setCell ⟨S, 2, none⟩ u2).setCell ⟨S, 3, none⟩ u3) := ((((h.setCell (p := ⟨S, 0, none⟩) hS _).setCell (p := ⟨S, 1, none⟩) hS _).setCell (p := ⟨S, 2, none⟩) hS _).setCell (p := ⟨S, 3, none⟩) hS _)
theorem bcell5 {w : World} {S : Nat} {x0 x1 x2 x3 x4 : Value} {T : TypeId} (h : w.heap[S]? = some (.cells #[x0, x1, x2, x3, x4] T (0, 0))) : w.cell? ⟨S, 0, none⟩ = some x0 ∧ w.cell? ⟨S, 1, none⟩ = some x1 ∧ w.cell? ⟨S, 2, none⟩ = some x2 ∧ w.cell? ⟨S, 3, none⟩ = some x3 ∧ w.cell? ⟨S, 4, none⟩ = some x4 := by
  refine ⟨?_, ?_, ?_, ?_, ?_⟩ <;> simp [World.cell?, h]
theorem bfree5 {w : World} {S : Nat} {x0 x1 x2 x3 x4 : Value} {T : TypeId} (h : w.heap[S]? = some (.cells #[x0, x1, x2, x3, x4] T (0, 0))) : w.frozen? ⟨S, 0, none⟩ = false ∧ w.frozen? ⟨S, 1, none⟩ = false ∧ w.frozen? ⟨S, 2, none⟩ = false ∧ w.frozen? ⟨S, 3, none⟩ = false ∧ w.frozen? ⟨S, 4, none⟩ = false := by
  refine ⟨?_, ?_, ?_, ?_, ?_⟩ <;> simp [World.frozen?, h]
theorem bput5 {w : World} {S : Nat} {x0 x1 x2 x3 x4 u0 u1 u2 u3 u4 : Value} {T : TypeId} (h : w.heap[S]? = some (.cells #[x0, x1, x2, x3, x4] T (0, 0))) : (((((w.setCell ⟨S, 0, none⟩ u0).setCell ⟨S, 1, none⟩ u1).setCell ⟨S, 2, none⟩ u2).setCell ⟨S, 3, none⟩ u3).setCell ⟨S, 4, none⟩ u4).heap[S]? = some (.cells #[u0, u1, u2, u3, u4] T (0, 0)) := by
  simp [World.setCell, Array.getElem?_modify, h]
theorem bbelow5 {B : Nat} {a w : World} (h : Below B a w) {S : Nat} (hS : B ≤ S) (u0 u1 u2 u3 u4 : Value) : Below B a (((((w.setCell ⟨S, 0, none⟩ u0).setCell ⟨S, 1, none⟩ u1).setCell ⟨S, 2, none⟩ u2).setCell ⟨S, 3, none⟩ u3).setCell ⟨S, 4, none⟩ u4) := (((((h.setCell (p := ⟨S, 0, none⟩) hS _).setCell (p := ⟨S, 1, none⟩) hS _).setCell (p := ⟨S, 2, none⟩) hS _).setCell (p := ⟨S, 3, none⟩) hS _).setCell (p := ⟨S, 4, none⟩) hS _)
theorem bcell8 {w : World} {S : Nat} {x0 x1 x2 x3 x4 x5 x6 x7 : Value} {T : TypeId} (h : w.heap[S]? = some (.cells #[x0, x1, x2, x3, x4, x5, x6, x7] T (0, 0))) : w.cell? ⟨S, 0, none⟩ = some x0 ∧ w.cell? ⟨S, 1, none⟩ = some x1 ∧ w.cell? ⟨S, 2, none⟩ = some x2 ∧ w.cell? ⟨S, 3, none⟩ = some x3 ∧ w.cell? ⟨S, 4, none⟩ = some x4 ∧ w.cell? ⟨S, 5, none⟩ = some x5 ∧ w.cell? ⟨S, 6, none⟩ = some x6 ∧ w.cell? ⟨S, 7, none⟩ = some x7 := by
  refine ⟨?_, ?_, ?_, ?_, ?_, ?_, ?_, ?_⟩ <;> simp [World.cell?, h]
theorem bfree8 {w : World} {S : Nat} {x0 x1 x2 x3 x4 x5 x6 x7 : Value} {T : TypeId} (h : w.heap[S]? = some (.cells #[x0, x1, x2, x3, x4, x5, x6, x7] T (0, 0))) : w.frozen? ⟨S, 0, none⟩ = false ∧ w.frozen? ⟨S, 1, none⟩ = false ∧ w.frozen? ⟨S, 2, none⟩ = false ∧ w.frozen? ⟨S, 3, none⟩ = false ∧ w.frozen? ⟨S, 4, none⟩ = false ∧ w.frozen? ⟨S, 5, none⟩ = false ∧ w.frozen? ⟨S, 6, none⟩ = false ∧ w.frozen? ⟨S, 7, none⟩ = false := by
  refine ⟨?_, ?_, ?_, ?_, ?_, ?_, ?_, ?_⟩ <;> simp [World.frozen?, h]
theorem bput8 {w : World} {S : Nat} {x0 x1 x2 x3 x4 x5 x6 x7 u0 u1 u2 u3 u4 u5 u6 u7 : Value} {T : TypeId} (h : w.heap[S]? = some (.cells #[x0, x1, x2, x3, x4, x5, x6, x7] T (0, 0))) : ((((((((w.setCell ⟨S, 0, none⟩ u0).setCell ⟨S, 1, none⟩ u1).setCell ⟨S, 2, none⟩ u2).setCell ⟨S, 3, none⟩ u3).setCell ⟨S, 4, none⟩ u4).setCell ⟨S, 5, none⟩ u5).setCell ⟨S, 6, none⟩ u6).setCell ⟨S, 7, none⟩ u7).heap[S]? = some (.cells #[u0, u1, u2, u3, u4, u5, u6, u7] T (0, 0)) := by
  simp [World.setCell, Array.getElem?_modify, h]
theorem bbelow8 {B : Nat} {a w : World} (h : Below B a w) {S : Nat} (hS : B ≤ S) (u0 u1 u2 u3 u4 u5 u6 u7 : Value) : Below B a ((((((((w.setCell ⟨S, 0, none⟩ u0).setCell ⟨S, 1, none⟩ u1).setCell ⟨S, 2, none⟩ u2).setCell ⟨S, 3, none⟩ u3).setCell ⟨S, 4, none⟩ u4).setCell ⟨S, 5, none⟩ u5).setCell ⟨S, 6, none⟩ u6).setCell ⟨S, 7, none⟩ u7) := ((((((((h.setCell (p := ⟨S, 0, none⟩) hS _).setCell (p := ⟨S, 1, none⟩) hS _).setCell (p := ⟨S, 2, none⟩) hS _).setCell (p := ⟨S, 3, none⟩) hS _).setCell (p := ⟨S, 4, none⟩) hS _).setCell (p := ⟨S, 5, none⟩) hS _).setCell (p := ⟨S, 6, none⟩) hS _).setCell (p := ⟨S, 7, none⟩) hS _)
theorem Keeps.five {X : Nat} {w0 v : World} {a b c d : Nat × Obj} {g : Nat} {o : Obj} {L : List (Nat × Obj)} (h : Keeps X w0 (a :: b :: c :: d :: (g, o) :: L) v) : v.heap[g]? = some o := h.at_ (g, o) (by simp)
theorem alT_wth (q : Int × Int) (side qty rs ro rl has : Int) : alT q side qty rs ro rl has = alC (wthQ q side qty).1 (wthQ q side qty).2 qty rs ro rl has := by
  unfold alT wthQ
  split <;> rfl
theorem wthQ_in {q : Int × Int} {side qty : Int} (h1 : 0 ≤ q.1 ∧ q.1 ≤ 20000000) (h2 : 0 ≤ q.2 ∧ q.2 ≤ 20000000) (h3 : 1 ≤ qty ∧ qty ≤ 1000000) : (0 ≤ (wthQ q side qty).1 ∧ (wthQ q side qty).1 ≤ 40000000) ∧ (0 ≤ (wthQ q side qty).2 ∧ (wthQ q side qty).2 ≤ 40000000) := by
  unfold wthQ
  split <;> simp only <;> omega
set_option linter.unusedSimpArgs false in
set_option maxHeartbeats 3200000 in
set_option maxRecDepth 100000 in
theorem impl_Allowed (A : Option Addr) (n c : Nat) (I : Option Addr) (i d : Nat) (bs : List (List Int × List Int)) (is : List Int) (ra rs ro rl k1 k2 k3 k4 k5 k6 k7 k8 has : Int) (w : World) (h : EngS w w.heap.size A n I i d bs is) (hn : n ≤ 1048576) (hi : i ≤ 1048576) :
    Calls Try.prog 19 #[.agg #[.slice A n c, .slice I i d], .agg #[.int .i64 ra, .int .i64 rs, .int .i64 ro, .int .i64 rl], .agg #[.int .i64 k1, .int .i64 k2, .int .i64 k3, .int .i64 k4, .int .i64 k5, .int .i64 k6, .int .i64 k7, .int .i64 k8], .int .i64 has] w fun e w' => e = .returned (.int .i64 (alV bs n i is ra rs ro rl k1 k2 k3 k4 k5 k6 k7 k8 has)) ∧ Below w.heap.size w w' := by
  have hb0 : Below w.heap.size w (((w.alloc (.cells #[.slice A n c, .slice I i d] 31)).alloc (.cells #[.int .i64 ra, .int .i64 rs, .int .i64 ro, .int .i64 rl] 42)).alloc (.cells #[.int .i64 k1, .int .i64 k2, .int .i64 k3, .int .i64 k4, .int .i64 k5, .int .i64 k6, .int .i64 k7, .int .i64 k8] 44)) := (((Below.refl _ _).alloc (Nat.le_refl _) _).alloc (by simp) _).alloc (by simp; omega) _
  obtain ⟨t0, t1, t2⟩ := three_blocks w (.cells #[.slice A n c, .slice I i d] 31) (.cells #[.int .i64 ra, .int .i64 rs, .int .i64 ro, .int .i64 rl] 42) (.cells #[.int .i64 k1, .int .i64 k2, .int .i64 k3, .int .i64 k4, .int .i64 k5, .int .i64 k6, .int .i64 k7, .int .i64 k8] 44)
  have hs0 : (((w.alloc (.cells #[.slice A n c, .slice I i d] 31)).alloc (.cells #[.int .i64 ra, .int .i64 rs, .int .i64 ro, .int .i64 rl] 42)).alloc (.cells #[.int .i64 k1, .int .i64 k2, .int .i64 k3, .int .i64 k4, .int .i64 k5, .int .i64 k6, .int .i64 k7, .int .i64 k8] 44)).heap.size = w.heap.size + 3 := by simp
  have h0 := h.later hb0
  go_enter Try.func19, Try.ntmps19
  go_wp2_with fail
  generalize (((w.alloc (.cells #[.slice A n c, .slice I i d] 31)).alloc (.cells #[.int .i64 ra, .int .i64 rs, .int .i64 ro, .int .i64 rl] 42)).alloc (.cells #[.int .i64 k1, .int .i64 k2, .int .i64 k3, .int .i64 k4, .int .i64 k5, .int .i64 k6, .int .i64 k7, .int .i64 k8] 44)) = w0 at *
  refine (impl_EngineOk A n c I i d bs is w0 h0 hn hi).mono ?_
  rcases Bool.eq_false_or_eq_true (engB bs n i is) with he | he
  rotate_left
  · rw [he]
    rintro e w1 ⟨rfl, hb1⟩
    have H : Hid (alV bs n i is ra rs ro rl k1 k2 k3 k4 k5 k6 k7 k8 has = 1) := Lib.hid (alV_bad fun ha => by have q := (alB_parts ha).1; rw [he] at q; cases q)
    go_wp2_with fail
    go_ret
    exact ⟨ret_int H.out.symm, hb0.trans (hb1.mono hb0.size)⟩
  rw [he]
  rintro e w1 ⟨rfl, hb1⟩
  have t0 := (hb1.block (w.heap.size) (by omega)).trans t0
  have t1 := (hb1.block (w.heap.size + 1) (by omega)).trans t1
  have t2 := (hb1.block (w.heap.size + 1 + 1) (by omega)).trans t2
  have hs1 : w.heap.size + 3 ≤ w1.heap.size := by have := hb1.size; omega
  have hB := hb0.trans (hb1.mono hb0.size)
  have r0 := cell_of_row w1 (w.heap.size + 1) 0 _ _ (0, 0) t1
  have r1 := cell_of_row w1 (w.heap.size + 1) 1 _ _ (0, 0) t1
  have r2 := cell_of_row w1 (w.heap.size + 1) 2 _ _ (0, 0) t1
  have r3 := cell_of_row w1 (w.heap.size + 1) 3 _ _ (0, 0) t1
  simp at r0 r1 r2 r3
  clear h0 hb0 hb1 hs0
  have HE := Lib.hid he
  clear he
  go_wp2_with fail
  refine (impl_riskOk ra rs ro rl w1).mono ?_
  rcases Bool.eq_false_or_eq_true (rkB rs ro rl) with hr | hr
  rotate_left
  · rw [hr]
    have H : Hid (alV bs n i is ra rs ro rl k1 k2 k3 k4 k5 k6 k7 k8 has = 1) := Lib.hid (alV_bad fun ha => by have q := (alB_parts ha).2.1; rw [hr] at q; cases q)
    rintro e w2 ⟨rfl, hb2⟩
    clear t0 t1 t2 r0 r1 r2 r3 hr
    go_wp2_with fail
    go_ret
    exact ⟨ret_int H.out.symm, hB.trans (hb2.mono hB.size)⟩
  rw [hr]
  rintro e w2 ⟨rfl, hb2⟩
  have HR := Lib.hid hr
  have t0 := (hb2.block (w.heap.size) (by omega)).trans t0
  have t1 := (hb2.block (w.heap.size + 1) (by omega)).trans t1
  have t2 := (hb2.block (w.heap.size + 1 + 1) (by omega)).trans t2
  have hs2 : w.heap.size + 3 ≤ w2.heap.size := by have := hb2.size; omega
  have hB := hB.trans (hb2.mono hB.size)
  have c0 := cell_of_row w2 (w.heap.size + 1 + 1) 0 _ _ (0, 0) t2
  have c1 := cell_of_row w2 (w.heap.size + 1 + 1) 1 _ _ (0, 0) t2
  have c2 := cell_of_row w2 (w.heap.size + 1 + 1) 2 _ _ (0, 0) t2
  have c3 := cell_of_row w2 (w.heap.size + 1 + 1) 3 _ _ (0, 0) t2
  have c4 := cell_of_row w2 (w.heap.size + 1 + 1) 4 _ _ (0, 0) t2
  have c5 := cell_of_row w2 (w.heap.size + 1 + 1) 5 _ _ (0, 0) t2
  have c6 := cell_of_row w2 (w.heap.size + 1 + 1) 6 _ _ (0, 0) t2
  have c7 := cell_of_row w2 (w.heap.size + 1 + 1) 7 _ _ (0, 0) t2
  simp at c0 c1 c2 c3 c4 c5 c6 c7
  clear hb2 hs1 hr r0 r1 r2 r3
  go_wp2_with fail
  refine (impl_CmdOk k1 k2 k3 k4 k5 k6 k7 k8 w2).mono ?_
  rcases Bool.eq_false_or_eq_true (cmdB k1 k2 k3 k4 k5 k6 k7 k8) with hc | hc
  rotate_left
  · rw [hc]
    have H : Hid (alV bs n i is ra rs ro rl k1 k2 k3 k4 k5 k6 k7 k8 has = 1) := Lib.hid (alV_bad fun ha => by have q := (alB_parts ha).2.2.1; rw [hc] at q; cases q)
    rintro e w3 ⟨rfl, hb3⟩
    clear t0 t1 t2 c0 c1 c2 c3 c4 c5 c6 c7 hc
    go_wp2_with fail
    go_ret
    exact ⟨ret_int H.out.symm, hB.trans (hb3.mono hB.size)⟩
  rw [hc]
  rintro e w3 ⟨rfl, hb3⟩
  have HC := Lib.hid hc
  have t0 := (hb3.block (w.heap.size) (by omega)).trans t0
  have t1 := (hb3.block (w.heap.size + 1) (by omega)).trans t1
  have t2 := (hb3.block (w.heap.size + 1 + 1) (by omega)).trans t2
  have hs3 : w.heap.size + 3 ≤ w3.heap.size := by have := hb3.size; omega
  have hB := hB.trans (hb3.mono hB.size)
  have r0 := cell_of_row w3 (w.heap.size + 1) 0 _ _ (0, 0) t1
  have r1 := cell_of_row w3 (w.heap.size + 1) 1 _ _ (0, 0) t1
  have r2 := cell_of_row w3 (w.heap.size + 1) 2 _ _ (0, 0) t1
  have r3 := cell_of_row w3 (w.heap.size + 1) 3 _ _ (0, 0) t1
  have c0 := cell_of_row w3 (w.heap.size + 1 + 1) 0 _ _ (0, 0) t2
  have c1 := cell_of_row w3 (w.heap.size + 1 + 1) 1 _ _ (0, 0) t2
  have c2 := cell_of_row w3 (w.heap.size + 1 + 1) 2 _ _ (0, 0) t2
  have c3 := cell_of_row w3 (w.heap.size + 1 + 1) 3 _ _ (0, 0) t2
  have c4 := cell_of_row w3 (w.heap.size + 1 + 1) 4 _ _ (0, 0) t2
  have c5 := cell_of_row w3 (w.heap.size + 1 + 1) 5 _ _ (0, 0) t2
  have c6 := cell_of_row w3 (w.heap.size + 1 + 1) 6 _ _ (0, 0) t2
  have c7 := cell_of_row w3 (w.heap.size + 1 + 1) 7 _ _ (0, 0) t2
  simp at r0 r1 r2 r3 c0 c1 c2 c3 c4 c5 c6 c7
  clear hb3 hs2 hc
  go_wp2_with fail
  refine (impl_positionOk _ _).mono ?_
  rcases Bool.eq_false_or_eq_true (inB (-1000000000) has 1000000000) with hp | hp
  rotate_left
  · rw [hp]
    have H : Hid (alV bs n i is ra rs ro rl k1 k2 k3 k4 k5 k6 k7 k8 has = 1) := Lib.hid (alV_bad fun ha => by have q := (alB_parts ha).2.2.2.1; rw [hp] at q; cases q)
    rintro e w4 ⟨rfl, rfl⟩
    clear hp
    go_wp2_with fail
    go_ret
    exact ⟨ret_int H.out.symm, hB⟩
  rw [hp]
  rintro e w4 ⟨rfl, rfl⟩
  have HP := Lib.hid hp
  clear hp
  by_cases h7 : k1 = 7
  · have H : Hid (alV bs n i is ra rs ro rl k1 k2 k3 k4 k5 k6 k7 k8 has = 1) := Lib.hid (alV_bad fun ha => (alB_parts ha).2.2.2.2.2 h7)
    have t7 : (k1 == 7) = true := by simp [h7]
    clear h7
    go_wp2_with fail
    go_ret
    exact ⟨ret_int H.out.symm, hB⟩
  have t7 : (k1 == 7) = false := by simpa using h7
  have H7 := Lib.hid h7
  clear h7
  by_cases hk : k3 = ra
  rotate_left
  · have H : Hid (alV bs n i is ra rs ro rl k1 k2 k3 k4 k5 k6 k7 k8 has = 1) := Lib.hid (alV_bad fun ha => hk (alB_parts ha).2.2.2.2.1)
    have tk : (k3 != ra) = true := by simpa using hk
    go_wp2_with fail
    go_ret
    exact ⟨ret_int H.out.symm, hB⟩
  have tk : (k3 != ra) = false := by simp [hk]
  have HK := Lib.hid hk
  clear hk
  have H := Lib.hid (alV_yes (bs := bs) (n := n) (i := i) (is := is) (alB_all HE.out HR.out HC.out HP.out HK.out H7.out))
  go_wp2_with fail
  refine (impl_isOrder k1 k2 k3 k4 k5 k6 k7 k8 w3).mono ?_
  by_cases h5 : k1 ≤ 5
  rotate_left
  · have H0 : Hid (alV bs n i is ra rs ro rl k1 k2 k3 k4 k5 k6 k7 k8 has = 0) := Lib.hid (by rw [H.out, if_pos (by omega)])
    rw [decide_eq_false h5]
    rintro e w5 ⟨rfl, hb5⟩
    clear r0 r1 r2 r3 c0 c1 c2 c3 c4 c5 c6 c7 H
    go_wp2_with fail
    go_ret
    exact ⟨ret_int H0.out.symm, hB.trans (hb5.mono hB.size)⟩
  rw [decide_eq_true h5]
  rintro e w5 ⟨rfl, hb5⟩
  have t0 := (hb5.block (w.heap.size) (by omega)).trans t0
  have t1 := (hb5.block (w.heap.size + 1) (by omega)).trans t1
  have t2 := (hb5.block (w.heap.size + 1 + 1) (by omega)).trans t2
  have hs5 : w.heap.size + 3 ≤ w5.heap.size := by have := hb5.size; omega
  have hB := hB.trans (hb5.mono hB.size)
  obtain ⟨-, hsd, hq⟩ := alw_ord HC.out h5
  have H : Hid (alV bs n i is ra rs ro rl k1 k2 k3 k4 k5 k6 k7 k8 has = alT (opQ bs n i is k3 k2) k5 k7 rs ro rl has) := Lib.hid (by rw [H.out, if_neg (by omega)])
  have hin := opQ_in (n := n) (i := i) (is := is) (acct := k3) (sym := k2) h.len h.books.lens
  obtain ⟨⟨u1, u2⟩, hu⟩ : ∃ u, opQ bs n i is k3 k2 = u := ⟨_, rfl⟩
  rw [hu] at hin H
  have HU := Lib.hid hu
  have hh := inB_iff.1 HP.out
  have hrl : 0 ≤ rl ∧ rl ≤ 1000000000 := by
    have hr := HR.out
    unfold rkB at hr
    simp only [Bool.and_eq_true, inB_iff] at hr
    exact hr.2.2
  clear hb5 hs3 r0 r1 r2 r3 c0 c1 c2 c3 c4 c5 c6 c7 HE HR HC HP H7 HK t7 tk hu
  have hwq := wthQ_in (side := k5) hin.1 hin.2 hq
  have HPR : Hid (∀ v, Keeps w.heap.size w [(w.heap.size, (.cells #[.slice A n c, .slice I i d] 31)), (w.heap.size + 1 + 1, (.cells #[.int .i64 k1, .int .i64 k2, .int .i64 k3, .int .i64 k4, .int .i64 k5, .int .i64 k6, .int .i64 k7, .int .i64 k8] 44)), (w.heap.size + 1, (.cells #[.int .i64 ra, .int .i64 rs, .int .i64 ro, .int .i64 rl] 42)), (w5.heap.size, (.cells #[.nilFunc, .nilFunc, .func (.func 47) #[] #[], .func (.func 48) #[] #[], .func (.func 49) #[] #[]] 79))] v → Calls Try.prog 38 #[.agg #[.slice A n c, .slice I i d], .int .i64 k3, .int .i64 k2, .int .i64 has] v fun e w' => e = .returned (.agg #[.int .i64 has, .int .i64 u1, .int .i64 u2]) ∧ Below v.heap.size v w') := Lib.hid (fun v hk => by
    have := impl_prospectOf A n c I i d bs is k3 k2 has v (h.later hk.bel) hn hi
    rw [HU.out] at this
    exact this)
  obtain ⟨⟨b, s⟩, hbs⟩ : ∃ q, wthQ (u1, u2) k5 k7 = q := ⟨_, rfl⟩
  have HW : Hid (∀ v, Calls Try.prog 50 #[.agg #[.int .i64 has, .int .i64 u1, .int .i64 u2], .int .i64 k5, .int .i64 k7] v fun e w' => e = .returned (.agg #[.int .i64 has, .int .i64 b, .int .i64 s]) ∧ Below v.heap.size v w') := Lib.hid (fun v => by
    have := impl_with has u1 u2 k5 k7 v hin.1 hin.2 hq
    rw [hbs] at this
    exact this)
  rw [hbs] at hwq
  have HV : Hid (alV bs n i is ra rs ro rl k1 k2 k3 k4 k5 k6 k7 k8 has = alC b s k7 rs ro rl has) := Lib.hid (by rw [H.out, alT_wth, hbs])
  obtain ⟨SB, hSB⟩ : ∃ x, decide (rs < k7) = x := ⟨_, rfl⟩
  obtain ⟨OB, hOB⟩ : ∃ x, decide (ro < b + s) = x := ⟨_, rfl⟩
  obtain ⟨LB, hLB⟩ : ∃ x, (decide (rl < has + b) || decide (has - s < -rl)) = x := ⟨_, rfl⟩
  have HS : Hid (∀ v, Calls Try.prog 47 #[.agg #[.int .i64 ra, .int .i64 rs, .int .i64 ro, .int .i64 rl], .agg #[.int .i64 k1, .int .i64 k2, .int .i64 k3, .int .i64 k4, .int .i64 k5, .int .i64 k6, .int .i64 k7, .int .i64 k8], .agg #[.int .i64 has, .int .i64 b, .int .i64 s]] v fun e w' => e = .returned (.bool SB) ∧ Below v.heap.size v w') := Lib.hid (fun v => by
    have := lim_size ra rs ro rl k1 k2 k3 k4 k5 k6 k7 k8 has b s v hwq.1 hwq.2
    rw [hSB] at this
    exact this)
  have HO : Hid (∀ v, Calls Try.prog 48 #[.agg #[.int .i64 ra, .int .i64 rs, .int .i64 ro, .int .i64 rl], .agg #[.int .i64 k1, .int .i64 k2, .int .i64 k3, .int .i64 k4, .int .i64 k5, .int .i64 k6, .int .i64 k7, .int .i64 k8], .agg #[.int .i64 has, .int .i64 b, .int .i64 s]] v fun e w' => e = .returned (.bool OB) ∧ Below v.heap.size v w') := Lib.hid (fun v => by
    have := lim_open ra rs ro rl k1 k2 k3 k4 k5 k6 k7 k8 has b s v hwq.1 hwq.2
    rw [hOB] at this
    exact this)
  have HL : Hid (∀ v, Calls Try.prog 49 #[.agg #[.int .i64 ra, .int .i64 rs, .int .i64 ro, .int .i64 rl], .agg #[.int .i64 k1, .int .i64 k2, .int .i64 k3, .int .i64 k4, .int .i64 k5, .int .i64 k6, .int .i64 k7, .int .i64 k8], .agg #[.int .i64 has, .int .i64 b, .int .i64 s]] v fun e w' => e = .returned (.bool LB) ∧ Below v.heap.size v w') := Lib.hid (fun v => by
    have := lim_long ra rs ro rl k1 k2 k3 k4 k5 k6 k7 k8 has b s v hwq.1 hwq.2 hh hrl
    rw [hLB] at this
    exact this)
  have HSB := Lib.hid hSB
  have HOB := Lib.hid hOB
  have HLB := Lib.hid hLB
  have kx := heap_alloc_new w5 (.cells #[.nilFunc, .nilFunc, .func (.func 47) #[] #[], .func (.func 48) #[] #[], .func (.func 49) #[] #[]] 79)
  have hba : Below w5.heap.size w5 (w5.alloc (.cells #[.nilFunc, .nilFunc, .func (.func 47) #[] #[], .func (.func 48) #[] #[], .func (.func 49) #[] #[]] 79)) := (Below.refl _ _).alloc (Nat.le_refl _) _
  have hK0 : Keeps w.heap.size w [(w.heap.size, (.cells #[.slice A n c, .slice I i d] 31)), (w.heap.size + 1 + 1, (.cells #[.int .i64 k1, .int .i64 k2, .int .i64 k3, .int .i64 k4, .int .i64 k5, .int .i64 k6, .int .i64 k7, .int .i64 k8] 44)), (w.heap.size + 1, (.cells #[.int .i64 ra, .int .i64 rs, .int .i64 ro, .int .i64 rl] 42)), (w5.heap.size, (.cells #[.nilFunc, .nilFunc, .func (.func 47) #[] #[], .func (.func 48) #[] #[], .func (.func 49) #[] #[]] 79))] (w5.alloc (.cells #[.nilFunc, .nilFunc, .func (.func 47) #[] #[], .func (.func 48) #[] #[], .func (.func 49) #[] #[]] 79)) := ⟨hB.trans (hba.mono hB.size), by have := hba.size; omega, fun p hp => by
    simp only [List.mem_cons, List.not_mem_nil, or_false] at hp
    rcases hp with rfl | rfl | rfl | rfl
    · exact (hba.block _ (show w.heap.size < w5.heap.size by omega)).trans t0
    · exact (hba.block _ (show w.heap.size + 1 + 1 < w5.heap.size by omega)).trans t2
    · exact (hba.block _ (show w.heap.size + 1 < w5.heap.size by omega)).trans t1
    · exact kx⟩
  clear hSB hOB hLB hbs hwq hin H HU hq hsd hrl hh h t0 t1 t2 kx hba hB hs5
  go_wp2_with fail
  generalize (w5.alloc (.cells #[.nilFunc, .nilFunc, .func (.func 47) #[] #[], .func (.func 48) #[] #[], .func (.func 49) #[] #[]] 79)) = w6 at *
  generalize w5.heap.size = GX at *
  go_upto_region 8 with fail
  go_cut [10] (fun s10 wx => ∃ G, s10 = .pointer (some ⟨G, 0, none⟩) ∧ Keeps w.heap.size w [(G, (.cells #[.int .i64 has, .int .i64 b, .int .i64 s] 72)), (w.heap.size, (.cells #[.slice A n c, .slice I i d] 31)), (w.heap.size + 1 + 1, (.cells #[.int .i64 k1, .int .i64 k2, .int .i64 k3, .int .i64 k4, .int .i64 k5, .int .i64 k6, .int .i64 k7, .int .i64 k8] 44)), (w.heap.size + 1, (.cells #[.int .i64 ra, .int .i64 rs, .int .i64 ro, .int .i64 rl] 42)), (GX, (.cells #[.nilFunc, .nilFunc, .func (.func 47) #[] #[], .func (.func 48) #[] #[], .func (.func 49) #[] #[]] 79))] wx)
  case first =>
    refine wp_region_held_drew (S := Keeps w.heap.size w [(w.heap.size, (.cells #[.slice A n c, .slice I i d] 31)), (w.heap.size + 1 + 1, (.cells #[.int .i64 k1, .int .i64 k2, .int .i64 k3, .int .i64 k4, .int .i64 k5, .int .i64 k6, .int .i64 k7, .int .i64 k8] 44)), (w.heap.size + 1, (.cells #[.int .i64 ra, .int .i64 rs, .int .i64 ro, .int .i64 rl] 42)), (GX, (.cells #[.nilFunc, .nilFunc, .func (.func 47) #[] #[], .func (.func 48) #[] #[], .func (.func 49) #[] #[]] 79))]) (by kernel_rfl) ?hSr8 (fun hHeld => ?restr8)
    case hSr8 => exact hK0.drew
    replace hK0 := hK0.drew
    generalize w6.drew = w1 at *
    refine wpAnyH_take (i := 0) (oi := ?oik1) (v := ?vk1) ?hik1 (by kernel_rfl) (by kernel_rfl) (by kernel_rfl) ?hQk1 (Or.inl ⟨?hwk1, ?hyk1⟩) (by assumption) ?restk1
    case hik1 => simp only [List.getElem?_toArray, List.getElem?_cons_succ, List.getElem?_cons_zero]; exact rfl
    case hQk1 => exact fun _ _ _ h => h
    case hwk1 => rfl
    case hyk1 => ((intro w hSw; obtain ⟨c0, c1⟩ := bcell2 hSw.one; go_simp) <;> with_reducible rfl)
    try simp only [Act.put, List.setIfInBounds_toArray, List.set_cons_zero, List.set_cons_succ]
    refine wpAnyH_take (i := 1) (oi := ?oik2) (v := ?vk2) ?hik2 (by kernel_rfl) (by kernel_rfl) (by kernel_rfl) ?hQk2 (Or.inl ⟨?hwk2, ?hyk2⟩) (by assumption) ?restk2
    case hik2 => simp only [List.getElem?_toArray, List.getElem?_cons_succ, List.getElem?_cons_zero]; exact rfl
    case hQk2 => exact fun _ _ _ h => h
    case hwk2 => rfl
    case hyk2 => ((intro w hSw; go_simp) <;> with_reducible rfl)
    try simp only [Act.put, List.setIfInBounds_toArray, List.set_cons_zero, List.set_cons_succ]
    refine wpAnyH_take (i := 2) (oi := ?oik3) (v := ?vk3) ?hik3 (by kernel_rfl) (by kernel_rfl) (by kernel_rfl) ?hQk3 (Or.inl ⟨?hwk3, ?hyk3⟩) (by assumption) ?restk3
    case hik3 => simp only [List.getElem?_toArray, List.getElem?_cons_succ, List.getElem?_cons_zero]; exact rfl
    case hQk3 => exact fun _ _ _ h => h
    case hwk3 => rfl
    case hyk3 => ((intro w hSw; obtain ⟨c0, c1, c2, c3, c4, c5, c6, c7⟩ := bcell8 hSw.two; go_simp) <;> with_reducible rfl)
    try simp only [Act.put, List.setIfInBounds_toArray, List.set_cons_zero, List.set_cons_succ]
    refine wpAnyH_take (i := 3) (oi := ?oik4) (v := ?vk4) ?hik4 (by kernel_rfl) (by kernel_rfl) (by kernel_rfl) ?hQk4 (Or.inl ⟨?hwk4, ?hyk4⟩) (by assumption) ?restk4
    case hik4 => simp only [List.getElem?_toArray, List.getElem?_cons_succ, List.getElem?_cons_zero]; exact rfl
    case hQk4 => exact fun _ _ _ h => h
    case hwk4 => rfl
    case hyk4 => ((intro w hSw; go_simp) <;> with_reducible rfl)
    try simp only [Act.put, List.setIfInBounds_toArray, List.set_cons_zero, List.set_cons_succ]
    refine wpAnyH_take (i := 4) (oi := ?oik5) (v := ?vk5) ?hik5 (by kernel_rfl) (by kernel_rfl) (by kernel_rfl) ?hQk5 (Or.inl ⟨?hwk5, ?hyk5⟩) (by assumption) ?restk5
    case hik5 => simp only [List.getElem?_toArray, List.getElem?_cons_succ, List.getElem?_cons_zero]; exact rfl
    case hQk5 => exact fun _ _ _ h => h
    case hwk5 => rfl
    case hyk5 => ((intro w hSw; obtain ⟨c0, c1, c2, c3, c4, c5, c6, c7⟩ := bcell8 hSw.two; go_simp) <;> with_reducible rfl)
    try simp only [Act.put, List.setIfInBounds_toArray, List.set_cons_zero, List.set_cons_succ]
    refine wpAnyH_take (i := 5) (oi := ?oik6) (v := ?vk6) ?hik6 (by kernel_rfl) (by kernel_rfl) (by kernel_rfl) ?hQk6 (Or.inl ⟨?hwk6, ?hyk6⟩) (by assumption) ?restk6
    case hik6 => simp only [List.getElem?_toArray, List.getElem?_cons_succ, List.getElem?_cons_zero]; exact rfl
    case hQk6 => exact fun _ _ _ h => h
    case hwk6 => rfl
    case hyk6 => ((intro w hSw; go_simp) <;> with_reducible rfl)
    try simp only [Act.put, List.setIfInBounds_toArray, List.set_cons_zero, List.set_cons_succ]
    refine wpAnyH_take (i := 7) (oi := ?oik7) (v := ?vk7) ?hik7 (by kernel_rfl) (by kernel_rfl) (by kernel_rfl) ?hQk7 (Or.inl ⟨?hwk7, ?hyk7⟩) (by assumption) ?restk7
    case hik7 => simp only [List.getElem?_toArray, List.getElem?_cons_succ, List.getElem?_cons_zero]; exact rfl
    case hQk7 => exact fun _ _ _ h => h
    case hwk7 => rfl
    case hyk7 => ((intro w hSw; go_simp) <;> with_reducible rfl)
    try simp only [Act.put, List.setIfInBounds_toArray, List.set_cons_zero, List.set_cons_succ]
    refine wpAnyH_take (i := 8) (oi := ?oik8) (v := ?vk8) ?hik8 (by kernel_rfl) (by kernel_rfl) (by kernel_rfl) ?hQk8 (Or.inl ⟨?hwk8, ?hyk8⟩) (by assumption) ?restk8
    case hik8 => simp only [List.getElem?_toArray, List.getElem?_cons_succ, List.getElem?_cons_zero]; exact rfl
    case hQk8 => exact fun _ _ _ h => h
    case hwk8 => rfl
    case hyk8 => ((intro w hSw; obtain ⟨c0, c1, c2, c3, c4, c5, c6, c7⟩ := bcell8 hSw.two; go_simp) <;> with_reducible rfl)
    try simp only [Act.put, List.setIfInBounds_toArray, List.set_cons_zero, List.set_cons_succ]
    refine wpAnyH_take (i := 9) (oi := ?oik9) (v := ?vk9) ?hik9 (by kernel_rfl) (by kernel_rfl) (by kernel_rfl) ?hQk9 (Or.inl ⟨?hwk9, ?hyk9⟩) (by assumption) ?restk9
    case hik9 => simp only [List.getElem?_toArray, List.getElem?_cons_succ, List.getElem?_cons_zero]; exact rfl
    case hQk9 => exact fun _ _ _ h => h
    case hwk9 => rfl
    case hyk9 => ((intro w hSw; go_simp) <;> with_reducible rfl)
    try simp only [Act.put, List.setIfInBounds_toArray, List.set_cons_zero, List.set_cons_succ]
    refine wpAnyH_take (i := 10) (oi := ?oik10) (v := ?vk10) ?hik10 (by kernel_rfl) (by kernel_rfl) (by kernel_rfl) ?hQk10 (Or.inl ⟨?hwk10, ?hyk10⟩) (by assumption) ?restk10
    case hik10 => simp only [List.getElem?_toArray, List.getElem?_cons_succ, List.getElem?_cons_zero]; exact rfl
    case hQk10 => exact fun _ _ _ h => h
    case hwk10 => rfl
    case hyk10 => ((intro w hSw; obtain ⟨c0, c1, c2, c3, c4, c5, c6, c7⟩ := bcell8 hSw.two; go_simp) <;> with_reducible rfl)
    try simp only [Act.put, List.setIfInBounds_toArray, List.set_cons_zero, List.set_cons_succ]
    refine wpAnyH_ready (rs := [6, 12]) (by kernel_rfl) (by simp) ?_
    refine AllReadyH.cons (o := ?or11_6) ?hor11_6 (fun K hK => ?stepr11_6) (AllReadyH.cons (o := ?or11_12) ?hor11_12 (fun K hK => ?stepr11_12) (AllReadyH.nil))
    case hor11_6 => simp only [List.getElem?_toArray, List.getElem?_cons_succ, List.getElem?_cons_zero]; exact rfl
    case hor11_12 => simp only [List.getElem?_toArray, List.getElem?_cons_succ, List.getElem?_cons_zero]; exact rfl
    case stepr11_6 =>
      go_simp
      refine (HPR.out w1 (by assumption)).mono ?_
      rintro e v13 ⟨rfl, hb14⟩
      have hk15 := hK0.upto (Nat.le_refl _) hb14
      refine hK.out _ _ ?hSq12 (fun hHeld => ?restq12)
      case hSq12 => exact hk15
      clear hK K hb14 hK0
      try simp only [Act.put, List.setIfInBounds_toArray, List.set_cons_zero, List.set_cons_succ]
      refine wpAnyH_ready (rs := [11, 12]) (by kernel_rfl) (by simp) ?_
      refine AllReadyH.cons (o := ?or16_11) ?hor16_11 (fun K hK => ?stepr16_11) (AllReadyH.cons (o := ?or16_12) ?hor16_12 (fun K hK => ?stepr16_12) (AllReadyH.nil))
      case hor16_11 => simp only [List.getElem?_toArray, List.getElem?_cons_succ, List.getElem?_cons_zero]; exact rfl
      case hor16_12 => simp only [List.getElem?_toArray, List.getElem?_cons_succ, List.getElem?_cons_zero]; exact rfl
      case stepr16_11 =>
        go_simp
        refine (HW.out v13).mono ?_
        rintro e v18 ⟨rfl, hb19⟩
        have hk20 := hk15.upto (Nat.le_refl _) hb19
        refine hK.out _ _ ?hSq17 (fun hHeld => ?restq17)
        case hSq17 => exact hk20
        clear hK K hb19 hk15
        try simp only [Act.put, List.setIfInBounds_toArray, List.set_cons_zero, List.set_cons_succ]
        refine wpAnyH_ready (rs := [12]) (by kernel_rfl) (by simp) ?_
        refine AllReadyH.cons (o := ?or21_12) ?hor21_12 (fun K hK => ?stepr21_12) (AllReadyH.nil)
        case hor21_12 => simp only [List.getElem?_toArray, List.getElem?_cons_succ, List.getElem?_cons_zero]; exact rfl
        case stepr21_12 =>
          go_simp
          have hk24 := hk20.upto (Nat.le_refl _) ((Below.refl _ _).alloc (Nat.le_refl _) (.cells #[.int .i64 0, .int .i64 0, .int .i64 0] 72))
          have hg26 := heap_alloc_new v18 (.cells #[.int .i64 0, .int .i64 0, .int .i64 0] 72)
          have hz27 := hk20.lo
          refine hK.out _ _ ?hSq22 (fun hHeld => ?restq22)
          case hSq22 => exact hk24
          clear hK K hk20
          try simp only [Act.put, List.setIfInBounds_toArray, List.set_cons_zero, List.set_cons_succ]
          generalize v18.alloc (.cells #[.int .i64 0, .int .i64 0, .int .i64 0] 72) = v23 at *
          generalize v18.heap.size = G25 at *
          refine wpAnyH_ready (rs := [13]) (by kernel_rfl) (by simp) ?_
          refine AllReadyH.cons (o := ?or28_13) ?hor28_13 (fun K hK => ?stepr28_13) (AllReadyH.nil)
          case hor28_13 => simp only [List.getElem?_toArray, List.getElem?_cons_succ, List.getElem?_cons_zero]; exact rfl
          case stepr28_13 =>
            obtain ⟨c0, c1, c2⟩ := bcell3 hg26
            obtain ⟨f0, f1, f2⟩ := bfree3 hg26
            go_simp
            have hk30 := hk24.upto' (by assumption) (bbelow3 (B := G25) (Below.refl G25 v23) (Nat.le_refl _) (.int .i64 has) (.int .i64 b) (.int .i64 s))
            have hput := bput3 (u0 := .int .i64 has) (u1 := .int .i64 b) (u2 := .int .i64 s) hg26
            refine hK.out _ _ ?hSq29 (fun hHeld => ?restq29)
            case hSq29 => exact hk30
            clear hK K hk24
            try simp only [Act.put, List.setIfInBounds_toArray, List.set_cons_zero, List.set_cons_succ]
            refine wpAnyH_done (by kernel_rfl) ?_ _
            go_wp2_with fail
            go_meet
            exact ⟨_, rfl, (hk30).more hput⟩
      case stepr16_12 =>
        go_simp
        have hk34 := hk15.upto (Nat.le_refl _) ((Below.refl _ _).alloc (Nat.le_refl _) (.cells #[.int .i64 0, .int .i64 0, .int .i64 0] 72))
        have hg36 := heap_alloc_new v13 (.cells #[.int .i64 0, .int .i64 0, .int .i64 0] 72)
        have hz37 := hk15.lo
        refine hK.out _ _ ?hSq32 (fun hHeld => ?restq32)
        case hSq32 => exact hk34
        clear hK K hk15
        try simp only [Act.put, List.setIfInBounds_toArray, List.set_cons_zero, List.set_cons_succ]
        generalize v13.alloc (.cells #[.int .i64 0, .int .i64 0, .int .i64 0] 72) = v33 at *
        generalize v13.heap.size = G35 at *
        refine wpAnyH_ready (rs := [11]) (by kernel_rfl) (by simp) ?_
        refine AllReadyH.cons (o := ?or38_11) ?hor38_11 (fun K hK => ?stepr38_11) (AllReadyH.nil)
        case hor38_11 => simp only [List.getElem?_toArray, List.getElem?_cons_succ, List.getElem?_cons_zero]; exact rfl
        case stepr38_11 =>
          go_simp
          refine (HW.out v33).mono ?_
          rintro e v40 ⟨rfl, hb41⟩
          have hk42 := hk34.upto (Nat.le_refl _) hb41
          have hg43 := (hb41.block G35 (heap_lt' hg36)).trans hg36
          clear hg36
          refine hK.out _ _ ?hSq39 (fun hHeld => ?restq39)
          case hSq39 => exact hk42
          clear hK K hb41 hk34
          try simp only [Act.put, List.setIfInBounds_toArray, List.set_cons_zero, List.set_cons_succ]
          refine wpAnyH_ready (rs := [13]) (by kernel_rfl) (by simp) ?_
          refine AllReadyH.cons (o := ?or44_13) ?hor44_13 (fun K hK => ?stepr44_13) (AllReadyH.nil)
          case hor44_13 => simp only [List.getElem?_toArray, List.getElem?_cons_succ, List.getElem?_cons_zero]; exact rfl
          case stepr44_13 =>
            obtain ⟨c0, c1, c2⟩ := bcell3 hg43
            obtain ⟨f0, f1, f2⟩ := bfree3 hg43
            go_simp
            have hk46 := hk42.upto' (by assumption) (bbelow3 (B := G35) (Below.refl G35 v40) (Nat.le_refl _) (.int .i64 has) (.int .i64 b) (.int .i64 s))
            have hput := bput3 (u0 := .int .i64 has) (u1 := .int .i64 b) (u2 := .int .i64 s) hg43
            refine hK.out _ _ ?hSq45 (fun hHeld => ?restq45)
            case hSq45 => exact hk46
            clear hK K hk42
            try simp only [Act.put, List.setIfInBounds_toArray, List.set_cons_zero, List.set_cons_succ]
            refine wpAnyH_done (by kernel_rfl) ?_ _
            go_wp2_with fail
            go_meet
            exact ⟨_, rfl, (hk46).more hput⟩
    case stepr11_12 =>
      go_simp
      have hk50 := hK0.upto (Nat.le_refl _) ((Below.refl _ _).alloc (Nat.le_refl _) (.cells #[.int .i64 0, .int .i64 0, .int .i64 0] 72))
      have hg52 := heap_alloc_new w1 (.cells #[.int .i64 0, .int .i64 0, .int .i64 0] 72)
      have hz53 := hK0.lo
      refine hK.out _ _ ?hSq48 (fun hHeld => ?restq48)
      case hSq48 => exact hk50
      clear hK K hK0
      try simp only [Act.put, List.setIfInBounds_toArray, List.set_cons_zero, List.set_cons_succ]
      generalize w1.alloc (.cells #[.int .i64 0, .int .i64 0, .int .i64 0] 72) = v49 at *
      generalize w1.heap.size = G51 at *
      refine wpAnyH_ready (rs := [6]) (by kernel_rfl) (by simp) ?_
      refine AllReadyH.cons (o := ?or54_6) ?hor54_6 (fun K hK => ?stepr54_6) (AllReadyH.nil)
      case hor54_6 => simp only [List.getElem?_toArray, List.getElem?_cons_succ, List.getElem?_cons_zero]; exact rfl
      case stepr54_6 =>
        go_simp
        refine (HPR.out v49 (by assumption)).mono ?_
        rintro e v56 ⟨rfl, hb57⟩
        have hk58 := hk50.upto (Nat.le_refl _) hb57
        have hg59 := (hb57.block G51 (heap_lt' hg52)).trans hg52
        clear hg52
        refine hK.out _ _ ?hSq55 (fun hHeld => ?restq55)
        case hSq55 => exact hk58
        clear hK K hb57 hk50
        try simp only [Act.put, List.setIfInBounds_toArray, List.set_cons_zero, List.set_cons_succ]
        refine wpAnyH_ready (rs := [11]) (by kernel_rfl) (by simp) ?_
        refine AllReadyH.cons (o := ?or60_11) ?hor60_11 (fun K hK => ?stepr60_11) (AllReadyH.nil)
        case hor60_11 => simp only [List.getElem?_toArray, List.getElem?_cons_succ, List.getElem?_cons_zero]; exact rfl
        case stepr60_11 =>
          go_simp
          refine (HW.out v56).mono ?_
          rintro e v62 ⟨rfl, hb63⟩
          have hk64 := hk58.upto (Nat.le_refl _) hb63
          have hg65 := (hb63.block G51 (heap_lt' hg59)).trans hg59
          clear hg59
          refine hK.out _ _ ?hSq61 (fun hHeld => ?restq61)
          case hSq61 => exact hk64
          clear hK K hb63 hk58
          try simp only [Act.put, List.setIfInBounds_toArray, List.set_cons_zero, List.set_cons_succ]
          refine wpAnyH_ready (rs := [13]) (by kernel_rfl) (by simp) ?_
          refine AllReadyH.cons (o := ?or66_13) ?hor66_13 (fun K hK => ?stepr66_13) (AllReadyH.nil)
          case hor66_13 => simp only [List.getElem?_toArray, List.getElem?_cons_succ, List.getElem?_cons_zero]; exact rfl
          case stepr66_13 =>
            obtain ⟨c0, c1, c2⟩ := bcell3 hg65
            obtain ⟨f0, f1, f2⟩ := bfree3 hg65
            go_simp
            have hk68 := hk64.upto' (by assumption) (bbelow3 (B := G51) (Below.refl G51 v62) (Nat.le_refl _) (.int .i64 has) (.int .i64 b) (.int .i64 s))
            have hput := bput3 (u0 := .int .i64 has) (u1 := .int .i64 b) (u2 := .int .i64 s) hg65
            refine hK.out _ _ ?hSq67 (fun hHeld => ?restq67)
            case hSq67 => exact hk68
            clear hK K hk64
            try simp only [Act.put, List.setIfInBounds_toArray, List.set_cons_zero, List.set_cons_succ]
            refine wpAnyH_done (by kernel_rfl) ?_ _
            go_wp2_with fail
            go_meet
            exact ⟨_, rfl, (hk68).more hput⟩
  case rest =>
    clear hK0
    obtain ⟨G, rfl, hK0⟩ := hcut
    clear HPR HW
    go_wp2_with fail
    go_loopw [11] (fun cv wr => ∃ cc : Int, cv = .int .i64 cc ∧ (cc = 2 ∨ (cc = 3 ∧ SB = false) ∨ (cc = 4 ∧ SB = false ∧ OB = false) ∨ (cc = 5 ∧ SB = false ∧ OB = false ∧ LB = false)) ∧ Keeps w.heap.size w [(G, (.cells #[.int .i64 has, .int .i64 b, .int .i64 s] 72)), (w.heap.size, (.cells #[.slice A n c, .slice I i d] 31)), (w.heap.size + 1 + 1, (.cells #[.int .i64 k1, .int .i64 k2, .int .i64 k3, .int .i64 k4, .int .i64 k5, .int .i64 k6, .int .i64 k7, .int .i64 k8] 44)), (w.heap.size + 1, (.cells #[.int .i64 ra, .int .i64 rs, .int .i64 ro, .int .i64 rl] 42)), (GX, (.cells #[.nilFunc, .nilFunc, .func (.func 47) #[] #[], .func (.func 48) #[] #[], .func (.func 49) #[] #[]] 79))] wr) (fun cv _ => 5 - (intOf cv).toNat)
    case atStart => exact ⟨2, rfl, .inl rfl, hK0⟩
    case round =>
      clear hK0
      obtain ⟨cc, rfl, hc, hK0⟩ := hrel
      rcases hc with rfl | ⟨rfl, rfl⟩ | ⟨rfl, rfl, rfl⟩ | ⟨rfl, rfl, rfl, rfl⟩
      · rcases Bool.eq_false_or_eq_true SB with rfl | rfl
        · have D1 : Hid (rs < k7) := Lib.hid (of_decide_eq_true HSB.out)
          go_wp2_with fail
          go_upto_region 12 with fail
          refine wp_region_held_drew (S := Keeps w.heap.size w [(G, (.cells #[.int .i64 has, .int .i64 b, .int .i64 s] 72)), (w.heap.size, (.cells #[.slice A n c, .slice I i d] 31)), (w.heap.size + 1 + 1, (.cells #[.int .i64 k1, .int .i64 k2, .int .i64 k3, .int .i64 k4, .int .i64 k5, .int .i64 k6, .int .i64 k7, .int .i64 k8] 44)), (w.heap.size + 1, (.cells #[.int .i64 ra, .int .i64 rs, .int .i64 ro, .int .i64 rl] 42)), (GX, (.cells #[.nilFunc, .nilFunc, .func (.func 47) #[] #[], .func (.func 48) #[] #[], .func (.func 49) #[] #[]] 79))]) (by kernel_rfl) ?hSt1 (fun hHeld => ?restt1)
          case hSt1 => exact hK0.drew
          replace hK0 := hK0.drew
          generalize wr.drew = w1 at *
          refine wpAnyH_take (i := 0) (oi := ?oik70) (v := ?vk70) ?hik70 (by kernel_rfl) (by kernel_rfl) (by kernel_rfl) ?hQk70 (Or.inl ⟨?hwk70, ?hyk70⟩) (by assumption) ?restk70
          case hik70 => simp only [List.getElem?_toArray, List.getElem?_cons_succ, List.getElem?_cons_zero]; exact rfl
          case hQk70 => exact fun _ _ _ h => h
          case hwk70 => rfl
          case hyk70 => ((intro w hSw; go_simp) <;> with_reducible rfl)
          try simp only [Act.put, List.setIfInBounds_toArray, List.set_cons_zero, List.set_cons_succ]
          refine wpAnyH_take (i := 1) (oi := ?oik71) (v := ?vk71) ?hik71 (by kernel_rfl) (by kernel_rfl) (by kernel_rfl) ?hQk71 (Or.inl ⟨?hwk71, ?hyk71⟩) (by assumption) ?restk71
          case hik71 => simp only [List.getElem?_toArray, List.getElem?_cons_succ, List.getElem?_cons_zero]; exact rfl
          case hQk71 => exact fun _ _ _ h => h
          case hwk71 => rfl
          case hyk71 => ((intro w hSw; go_simp) <;> with_reducible rfl)
          try simp only [Act.put, List.setIfInBounds_toArray, List.set_cons_zero, List.set_cons_succ]
          refine wpAnyH_take (i := 2) (oi := ?oik72) (v := ?vk72) ?hik72 (by kernel_rfl) (by kernel_rfl) (by kernel_rfl) ?hQk72 (Or.inl ⟨?hwk72, ?hyk72⟩) (by assumption) ?restk72
          case hik72 => simp only [List.getElem?_toArray, List.getElem?_cons_succ, List.getElem?_cons_zero]; exact rfl
          case hQk72 => exact fun _ _ _ h => h
          case hwk72 => rfl
          case hyk72 => ((intro w hSw; obtain ⟨c0, c1, c2, c3, c4⟩ := bcell5 hSw.five; go_simp) <;> with_reducible rfl)
          try simp only [Act.put, List.setIfInBounds_toArray, List.set_cons_zero, List.set_cons_succ]
          refine wpAnyH_take (i := 3) (oi := ?oik73) (v := ?vk73) ?hik73 (by kernel_rfl) (by kernel_rfl) (by kernel_rfl) ?hQk73 (Or.inl ⟨?hwk73, ?hyk73⟩) (by assumption) ?restk73
          case hik73 => simp only [List.getElem?_toArray, List.getElem?_cons_succ, List.getElem?_cons_zero]; exact rfl
          case hQk73 => exact fun _ _ _ h => h
          case hwk73 => rfl
          case hyk73 => ((intro w hSw; obtain ⟨c0, c1, c2, c3⟩ := bcell4 hSw.four; go_simp) <;> with_reducible rfl)
          try simp only [Act.put, List.setIfInBounds_toArray, List.set_cons_zero, List.set_cons_succ]
          refine wpAnyH_take (i := 4) (oi := ?oik74) (v := ?vk74) ?hik74 (by kernel_rfl) (by kernel_rfl) (by kernel_rfl) ?hQk74 (Or.inl ⟨?hwk74, ?hyk74⟩) (by assumption) ?restk74
          case hik74 => simp only [List.getElem?_toArray, List.getElem?_cons_succ, List.getElem?_cons_zero]; exact rfl
          case hQk74 => exact fun _ _ _ h => h
          case hwk74 => rfl
          case hyk74 => ((intro w hSw; obtain ⟨c0, c1, c2, c3, c4, c5, c6, c7⟩ := bcell8 hSw.three; go_simp) <;> with_reducible rfl)
          try simp only [Act.put, List.setIfInBounds_toArray, List.set_cons_zero, List.set_cons_succ]
          refine wpAnyH_take (i := 5) (oi := ?oik75) (v := ?vk75) ?hik75 (by kernel_rfl) (by kernel_rfl) (by kernel_rfl) ?hQk75 (Or.inl ⟨?hwk75, ?hyk75⟩) (by assumption) ?restk75
          case hik75 => simp only [List.getElem?_toArray, List.getElem?_cons_succ, List.getElem?_cons_zero]; exact rfl
          case hQk75 => exact fun _ _ _ h => h
          case hwk75 => rfl
          case hyk75 => ((intro w hSw; obtain ⟨c0, c1, c2⟩ := bcell3 hSw.one; go_simp) <;> with_reducible rfl)
          try simp only [Act.put, List.setIfInBounds_toArray, List.set_cons_zero, List.set_cons_succ]
          refine wpAnyH_ready (rs := [6]) (by kernel_rfl) (by simp) ?_
          refine AllReadyH.cons (o := ?or76_6) ?hor76_6 (fun K hK => ?stepr76_6) (AllReadyH.nil)
          case hor76_6 => simp only [List.getElem?_toArray, List.getElem?_cons_succ, List.getElem?_cons_zero]; exact rfl
          case stepr76_6 =>
            go_simp
            refine (HS.out w1).mono ?_
            rintro e v78 ⟨rfl, hb79⟩
            have hk80 := hK0.upto (Nat.le_refl _) hb79
            refine hK.out _ _ ?hSq77 (fun hHeld => ?restq77)
            case hSq77 => exact hk80
            clear hK K hb79 hK0
            try simp only [Act.put, List.setIfInBounds_toArray, List.set_cons_zero, List.set_cons_succ]
            refine wpAnyH_done (by kernel_rfl) ?_ _
            go_wp2_with fail
            go_ret
            exact ⟨ret_int (by rw [HV.out, alC, if_pos (by have := D1.out; omega)]), hk80.bel⟩
        · skip
          go_wp2_with fail
          go_upto_region 12 with fail
          refine wp_region_held_drew (S := Keeps w.heap.size w [(G, (.cells #[.int .i64 has, .int .i64 b, .int .i64 s] 72)), (w.heap.size, (.cells #[.slice A n c, .slice I i d] 31)), (w.heap.size + 1 + 1, (.cells #[.int .i64 k1, .int .i64 k2, .int .i64 k3, .int .i64 k4, .int .i64 k5, .int .i64 k6, .int .i64 k7, .int .i64 k8] 44)), (w.heap.size + 1, (.cells #[.int .i64 ra, .int .i64 rs, .int .i64 ro, .int .i64 rl] 42)), (GX, (.cells #[.nilFunc, .nilFunc, .func (.func 47) #[] #[], .func (.func 48) #[] #[], .func (.func 49) #[] #[]] 79))]) (by kernel_rfl) ?hSt2 (fun hHeld => ?restt2)
          case hSt2 => exact hK0.drew
          replace hK0 := hK0.drew
          generalize wr.drew = w1 at *
          refine wpAnyH_take (i := 0) (oi := ?oik81) (v := ?vk81) ?hik81 (by kernel_rfl) (by kernel_rfl) (by kernel_rfl) ?hQk81 (Or.inl ⟨?hwk81, ?hyk81⟩) (by assumption) ?restk81
          case hik81 => simp only [List.getElem?_toArray, List.getElem?_cons_succ, List.getElem?_cons_zero]; exact rfl
          case hQk81 => exact fun _ _ _ h => h
          case hwk81 => rfl
          case hyk81 => ((intro w hSw; go_simp) <;> with_reducible rfl)
          try simp only [Act.put, List.setIfInBounds_toArray, List.set_cons_zero, List.set_cons_succ]
          refine wpAnyH_take (i := 1) (oi := ?oik82) (v := ?vk82) ?hik82 (by kernel_rfl) (by kernel_rfl) (by kernel_rfl) ?hQk82 (Or.inl ⟨?hwk82, ?hyk82⟩) (by assumption) ?restk82
          case hik82 => simp only [List.getElem?_toArray, List.getElem?_cons_succ, List.getElem?_cons_zero]; exact rfl
          case hQk82 => exact fun _ _ _ h => h
          case hwk82 => rfl
          case hyk82 => ((intro w hSw; go_simp) <;> with_reducible rfl)
          try simp only [Act.put, List.setIfInBounds_toArray, List.set_cons_zero, List.set_cons_succ]
          refine wpAnyH_take (i := 2) (oi := ?oik83) (v := ?vk83) ?hik83 (by kernel_rfl) (by kernel_rfl) (by kernel_rfl) ?hQk83 (Or.inl ⟨?hwk83, ?hyk83⟩) (by assumption) ?restk83
          case hik83 => simp only [List.getElem?_toArray, List.getElem?_cons_succ, List.getElem?_cons_zero]; exact rfl
          case hQk83 => exact fun _ _ _ h => h
          case hwk83 => rfl
          case hyk83 => ((intro w hSw; obtain ⟨c0, c1, c2, c3, c4⟩ := bcell5 hSw.five; go_simp) <;> with_reducible rfl)
          try simp only [Act.put, List.setIfInBounds_toArray, List.set_cons_zero, List.set_cons_succ]
          refine wpAnyH_take (i := 3) (oi := ?oik84) (v := ?vk84) ?hik84 (by kernel_rfl) (by kernel_rfl) (by kernel_rfl) ?hQk84 (Or.inl ⟨?hwk84, ?hyk84⟩) (by assumption) ?restk84
          case hik84 => simp only [List.getElem?_toArray, List.getElem?_cons_succ, List.getElem?_cons_zero]; exact rfl
          case hQk84 => exact fun _ _ _ h => h
          case hwk84 => rfl
          case hyk84 => ((intro w hSw; obtain ⟨c0, c1, c2, c3⟩ := bcell4 hSw.four; go_simp) <;> with_reducible rfl)
          try simp only [Act.put, List.setIfInBounds_toArray, List.set_cons_zero, List.set_cons_succ]
          refine wpAnyH_take (i := 4) (oi := ?oik85) (v := ?vk85) ?hik85 (by kernel_rfl) (by kernel_rfl) (by kernel_rfl) ?hQk85 (Or.inl ⟨?hwk85, ?hyk85⟩) (by assumption) ?restk85
          case hik85 => simp only [List.getElem?_toArray, List.getElem?_cons_succ, List.getElem?_cons_zero]; exact rfl
          case hQk85 => exact fun _ _ _ h => h
          case hwk85 => rfl
          case hyk85 => ((intro w hSw; obtain ⟨c0, c1, c2, c3, c4, c5, c6, c7⟩ := bcell8 hSw.three; go_simp) <;> with_reducible rfl)
          try simp only [Act.put, List.setIfInBounds_toArray, List.set_cons_zero, List.set_cons_succ]
          refine wpAnyH_take (i := 5) (oi := ?oik86) (v := ?vk86) ?hik86 (by kernel_rfl) (by kernel_rfl) (by kernel_rfl) ?hQk86 (Or.inl ⟨?hwk86, ?hyk86⟩) (by assumption) ?restk86
          case hik86 => simp only [List.getElem?_toArray, List.getElem?_cons_succ, List.getElem?_cons_zero]; exact rfl
          case hQk86 => exact fun _ _ _ h => h
          case hwk86 => rfl
          case hyk86 => ((intro w hSw; obtain ⟨c0, c1, c2⟩ := bcell3 hSw.one; go_simp) <;> with_reducible rfl)
          try simp only [Act.put, List.setIfInBounds_toArray, List.set_cons_zero, List.set_cons_succ]
          refine wpAnyH_ready (rs := [6]) (by kernel_rfl) (by simp) ?_
          refine AllReadyH.cons (o := ?or87_6) ?hor87_6 (fun K hK => ?stepr87_6) (AllReadyH.nil)
          case hor87_6 => simp only [List.getElem?_toArray, List.getElem?_cons_succ, List.getElem?_cons_zero]; exact rfl
          case stepr87_6 =>
            go_simp
            refine (HS.out w1).mono ?_
            rintro e v89 ⟨rfl, hb90⟩
            have hk91 := hK0.upto (Nat.le_refl _) hb90
            refine hK.out _ _ ?hSq88 (fun hHeld => ?restq88)
            case hSq88 => exact hk91
            clear hK K hb90 hK0
            try simp only [Act.put, List.setIfInBounds_toArray, List.set_cons_zero, List.set_cons_succ]
            refine wpAnyH_done (by kernel_rfl) ?_ _
            go_wp2_with fail
            go_roundw
            case rel => exact ⟨3, rfl, by simp, hk91⟩
            case measure => simp [intOf]
      · have D1 : Hid (¬ rs < k7) := Lib.hid (of_decide_eq_false HSB.out)
        rcases Bool.eq_false_or_eq_true OB with rfl | rfl
        · have D2 : Hid (ro < b + s) := Lib.hid (of_decide_eq_true HOB.out)
          go_wp2_with fail
          go_upto_region 12 with fail
          refine wp_region_held_drew (S := Keeps w.heap.size w [(G, (.cells #[.int .i64 has, .int .i64 b, .int .i64 s] 72)), (w.heap.size, (.cells #[.slice A n c, .slice I i d] 31)), (w.heap.size + 1 + 1, (.cells #[.int .i64 k1, .int .i64 k2, .int .i64 k3, .int .i64 k4, .int .i64 k5, .int .i64 k6, .int .i64 k7, .int .i64 k8] 44)), (w.heap.size + 1, (.cells #[.int .i64 ra, .int .i64 rs, .int .i64 ro, .int .i64 rl] 42)), (GX, (.cells #[.nilFunc, .nilFunc, .func (.func 47) #[] #[], .func (.func 48) #[] #[], .func (.func 49) #[] #[]] 79))]) (by kernel_rfl) ?hSt3 (fun hHeld => ?restt3)
          case hSt3 => exact hK0.drew
          replace hK0 := hK0.drew
          generalize wr.drew = w1 at *
          refine wpAnyH_take (i := 0) (oi := ?oik92) (v := ?vk92) ?hik92 (by kernel_rfl) (by kernel_rfl) (by kernel_rfl) ?hQk92 (Or.inl ⟨?hwk92, ?hyk92⟩) (by assumption) ?restk92
          case hik92 => simp only [List.getElem?_toArray, List.getElem?_cons_succ, List.getElem?_cons_zero]; exact rfl
          case hQk92 => exact fun _ _ _ h => h
          case hwk92 => rfl
          case hyk92 => ((intro w hSw; go_simp) <;> with_reducible rfl)
          try simp only [Act.put, List.setIfInBounds_toArray, List.set_cons_zero, List.set_cons_succ]
          refine wpAnyH_take (i := 1) (oi := ?oik93) (v := ?vk93) ?hik93 (by kernel_rfl) (by kernel_rfl) (by kernel_rfl) ?hQk93 (Or.inl ⟨?hwk93, ?hyk93⟩) (by assumption) ?restk93
          case hik93 => simp only [List.getElem?_toArray, List.getElem?_cons_succ, List.getElem?_cons_zero]; exact rfl
          case hQk93 => exact fun _ _ _ h => h
          case hwk93 => rfl
          case hyk93 => ((intro w hSw; go_simp) <;> with_reducible rfl)
          try simp only [Act.put, List.setIfInBounds_toArray, List.set_cons_zero, List.set_cons_succ]
          refine wpAnyH_take (i := 2) (oi := ?oik94) (v := ?vk94) ?hik94 (by kernel_rfl) (by kernel_rfl) (by kernel_rfl) ?hQk94 (Or.inl ⟨?hwk94, ?hyk94⟩) (by assumption) ?restk94
          case hik94 => simp only [List.getElem?_toArray, List.getElem?_cons_succ, List.getElem?_cons_zero]; exact rfl
          case hQk94 => exact fun _ _ _ h => h
          case hwk94 => rfl
          case hyk94 => ((intro w hSw; obtain ⟨c0, c1, c2, c3, c4⟩ := bcell5 hSw.five; go_simp) <;> with_reducible rfl)
          try simp only [Act.put, List.setIfInBounds_toArray, List.set_cons_zero, List.set_cons_succ]
          refine wpAnyH_take (i := 3) (oi := ?oik95) (v := ?vk95) ?hik95 (by kernel_rfl) (by kernel_rfl) (by kernel_rfl) ?hQk95 (Or.inl ⟨?hwk95, ?hyk95⟩) (by assumption) ?restk95
          case hik95 => simp only [List.getElem?_toArray, List.getElem?_cons_succ, List.getElem?_cons_zero]; exact rfl
          case hQk95 => exact fun _ _ _ h => h
          case hwk95 => rfl
          case hyk95 => ((intro w hSw; obtain ⟨c0, c1, c2, c3⟩ := bcell4 hSw.four; go_simp) <;> with_reducible rfl)
          try simp only [Act.put, List.setIfInBounds_toArray, List.set_cons_zero, List.set_cons_succ]
          refine wpAnyH_take (i := 4) (oi := ?oik96) (v := ?vk96) ?hik96 (by kernel_rfl) (by kernel_rfl) (by kernel_rfl) ?hQk96 (Or.inl ⟨?hwk96, ?hyk96⟩) (by assumption) ?restk96
          case hik96 => simp only [List.getElem?_toArray, List.getElem?_cons_succ, List.getElem?_cons_zero]; exact rfl
          case hQk96 => exact fun _ _ _ h => h
          case hwk96 => rfl
          case hyk96 => ((intro w hSw; obtain ⟨c0, c1, c2, c3, c4, c5, c6, c7⟩ := bcell8 hSw.three; go_simp) <;> with_reducible rfl)
          try simp only [Act.put, List.setIfInBounds_toArray, List.set_cons_zero, List.set_cons_succ]
          refine wpAnyH_take (i := 5) (oi := ?oik97) (v := ?vk97) ?hik97 (by kernel_rfl) (by kernel_rfl) (by kernel_rfl) ?hQk97 (Or.inl ⟨?hwk97, ?hyk97⟩) (by assumption) ?restk97
          case hik97 => simp only [List.getElem?_toArray, List.getElem?_cons_succ, List.getElem?_cons_zero]; exact rfl
          case hQk97 => exact fun _ _ _ h => h
          case hwk97 => rfl
          case hyk97 => ((intro w hSw; obtain ⟨c0, c1, c2⟩ := bcell3 hSw.one; go_simp) <;> with_reducible rfl)
          try simp only [Act.put, List.setIfInBounds_toArray, List.set_cons_zero, List.set_cons_succ]
          refine wpAnyH_ready (rs := [6]) (by kernel_rfl) (by simp) ?_
          refine AllReadyH.cons (o := ?or98_6) ?hor98_6 (fun K hK => ?stepr98_6) (AllReadyH.nil)
          case hor98_6 => simp only [List.getElem?_toArray, List.getElem?_cons_succ, List.getElem?_cons_zero]; exact rfl
          case stepr98_6 =>
            go_simp
            refine (HO.out w1).mono ?_
            rintro e v100 ⟨rfl, hb101⟩
            have hk102 := hK0.upto (Nat.le_refl _) hb101
            refine hK.out _ _ ?hSq99 (fun hHeld => ?restq99)
            case hSq99 => exact hk102
            clear hK K hb101 hK0
            try simp only [Act.put, List.setIfInBounds_toArray, List.set_cons_zero, List.set_cons_succ]
            refine wpAnyH_done (by kernel_rfl) ?_ _
            go_wp2_with fail
            go_ret
            exact ⟨ret_int (by rw [HV.out, alC, if_neg (by have := D1.out; omega), if_pos (by have := D2.out; omega)]), hk102.bel⟩
        · skip
          go_wp2_with fail
          go_upto_region 12 with fail
          refine wp_region_held_drew (S := Keeps w.heap.size w [(G, (.cells #[.int .i64 has, .int .i64 b, .int .i64 s] 72)), (w.heap.size, (.cells #[.slice A n c, .slice I i d] 31)), (w.heap.size + 1 + 1, (.cells #[.int .i64 k1, .int .i64 k2, .int .i64 k3, .int .i64 k4, .int .i64 k5, .int .i64 k6, .int .i64 k7, .int .i64 k8] 44)), (w.heap.size + 1, (.cells #[.int .i64 ra, .int .i64 rs, .int .i64 ro, .int .i64 rl] 42)), (GX, (.cells #[.nilFunc, .nilFunc, .func (.func 47) #[] #[], .func (.func 48) #[] #[], .func (.func 49) #[] #[]] 79))]) (by kernel_rfl) ?hSt4 (fun hHeld => ?restt4)
          case hSt4 => exact hK0.drew
          replace hK0 := hK0.drew
          generalize wr.drew = w1 at *
          refine wpAnyH_take (i := 0) (oi := ?oik103) (v := ?vk103) ?hik103 (by kernel_rfl) (by kernel_rfl) (by kernel_rfl) ?hQk103 (Or.inl ⟨?hwk103, ?hyk103⟩) (by assumption) ?restk103
          case hik103 => simp only [List.getElem?_toArray, List.getElem?_cons_succ, List.getElem?_cons_zero]; exact rfl
          case hQk103 => exact fun _ _ _ h => h
          case hwk103 => rfl
          case hyk103 => ((intro w hSw; go_simp) <;> with_reducible rfl)
          try simp only [Act.put, List.setIfInBounds_toArray, List.set_cons_zero, List.set_cons_succ]
          refine wpAnyH_take (i := 1) (oi := ?oik104) (v := ?vk104) ?hik104 (by kernel_rfl) (by kernel_rfl) (by kernel_rfl) ?hQk104 (Or.inl ⟨?hwk104, ?hyk104⟩) (by assumption) ?restk104
          case hik104 => simp only [List.getElem?_toArray, List.getElem?_cons_succ, List.getElem?_cons_zero]; exact rfl
          case hQk104 => exact fun _ _ _ h => h
          case hwk104 => rfl
          case hyk104 => ((intro w hSw; go_simp) <;> with_reducible rfl)
          try simp only [Act.put, List.setIfInBounds_toArray, List.set_cons_zero, List.set_cons_succ]
          refine wpAnyH_take (i := 2) (oi := ?oik105) (v := ?vk105) ?hik105 (by kernel_rfl) (by kernel_rfl) (by kernel_rfl) ?hQk105 (Or.inl ⟨?hwk105, ?hyk105⟩) (by assumption) ?restk105
          case hik105 => simp only [List.getElem?_toArray, List.getElem?_cons_succ, List.getElem?_cons_zero]; exact rfl
          case hQk105 => exact fun _ _ _ h => h
          case hwk105 => rfl
          case hyk105 => ((intro w hSw; obtain ⟨c0, c1, c2, c3, c4⟩ := bcell5 hSw.five; go_simp) <;> with_reducible rfl)
          try simp only [Act.put, List.setIfInBounds_toArray, List.set_cons_zero, List.set_cons_succ]
          refine wpAnyH_take (i := 3) (oi := ?oik106) (v := ?vk106) ?hik106 (by kernel_rfl) (by kernel_rfl) (by kernel_rfl) ?hQk106 (Or.inl ⟨?hwk106, ?hyk106⟩) (by assumption) ?restk106
          case hik106 => simp only [List.getElem?_toArray, List.getElem?_cons_succ, List.getElem?_cons_zero]; exact rfl
          case hQk106 => exact fun _ _ _ h => h
          case hwk106 => rfl
          case hyk106 => ((intro w hSw; obtain ⟨c0, c1, c2, c3⟩ := bcell4 hSw.four; go_simp) <;> with_reducible rfl)
          try simp only [Act.put, List.setIfInBounds_toArray, List.set_cons_zero, List.set_cons_succ]
          refine wpAnyH_take (i := 4) (oi := ?oik107) (v := ?vk107) ?hik107 (by kernel_rfl) (by kernel_rfl) (by kernel_rfl) ?hQk107 (Or.inl ⟨?hwk107, ?hyk107⟩) (by assumption) ?restk107
          case hik107 => simp only [List.getElem?_toArray, List.getElem?_cons_succ, List.getElem?_cons_zero]; exact rfl
          case hQk107 => exact fun _ _ _ h => h
          case hwk107 => rfl
          case hyk107 => ((intro w hSw; obtain ⟨c0, c1, c2, c3, c4, c5, c6, c7⟩ := bcell8 hSw.three; go_simp) <;> with_reducible rfl)
          try simp only [Act.put, List.setIfInBounds_toArray, List.set_cons_zero, List.set_cons_succ]
          refine wpAnyH_take (i := 5) (oi := ?oik108) (v := ?vk108) ?hik108 (by kernel_rfl) (by kernel_rfl) (by kernel_rfl) ?hQk108 (Or.inl ⟨?hwk108, ?hyk108⟩) (by assumption) ?restk108
          case hik108 => simp only [List.getElem?_toArray, List.getElem?_cons_succ, List.getElem?_cons_zero]; exact rfl
          case hQk108 => exact fun _ _ _ h => h
          case hwk108 => rfl
          case hyk108 => ((intro w hSw; obtain ⟨c0, c1, c2⟩ := bcell3 hSw.one; go_simp) <;> with_reducible rfl)
          try simp only [Act.put, List.setIfInBounds_toArray, List.set_cons_zero, List.set_cons_succ]
          refine wpAnyH_ready (rs := [6]) (by kernel_rfl) (by simp) ?_
          refine AllReadyH.cons (o := ?or109_6) ?hor109_6 (fun K hK => ?stepr109_6) (AllReadyH.nil)
          case hor109_6 => simp only [List.getElem?_toArray, List.getElem?_cons_succ, List.getElem?_cons_zero]; exact rfl
          case stepr109_6 =>
            go_simp
            refine (HO.out w1).mono ?_
            rintro e v111 ⟨rfl, hb112⟩
            have hk113 := hK0.upto (Nat.le_refl _) hb112
            refine hK.out _ _ ?hSq110 (fun hHeld => ?restq110)
            case hSq110 => exact hk113
            clear hK K hb112 hK0
            try simp only [Act.put, List.setIfInBounds_toArray, List.set_cons_zero, List.set_cons_succ]
            refine wpAnyH_done (by kernel_rfl) ?_ _
            go_wp2_with fail
            go_roundw
            case rel => exact ⟨4, rfl, by simp, hk113⟩
            case measure => simp [intOf]
      · have D1 : Hid (¬ rs < k7) := Lib.hid (of_decide_eq_false HSB.out)
        have D2 : Hid (¬ ro < b + s) := Lib.hid (of_decide_eq_false HOB.out)
        rcases Bool.eq_false_or_eq_true LB with rfl | rfl
        · have D3 : Hid (rl < has + b ∨ has - s < -rl) := Lib.hid (by simpa using HLB.out)
          go_wp2_with fail
          go_upto_region 12 with fail
          refine wp_region_held_drew (S := Keeps w.heap.size w [(G, (.cells #[.int .i64 has, .int .i64 b, .int .i64 s] 72)), (w.heap.size, (.cells #[.slice A n c, .slice I i d] 31)), (w.heap.size + 1 + 1, (.cells #[.int .i64 k1, .int .i64 k2, .int .i64 k3, .int .i64 k4, .int .i64 k5, .int .i64 k6, .int .i64 k7, .int .i64 k8] 44)), (w.heap.size + 1, (.cells #[.int .i64 ra, .int .i64 rs, .int .i64 ro, .int .i64 rl] 42)), (GX, (.cells #[.nilFunc, .nilFunc, .func (.func 47) #[] #[], .func (.func 48) #[] #[], .func (.func 49) #[] #[]] 79))]) (by kernel_rfl) ?hSt5 (fun hHeld => ?restt5)
          case hSt5 => exact hK0.drew
          replace hK0 := hK0.drew
          generalize wr.drew = w1 at *
          refine wpAnyH_take (i := 0) (oi := ?oik114) (v := ?vk114) ?hik114 (by kernel_rfl) (by kernel_rfl) (by kernel_rfl) ?hQk114 (Or.inl ⟨?hwk114, ?hyk114⟩) (by assumption) ?restk114
          case hik114 => simp only [List.getElem?_toArray, List.getElem?_cons_succ, List.getElem?_cons_zero]; exact rfl
          case hQk114 => exact fun _ _ _ h => h
          case hwk114 => rfl
          case hyk114 => ((intro w hSw; go_simp) <;> with_reducible rfl)
          try simp only [Act.put, List.setIfInBounds_toArray, List.set_cons_zero, List.set_cons_succ]
          refine wpAnyH_take (i := 1) (oi := ?oik115) (v := ?vk115) ?hik115 (by kernel_rfl) (by kernel_rfl) (by kernel_rfl) ?hQk115 (Or.inl ⟨?hwk115, ?hyk115⟩) (by assumption) ?restk115
          case hik115 => simp only [List.getElem?_toArray, List.getElem?_cons_succ, List.getElem?_cons_zero]; exact rfl
          case hQk115 => exact fun _ _ _ h => h
          case hwk115 => rfl
          case hyk115 => ((intro w hSw; go_simp) <;> with_reducible rfl)
          try simp only [Act.put, List.setIfInBounds_toArray, List.set_cons_zero, List.set_cons_succ]
          refine wpAnyH_take (i := 2) (oi := ?oik116) (v := ?vk116) ?hik116 (by kernel_rfl) (by kernel_rfl) (by kernel_rfl) ?hQk116 (Or.inl ⟨?hwk116, ?hyk116⟩) (by assumption) ?restk116
          case hik116 => simp only [List.getElem?_toArray, List.getElem?_cons_succ, List.getElem?_cons_zero]; exact rfl
          case hQk116 => exact fun _ _ _ h => h
          case hwk116 => rfl
          case hyk116 => ((intro w hSw; obtain ⟨c0, c1, c2, c3, c4⟩ := bcell5 hSw.five; go_simp) <;> with_reducible rfl)
          try simp only [Act.put, List.setIfInBounds_toArray, List.set_cons_zero, List.set_cons_succ]
          refine wpAnyH_take (i := 3) (oi := ?oik117) (v := ?vk117) ?hik117 (by kernel_rfl) (by kernel_rfl) (by kernel_rfl) ?hQk117 (Or.inl ⟨?hwk117, ?hyk117⟩) (by assumption) ?restk117
          case hik117 => simp only [List.getElem?_toArray, List.getElem?_cons_succ, List.getElem?_cons_zero]; exact rfl
          case hQk117 => exact fun _ _ _ h => h
          case hwk117 => rfl
          case hyk117 => ((intro w hSw; obtain ⟨c0, c1, c2, c3⟩ := bcell4 hSw.four; go_simp) <;> with_reducible rfl)
          try simp only [Act.put, List.setIfInBounds_toArray, List.set_cons_zero, List.set_cons_succ]
          refine wpAnyH_take (i := 4) (oi := ?oik118) (v := ?vk118) ?hik118 (by kernel_rfl) (by kernel_rfl) (by kernel_rfl) ?hQk118 (Or.inl ⟨?hwk118, ?hyk118⟩) (by assumption) ?restk118
          case hik118 => simp only [List.getElem?_toArray, List.getElem?_cons_succ, List.getElem?_cons_zero]; exact rfl
          case hQk118 => exact fun _ _ _ h => h
          case hwk118 => rfl
          case hyk118 => ((intro w hSw; obtain ⟨c0, c1, c2, c3, c4, c5, c6, c7⟩ := bcell8 hSw.three; go_simp) <;> with_reducible rfl)
          try simp only [Act.put, List.setIfInBounds_toArray, List.set_cons_zero, List.set_cons_succ]
          refine wpAnyH_take (i := 5) (oi := ?oik119) (v := ?vk119) ?hik119 (by kernel_rfl) (by kernel_rfl) (by kernel_rfl) ?hQk119 (Or.inl ⟨?hwk119, ?hyk119⟩) (by assumption) ?restk119
          case hik119 => simp only [List.getElem?_toArray, List.getElem?_cons_succ, List.getElem?_cons_zero]; exact rfl
          case hQk119 => exact fun _ _ _ h => h
          case hwk119 => rfl
          case hyk119 => ((intro w hSw; obtain ⟨c0, c1, c2⟩ := bcell3 hSw.one; go_simp) <;> with_reducible rfl)
          try simp only [Act.put, List.setIfInBounds_toArray, List.set_cons_zero, List.set_cons_succ]
          refine wpAnyH_ready (rs := [6]) (by kernel_rfl) (by simp) ?_
          refine AllReadyH.cons (o := ?or120_6) ?hor120_6 (fun K hK => ?stepr120_6) (AllReadyH.nil)
          case hor120_6 => simp only [List.getElem?_toArray, List.getElem?_cons_succ, List.getElem?_cons_zero]; exact rfl
          case stepr120_6 =>
            go_simp
            refine (HL.out w1).mono ?_
            rintro e v122 ⟨rfl, hb123⟩
            have hk124 := hK0.upto (Nat.le_refl _) hb123
            refine hK.out _ _ ?hSq121 (fun hHeld => ?restq121)
            case hSq121 => exact hk124
            clear hK K hb123 hK0
            try simp only [Act.put, List.setIfInBounds_toArray, List.set_cons_zero, List.set_cons_succ]
            refine wpAnyH_done (by kernel_rfl) ?_ _
            go_wp2_with fail
            go_ret
            exact ⟨ret_int (by rw [HV.out, alC, if_neg (by have := D1.out; omega), if_neg (by have := D2.out; omega), if_pos (by have := D3.out; omega)]), hk124.bel⟩
        · skip
          go_wp2_with fail
          go_upto_region 12 with fail
          refine wp_region_held_drew (S := Keeps w.heap.size w [(G, (.cells #[.int .i64 has, .int .i64 b, .int .i64 s] 72)), (w.heap.size, (.cells #[.slice A n c, .slice I i d] 31)), (w.heap.size + 1 + 1, (.cells #[.int .i64 k1, .int .i64 k2, .int .i64 k3, .int .i64 k4, .int .i64 k5, .int .i64 k6, .int .i64 k7, .int .i64 k8] 44)), (w.heap.size + 1, (.cells #[.int .i64 ra, .int .i64 rs, .int .i64 ro, .int .i64 rl] 42)), (GX, (.cells #[.nilFunc, .nilFunc, .func (.func 47) #[] #[], .func (.func 48) #[] #[], .func (.func 49) #[] #[]] 79))]) (by kernel_rfl) ?hSt6 (fun hHeld => ?restt6)
          case hSt6 => exact hK0.drew
          replace hK0 := hK0.drew
          generalize wr.drew = w1 at *
          refine wpAnyH_take (i := 0) (oi := ?oik125) (v := ?vk125) ?hik125 (by kernel_rfl) (by kernel_rfl) (by kernel_rfl) ?hQk125 (Or.inl ⟨?hwk125, ?hyk125⟩) (by assumption) ?restk125
          case hik125 => simp only [List.getElem?_toArray, List.getElem?_cons_succ, List.getElem?_cons_zero]; exact rfl
          case hQk125 => exact fun _ _ _ h => h
          case hwk125 => rfl
          case hyk125 => ((intro w hSw; go_simp) <;> with_reducible rfl)
          try simp only [Act.put, List.setIfInBounds_toArray, List.set_cons_zero, List.set_cons_succ]
          refine wpAnyH_take (i := 1) (oi := ?oik126) (v := ?vk126) ?hik126 (by kernel_rfl) (by kernel_rfl) (by kernel_rfl) ?hQk126 (Or.inl ⟨?hwk126, ?hyk126⟩) (by assumption) ?restk126
          case hik126 => simp only [List.getElem?_toArray, List.getElem?_cons_succ, List.getElem?_cons_zero]; exact rfl
          case hQk126 => exact fun _ _ _ h => h
          case hwk126 => rfl
          case hyk126 => ((intro w hSw; go_simp) <;> with_reducible rfl)
          try simp only [Act.put, List.setIfInBounds_toArray, List.set_cons_zero, List.set_cons_succ]
          refine wpAnyH_take (i := 2) (oi := ?oik127) (v := ?vk127) ?hik127 (by kernel_rfl) (by kernel_rfl) (by kernel_rfl) ?hQk127 (Or.inl ⟨?hwk127, ?hyk127⟩) (by assumption) ?restk127
          case hik127 => simp only [List.getElem?_toArray, List.getElem?_cons_succ, List.getElem?_cons_zero]; exact rfl
          case hQk127 => exact fun _ _ _ h => h
          case hwk127 => rfl
          case hyk127 => ((intro w hSw; obtain ⟨c0, c1, c2, c3, c4⟩ := bcell5 hSw.five; go_simp) <;> with_reducible rfl)
          try simp only [Act.put, List.setIfInBounds_toArray, List.set_cons_zero, List.set_cons_succ]
          refine wpAnyH_take (i := 3) (oi := ?oik128) (v := ?vk128) ?hik128 (by kernel_rfl) (by kernel_rfl) (by kernel_rfl) ?hQk128 (Or.inl ⟨?hwk128, ?hyk128⟩) (by assumption) ?restk128
          case hik128 => simp only [List.getElem?_toArray, List.getElem?_cons_succ, List.getElem?_cons_zero]; exact rfl
          case hQk128 => exact fun _ _ _ h => h
          case hwk128 => rfl
          case hyk128 => ((intro w hSw; obtain ⟨c0, c1, c2, c3⟩ := bcell4 hSw.four; go_simp) <;> with_reducible rfl)
          try simp only [Act.put, List.setIfInBounds_toArray, List.set_cons_zero, List.set_cons_succ]
          refine wpAnyH_take (i := 4) (oi := ?oik129) (v := ?vk129) ?hik129 (by kernel_rfl) (by kernel_rfl) (by kernel_rfl) ?hQk129 (Or.inl ⟨?hwk129, ?hyk129⟩) (by assumption) ?restk129
          case hik129 => simp only [List.getElem?_toArray, List.getElem?_cons_succ, List.getElem?_cons_zero]; exact rfl
          case hQk129 => exact fun _ _ _ h => h
          case hwk129 => rfl
          case hyk129 => ((intro w hSw; obtain ⟨c0, c1, c2, c3, c4, c5, c6, c7⟩ := bcell8 hSw.three; go_simp) <;> with_reducible rfl)
          try simp only [Act.put, List.setIfInBounds_toArray, List.set_cons_zero, List.set_cons_succ]
          refine wpAnyH_take (i := 5) (oi := ?oik130) (v := ?vk130) ?hik130 (by kernel_rfl) (by kernel_rfl) (by kernel_rfl) ?hQk130 (Or.inl ⟨?hwk130, ?hyk130⟩) (by assumption) ?restk130
          case hik130 => simp only [List.getElem?_toArray, List.getElem?_cons_succ, List.getElem?_cons_zero]; exact rfl
          case hQk130 => exact fun _ _ _ h => h
          case hwk130 => rfl
          case hyk130 => ((intro w hSw; obtain ⟨c0, c1, c2⟩ := bcell3 hSw.one; go_simp) <;> with_reducible rfl)
          try simp only [Act.put, List.setIfInBounds_toArray, List.set_cons_zero, List.set_cons_succ]
          refine wpAnyH_ready (rs := [6]) (by kernel_rfl) (by simp) ?_
          refine AllReadyH.cons (o := ?or131_6) ?hor131_6 (fun K hK => ?stepr131_6) (AllReadyH.nil)
          case hor131_6 => simp only [List.getElem?_toArray, List.getElem?_cons_succ, List.getElem?_cons_zero]; exact rfl
          case stepr131_6 =>
            go_simp
            refine (HL.out w1).mono ?_
            rintro e v133 ⟨rfl, hb134⟩
            have hk135 := hK0.upto (Nat.le_refl _) hb134
            refine hK.out _ _ ?hSq132 (fun hHeld => ?restq132)
            case hSq132 => exact hk135
            clear hK K hb134 hK0
            try simp only [Act.put, List.setIfInBounds_toArray, List.set_cons_zero, List.set_cons_succ]
            refine wpAnyH_done (by kernel_rfl) ?_ _
            go_wp2_with fail
            go_roundw
            case rel => exact ⟨5, rfl, by simp, hk135⟩
            case measure => simp [intOf]
      · have D1 : Hid (¬ rs < k7) := Lib.hid (of_decide_eq_false HSB.out)
        have D2 : Hid (¬ ro < b + s) := Lib.hid (of_decide_eq_false HOB.out)
        have D3 : Hid (¬ (rl < has + b ∨ has - s < -rl)) := Lib.hid (by
          have h := HLB.out
          simp only [Bool.or_eq_false_iff, decide_eq_false_iff_not] at h
          exact fun e => e.elim h.1 h.2)
        go_wp2_with fail
        go_ret
        exact ⟨ret_int (by rw [HV.out, alC, if_neg (by have := D1.out; omega), if_neg (by have := D2.out; omega), if_neg (by have := D3.out; omega)]), hK0.bel⟩
end Go.Proofs.Ytmbafeiacaamoaa
