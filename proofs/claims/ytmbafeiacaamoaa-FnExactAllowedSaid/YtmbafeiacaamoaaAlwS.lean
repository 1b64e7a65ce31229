/-
  What is allowed, in the document's program.
-/
import Derived.Test.YtmbafeiacaamoaaWorst
import Derived.Test.YtmbafeiacaamoaaCmdS
namespace Go.Proofs.Ytmbafeiacaamoaa
open Go.RowKit Wire

/-- the limits are right -/
def rkB (rs ro rl : Int) : Bool := inB 0 rs 1000000 && (inB 0 ro 1000000000 && inB 0 rl 1000000000)
/-- the code of an order: what it would buy and sell with it, its quantity, the limits, the position -/
def alC (b s qty rs ro rl has : Int) : Int := if rs < qty then 2 else if ro < b + s then 3 else if rl < has + b ∨ has - s < -rl then 4 else 0
def alT (q : Int × Int) (side qty rs ro rl has : Int) : Int := if side = 1 then alC (q.1 + qty) q.2 qty rs ro rl has else alC q.1 (q.2 + qty) qty rs ro rl has
/-- everything is right: the engine, the limits, the command, its account and its kind, the position -/
def alB (e : Bool) (ra rs ro rl k1 k2 k3 k4 k5 k6 k7 k8 has : Int) : Bool := e && (rkB rs ro rl && (cmdB k1 k2 k3 k4 k5 k6 k7 k8 && (inB (-1000000000) has 1000000000 && (k3 == ra && !(k1 == 7)))))
def alV (bs : List (List Int × List Int)) (n i : Nat) (is : List Int) (ra rs ro rl k1 k2 k3 k4 k5 k6 k7 k8 has : Int) : Int :=
  if alB (engB bs n i is) ra rs ro rl k1 k2 k3 k4 k5 k6 k7 k8 has then (if 5 < k1 then 0 else alT (opQ bs n i is k3 k2) k5 k7 rs ro rl has) else 1
theorem alV_no {bs : List (List Int × List Int)} {n i : Nat} {is : List Int} {ra rs ro rl k1 k2 k3 k4 k5 k6 k7 k8 has : Int} (h : alB (engB bs n i is) ra rs ro rl k1 k2 k3 k4 k5 k6 k7 k8 has = false) : alV bs n i is ra rs ro rl k1 k2 k3 k4 k5 k6 k7 k8 has = 1 := by rw [alV, h]; rfl
theorem alV_yes {bs : List (List Int × List Int)} {n i : Nat} {is : List Int} {ra rs ro rl k1 k2 k3 k4 k5 k6 k7 k8 has : Int} (h : alB (engB bs n i is) ra rs ro rl k1 k2 k3 k4 k5 k6 k7 k8 has = true) : alV bs n i is ra rs ro rl k1 k2 k3 k4 k5 k6 k7 k8 has = if 5 < k1 then 0 else alT (opQ bs n i is k3 k2) k5 k7 rs ro rl has := by rw [alV, if_pos h]
theorem alw_acct {k1 k2 k3 k4 k5 k6 k7 k8 : Int} (h : cmdB k1 k2 k3 k4 k5 k6 k7 k8 = true) : inB 1 k3 100 = true := by
  unfold cmdB at h
  simp only [Bool.and_eq_true] at h
  exact h.2.1
theorem alB_parts {e : Bool} {ra rs ro rl k1 k2 k3 k4 k5 k6 k7 k8 has : Int} (h : alB e ra rs ro rl k1 k2 k3 k4 k5 k6 k7 k8 has = true) : e = true ∧ rkB rs ro rl = true ∧ cmdB k1 k2 k3 k4 k5 k6 k7 k8 = true ∧ inB (-1000000000) has 1000000000 = true ∧ k3 = ra ∧ ¬ k1 = 7 := by
  unfold alB at h
  simp only [Bool.and_eq_true, beq_iff_eq, Bool.not_eq_true', beq_eq_false_iff_ne, ne_eq] at h
  exact ⟨h.1, h.2.1, h.2.2.1, h.2.2.2.1, h.2.2.2.2.1, h.2.2.2.2.2⟩
theorem alB_all {e : Bool} {ra rs ro rl k1 k2 k3 k4 k5 k6 k7 k8 has : Int} (h1 : e = true) (h2 : rkB rs ro rl = true) (h3 : cmdB k1 k2 k3 k4 k5 k6 k7 k8 = true) (h4 : inB (-1000000000) has 1000000000 = true) (h5 : k3 = ra) (h6 : ¬ k1 = 7) : alB e ra rs ro rl k1 k2 k3 k4 k5 k6 k7 k8 has = true := by
  unfold alB
  rw [h1, h2, h3, h4]
  simp [h5, h6]
theorem alV_bad {bs : List (List Int × List Int)} {n i : Nat} {is : List Int} {ra rs ro rl k1 k2 k3 k4 k5 k6 k7 k8 has : Int} (h : alB (engB bs n i is) ra rs ro rl k1 k2 k3 k4 k5 k6 k7 k8 has = true → False) : alV bs n i is ra rs ro rl k1 k2 k3 k4 k5 k6 k7 k8 has = 1 := by
  rcases Bool.eq_false_or_eq_true (alB (engB bs n i is) ra rs ro rl k1 k2 k3 k4 k5 k6 k7 k8 has) with ha | ha
  · exact (h ha).elim
  · exact alV_no ha
/-- an order's fields -/
theorem alw_ord {k1 k2 k3 k4 k5 k6 k7 k8 : Int} (h : cmdB k1 k2 k3 k4 k5 k6 k7 k8 = true) (h5 : k1 ≤ 5) : (0 ≤ k2 ∧ k2 ≤ 3) ∧ (k5 = 1 ∨ k5 = 2) ∧ (1 ≤ k7 ∧ k7 ≤ 1000000) := by
  have e5 : decide (k1 ≤ 5) = true := decide_eq_true h5
  have e7 : decide (k1 ≤ 7) = true := decide_eq_true (by omega)
  unfold cmdB at h
  rw [e5, e7] at h
  simp only [Bool.and_eq_true, Bool.true_or, cfB, if_true, inB, decide_eq_true_eq] at h
  omega
set_option maxHeartbeats 400000 in
theorem spec_l14Risk (ra rs ro rl : Int) (w : World) :
    Calls Try.prog 41 #[.agg #[.int .i64 ra, .int .i64 rs, .int .i64 ro, .int .i64 rl]] w fun e w' => e = .returned (.bool (inB 1 ra 100 && rkB rs ro rl)) ∧ Below w.heap.size w w' := by
  go_enter Try.func41, Try.ntmps41
  go_wp2_with (first | (go_at_call 51; refine (eng_l1Acct _ _).mono ?_; rintro e w' ⟨rfl, rfl⟩) | (go_at_call 29; refine (l1In_any _ _ _ _).mono ?_; rintro e w' ⟨rfl, rfl⟩))
  all_goals
    go_ret
    refine ⟨ret_bool ?_, (Below.refl _ _).alloc (Nat.le_refl _) _⟩
    simp [rkB, *]
set_option maxHeartbeats 400000 in
theorem impl_riskOk (ra rs ro rl : Int) (w : World) :
    Calls Try.prog 44 #[.agg #[.int .i64 ra, .int .i64 rs, .int .i64 ro, .int .i64 rl]] w fun e w' => e = .returned (.bool (rkB rs ro rl)) ∧ Below w.heap.size w w' := by
  go_enter Try.func44, Try.ntmps44
  go_wp2_with (go_at_call 33; refine (within_any _ _ _ _).mono ?_; rintro e w' ⟨rfl, rfl⟩)
  all_goals
    go_ret
    refine ⟨ret_bool ?_, (Below.refl _ _).alloc (Nat.le_refl _) _⟩
    simp [rkB, *]
set_option linter.unusedSimpArgs false in
set_option maxHeartbeats 1600000 in
set_option maxRecDepth 100000 in
theorem spec_l14Allowed (A : Option Addr) (n c : Nat) (I : Option Addr) (i d : Nat) (bs : List (List Int × List Int)) (is : List Int) (ra rs ro rl k1 k2 k3 k4 k5 k6 k7 k8 has : Int) (w : World) (h : EngS w w.heap.size A n I i d bs is) (he : engB bs n i is = true) (hr : rkB rs ro rl = true) (hc : cmdB k1 k2 k3 k4 k5 k6 k7 k8 = true) (hp : inB (-1000000000) has 1000000000 = true) :
    Calls Try.prog 43 #[.agg #[.slice A n c, .slice I i d], .agg #[.int .i64 ra, .int .i64 rs, .int .i64 ro, .int .i64 rl], .agg #[.int .i64 k1, .int .i64 k2, .int .i64 k3, .int .i64 k4, .int .i64 k5, .int .i64 k6, .int .i64 k7, .int .i64 k8], .int .i64 has] w fun e w' => e = .returned (.int .i64 (if 5 < k1 then 0 else alT (opQ bs n i is k3 k2) k5 k7 rs ro rl has)) ∧ Below w.heap.size w w' := by
  have hb0 : Below w.heap.size w (((w.alloc (.cells #[.slice A n c, .slice I i d] 31)).alloc (.cells #[.int .i64 ra, .int .i64 rs, .int .i64 ro, .int .i64 rl] 42)).alloc (.cells #[.int .i64 k1, .int .i64 k2, .int .i64 k3, .int .i64 k4, .int .i64 k5, .int .i64 k6, .int .i64 k7, .int .i64 k8] 44)) := (((Below.refl _ _).alloc (Nat.le_refl _) _).alloc (by simp) _).alloc (by simp; omega) _
  obtain ⟨t0, t1, t2⟩ := three_blocks w (.cells #[.slice A n c, .slice I i d] 31) (.cells #[.int .i64 ra, .int .i64 rs, .int .i64 ro, .int .i64 rl] 42) (.cells #[.int .i64 k1, .int .i64 k2, .int .i64 k3, .int .i64 k4, .int .i64 k5, .int .i64 k6, .int .i64 k7, .int .i64 k8] 44)
  have hs0 : (((w.alloc (.cells #[.slice A n c, .slice I i d] 31)).alloc (.cells #[.int .i64 ra, .int .i64 rs, .int .i64 ro, .int .i64 rl] 42)).alloc (.cells #[.int .i64 k1, .int .i64 k2, .int .i64 k3, .int .i64 k4, .int .i64 k5, .int .i64 k6, .int .i64 k7, .int .i64 k8] 44)).heap.size = w.heap.size + 3 := by simp
  have h0 := h.later hb0
  clear h
  go_enter Try.func43, Try.ntmps43
  by_cases h5 : 5 < k1
  · rw [if_pos h5]
    clear t0 t1 t2 h0
    go_wp2_with fail
    go_ret
    exact ⟨rfl, hb0⟩
  rw [if_neg h5]
  obtain ⟨⟨hs1, hs2⟩, hsd, hq1, hq2⟩ := alw_ord hc (by omega)
  obtain ⟨s, rfl⟩ := Int.eq_ofNat_of_zero_le hs1
  have hn4 := (engB_parts he).1
  have hlen := h0.len
  obtain ⟨x, hx⟩ : ∃ x, bs[s]? = some x := ⟨bs[s]'(by omega), List.getElem?_eq_getElem (by omega)⟩
  obtain ⟨b, o, v1, v2, rfl, hbX, q0, q1, ⟨A1, n1, c1, rfl, l1, hn1, hA1, -⟩, ⟨A2, n2, c2, rfl, l2, hn2, hA2, -⟩⟩ := h0.books s x hx
  obtain ⟨za, zb⟩ := x
  have hbk := engB_book he (show s < n by omega) hx l1.1 l2.1
  have hsm := bookB_small hbk
  have hqt := bookB_qty hbk
  have H := Lib.hid (opQ_yes (acct := k3) he (inB_yes hs1 hs2) hx l1.1 l2.1)
  have g1 := qtO_in (a := k3) hqt.1 n1 (Nat.le_refl _)
  have g2 := qtO_in (a := k3) hqt.2 n2 (Nat.le_refl _)
  have hsn : s < n := by omega
  have ysn : (0 ≤ (s : Int) ∧ (s : Int) < (n : Int)) = True := by simp; omega
  have hp2 := inB_iff.1 hp
  have hr2 : (0 ≤ rs ∧ rs ≤ 1000000) ∧ (0 ≤ ro ∧ ro ≤ 1000000000) ∧ 0 ≤ rl ∧ rl ≤ 1000000000 := by
    unfold rkB at hr
    simp only [Bool.and_eq_true, inB_iff] at hr
    exact hr
  clear he hr hc hp hx hbk hn4 h0 hs1 hs2
  go_wp2_with fail
  generalize (((w.alloc (.cells #[.slice (some ⟨b, o, none⟩) n c, .slice I i d] 31)).alloc (.cells #[.int .i64 ra, .int .i64 rs, .int .i64 ro, .int .i64 rl] 42)).alloc (.cells #[.int .i64 k1, .int .i64 (s : Int), .int .i64 k3, .int .i64 k4, .int .i64 k5, .int .i64 k6, .int .i64 k7, .int .i64 k8] 44)) = w0 at *
  have x0 := cell_of_row w0 (w.heap.size) 0 _ _ (0, 0) t0
  have x1 := cell_of_row w0 (w.heap.size) 1 _ _ (0, 0) t0
  have r0 := cell_of_row w0 (w.heap.size + 1) 0 _ _ (0, 0) t1
  have r1 := cell_of_row w0 (w.heap.size + 1) 1 _ _ (0, 0) t1
  have r2 := cell_of_row w0 (w.heap.size + 1) 2 _ _ (0, 0) t1
  have r3 := cell_of_row w0 (w.heap.size + 1) 3 _ _ (0, 0) t1
  have c0 := cell_of_row w0 (w.heap.size + 1 + 1) 0 _ _ (0, 0) t2
  have c1' := cell_of_row w0 (w.heap.size + 1 + 1) 1 _ _ (0, 0) t2
  have c2' := cell_of_row w0 (w.heap.size + 1 + 1) 2 _ _ (0, 0) t2
  have c3 := cell_of_row w0 (w.heap.size + 1 + 1) 3 _ _ (0, 0) t2
  have c4 := cell_of_row w0 (w.heap.size + 1 + 1) 4 _ _ (0, 0) t2
  have c5 := cell_of_row w0 (w.heap.size + 1 + 1) 5 _ _ (0, 0) t2
  have c6 := cell_of_row w0 (w.heap.size + 1 + 1) 6 _ _ (0, 0) t2
  have c7 := cell_of_row w0 (w.heap.size + 1 + 1) 7 _ _ (0, 0) t2
  simp at x0 x1 r0 r1 r2 r3 c0 c1' c2' c3 c4 c5 c6 c7
  go_upto_region 3 with fail
  refine wp_region_held_drew (S := (fun w' => Below w0.heap.size w0 w' ∧ w'.cell? ⟨w.heap.size, 0, none⟩ = some (.slice (some ⟨b, o, none⟩) n c) ∧ w'.cell? ⟨w.heap.size + 1 + 1, 1, none⟩ = some (.int .i64 (s : Int)) ∧ w'.cell? ⟨w.heap.size + 1 + 1, 2, none⟩ = some (.int .i64 k3) ∧ w'.cell? ⟨b, o + s * 2, none⟩ = some (.slice A1 n1 c1) ∧ w'.cell? ⟨b, o + s * 2 + 1, none⟩ = some (.slice A2 n2 c2))) (by kernel_rfl) ?hSq1xs (fun hHeld => ?restq1xs)
  case hSq1xs => ((first | assumption | ((((try dsimp only); repeat' apply And.intro) <;> (first | assumption | (refine below_later ?_ (by assumption); first | assumption | (simp only [*]; done) | (go_grown; done)) | (refine cell_later (by assumption) ?_; first | assumption | (simp only [*]; done) | (simp [go_sem]; done)) | (go_grown; done) | (simp [go_sem]; done))))))
  refine wpAnyH_take (i := 0) (oi := ?oiq1x1) (v := ?vq1x1) ?hiq1x1 (by kernel_rfl) (by kernel_rfl) (by kernel_rfl) ?hQq1x1 (Or.inl ⟨?hwq1x1, ?hyq1x1⟩) (by assumption) ?restq1x1
  case hiq1x1 => simp only [List.getElem?_toArray, List.getElem?_cons_succ, List.getElem?_cons_zero]; exact rfl
  case hQq1x1 => exact fun _ _ _ h => h
  case hwq1x1 => rfl
  case hyq1x1 => ((intro w hSw; (try dsimp only at hSw); go_simp) <;> with_reducible rfl)
  try simp only [Act.put, List.setIfInBounds_toArray, List.set_cons_zero, List.set_cons_succ]
  refine wpAnyH_take (i := 1) (oi := ?oiq1x2) (v := ?vq1x2) ?hiq1x2 (by kernel_rfl) (by kernel_rfl) (by kernel_rfl) ?hQq1x2 (Or.inl ⟨?hwq1x2, ?hyq1x2⟩) (by assumption) ?restq1x2
  case hiq1x2 => simp only [List.getElem?_toArray, List.getElem?_cons_succ, List.getElem?_cons_zero]; exact rfl
  case hQq1x2 => exact fun _ _ _ h => h
  case hwq1x2 => rfl
  case hyq1x2 => ((intro w hSw; (try dsimp only at hSw); go_simp) <;> with_reducible rfl)
  try simp only [Act.put, List.setIfInBounds_toArray, List.set_cons_zero, List.set_cons_succ]
  refine wpAnyH_take (i := 2) (oi := ?oiq1x3) (v := ?vq1x3) ?hiq1x3 (by kernel_rfl) (by kernel_rfl) (by kernel_rfl) ?hQq1x3 (Or.inl ⟨?hwq1x3, ?hyq1x3⟩) (by assumption) ?restq1x3
  case hiq1x3 => simp only [List.getElem?_toArray, List.getElem?_cons_succ, List.getElem?_cons_zero]; exact rfl
  case hQq1x3 => exact fun _ _ _ h => h
  case hwq1x3 => rfl
  case hyq1x3 => ((intro w hSw; (try dsimp only at hSw); go_simp) <;> with_reducible rfl)
  try simp only [Act.put, List.setIfInBounds_toArray, List.set_cons_zero, List.set_cons_succ]
  refine wpAnyH_take (i := 3) (oi := ?oiq1x4) (v := ?vq1x4) ?hiq1x4 (by kernel_rfl) (by kernel_rfl) (by kernel_rfl) ?hQq1x4 (Or.inl ⟨?hwq1x4, ?hyq1x4⟩) (by assumption) ?restq1x4
  case hiq1x4 => simp only [List.getElem?_toArray, List.getElem?_cons_succ, List.getElem?_cons_zero]; exact rfl
  case hQq1x4 => exact fun _ _ _ h => h
  case hwq1x4 => rfl
  case hyq1x4 => ((intro w hSw; (try dsimp only at hSw); go_simp) <;> with_reducible rfl)
  try simp only [Act.put, List.setIfInBounds_toArray, List.set_cons_zero, List.set_cons_succ]
  refine wpAnyH_take (i := 4) (oi := ?oiq1x5) (v := ?vq1x5) ?hiq1x5 (by kernel_rfl) (by kernel_rfl) (by kernel_rfl) ?hQq1x5 (Or.inl ⟨?hwq1x5, ?hyq1x5⟩) (by assumption) ?restq1x5
  case hiq1x5 => simp only [List.getElem?_toArray, List.getElem?_cons_succ, List.getElem?_cons_zero]; exact rfl
  case hQq1x5 => exact fun _ _ _ h => h
  case hwq1x5 => rfl
  case hyq1x5 => ((intro w hSw; (try dsimp only at hSw); go_simp) <;> with_reducible rfl)
  try simp only [Act.put, List.setIfInBounds_toArray, List.set_cons_zero, List.set_cons_succ]
  refine wpAnyH_take (i := 5) (oi := ?oiq1x6) (v := ?vq1x6) ?hiq1x6 (by kernel_rfl) (by kernel_rfl) (by kernel_rfl) ?hQq1x6 (Or.inl ⟨?hwq1x6, ?hyq1x6⟩) (by assumption) ?restq1x6
  case hiq1x6 => simp only [List.getElem?_toArray, List.getElem?_cons_succ, List.getElem?_cons_zero]; exact rfl
  case hQq1x6 => exact fun _ _ _ h => h
  case hwq1x6 => rfl
  case hyq1x6 => ((intro w hSw; (try dsimp only at hSw); go_simp) <;> with_reducible rfl)
  try simp only [Act.put, List.setIfInBounds_toArray, List.set_cons_zero, List.set_cons_succ]
  refine wpAnyH_take (i := 6) (oi := ?oiq1x7) (v := ?vq1x7) ?hiq1x7 (by kernel_rfl) (by kernel_rfl) (by kernel_rfl) ?hQq1x7 (Or.inl ⟨?hwq1x7, ?hyq1x7⟩) (by assumption) ?restq1x7
  case hiq1x7 => simp only [List.getElem?_toArray, List.getElem?_cons_succ, List.getElem?_cons_zero]; exact rfl
  case hQq1x7 => exact fun _ _ _ h => h
  case hwq1x7 => rfl
  case hyq1x7 => ((intro w hSw; (try dsimp only at hSw); go_simp) <;> with_reducible rfl)
  try simp only [Act.put, List.setIfInBounds_toArray, List.set_cons_zero, List.set_cons_succ]
  refine wpAnyH_take (i := 7) (oi := ?oiq1x8) (v := ?vq1x8) ?hiq1x8 (by kernel_rfl) (by kernel_rfl) (by kernel_rfl) ?hQq1x8 (Or.inl ⟨?hwq1x8, ?hyq1x8⟩) (by assumption) ?restq1x8
  case hiq1x8 => simp only [List.getElem?_toArray, List.getElem?_cons_succ, List.getElem?_cons_zero]; exact rfl
  case hQq1x8 => exact fun _ _ _ h => h
  case hwq1x8 => rfl
  case hyq1x8 => ((intro w hSw; (try dsimp only at hSw); go_simp) <;> with_reducible rfl)
  try simp only [Act.put, List.setIfInBounds_toArray, List.set_cons_zero, List.set_cons_succ]
  refine wpAnyH_ready (rs := [8]) (by kernel_rfl) (by simp) ?_
  refine AllReadyH.cons (o := ?oq1x9) ?hoq1x9 (fun K hK => ?stepq1x9) ?moreq1x9
  case hoq1x9 => simp only [List.getElem?_toArray, List.getElem?_cons_succ, List.getElem?_cons_zero]; exact rfl
  case moreq1x9 => exact AllReadyH.nil
  go_simp
  (go_at_call 30; refine (spec_l14Open A1 n1 c1 A2 n2 c2 za zb k3 _ (l1.later hHeld.1) (l2.later hHeld.1) hsm.1 hsm.2 hqt.1 hqt.2).mono ?_; rintro e w6 ⟨rfl, hb6⟩)
  refine hK.out _ _ ?hSq1x9 (fun hHeld => ?restq1x9)
  case hSq1x9 => ((first | assumption | ((((try dsimp only); repeat' apply And.intro) <;> (first | assumption | (refine below_later ?_ (by assumption); first | assumption | (simp only [*]; done) | (go_grown; done)) | (refine cell_later (by assumption) ?_; first | assumption | (simp only [*]; done) | (simp [go_sem]; done)) | (go_grown; done) | (simp [go_sem]; done))))))
  clear hK K
  try simp only [Act.put, List.setIfInBounds_toArray, List.set_cons_zero, List.set_cons_succ]
  refine wpAnyH_take (i := 9) (oi := ?oiq1x10) (v := ?vq1x10) ?hiq1x10 (by kernel_rfl) (by kernel_rfl) (by kernel_rfl) ?hQq1x10 (Or.inl ⟨?hwq1x10, ?hyq1x10⟩) (by assumption) ?restq1x10
  case hiq1x10 => simp only [List.getElem?_toArray, List.getElem?_cons_succ, List.getElem?_cons_zero]; exact rfl
  case hQq1x10 => exact fun _ _ _ h => h
  case hwq1x10 => rfl
  case hyq1x10 => ((intro w hSw; (try dsimp only at hSw); go_simp) <;> with_reducible rfl)
  try simp only [Act.put, List.setIfInBounds_toArray, List.set_cons_zero, List.set_cons_succ]
  refine wpAnyH_take (i := 10) (oi := ?oiq1x11) (v := ?vq1x11) ?hiq1x11 (by kernel_rfl) (by kernel_rfl) (by kernel_rfl) ?hQq1x11 (Or.inl ⟨?hwq1x11, ?hyq1x11⟩) (by assumption) ?restq1x11
  case hiq1x11 => simp only [List.getElem?_toArray, List.getElem?_cons_succ, List.getElem?_cons_zero]; exact rfl
  case hQq1x11 => exact fun _ _ _ h => h
  case hwq1x11 => rfl
  case hyq1x11 => ((intro w hSw; (try dsimp only at hSw); go_simp) <;> with_reducible rfl)
  try simp only [Act.put, List.setIfInBounds_toArray, List.set_cons_zero, List.set_cons_succ]
  refine wpAnyH_take (i := 11) (oi := ?oiq1x12) (v := ?vq1x12) ?hiq1x12 (by kernel_rfl) (by kernel_rfl) (by kernel_rfl) ?hQq1x12 (Or.inl ⟨?hwq1x12, ?hyq1x12⟩) (by assumption) ?restq1x12
  case hiq1x12 => simp only [List.getElem?_toArray, List.getElem?_cons_succ, List.getElem?_cons_zero]; exact rfl
  case hQq1x12 => exact fun _ _ _ h => h
  case hwq1x12 => rfl
  case hyq1x12 => ((intro w hSw; (try dsimp only at hSw); go_simp) <;> with_reducible rfl)
  try simp only [Act.put, List.setIfInBounds_toArray, List.set_cons_zero, List.set_cons_succ]
  refine wpAnyH_take (i := 12) (oi := ?oiq1x13) (v := ?vq1x13) ?hiq1x13 (by kernel_rfl) (by kernel_rfl) (by kernel_rfl) ?hQq1x13 (Or.inl ⟨?hwq1x13, ?hyq1x13⟩) (by assumption) ?restq1x13
  case hiq1x13 => simp only [List.getElem?_toArray, List.getElem?_cons_succ, List.getElem?_cons_zero]; exact rfl
  case hQq1x13 => exact fun _ _ _ h => h
  case hwq1x13 => rfl
  case hyq1x13 => ((intro w hSw; (try dsimp only at hSw); go_simp) <;> with_reducible rfl)
  try simp only [Act.put, List.setIfInBounds_toArray, List.set_cons_zero, List.set_cons_succ]
  refine wpAnyH_take (i := 13) (oi := ?oiq1x14) (v := ?vq1x14) ?hiq1x14 (by kernel_rfl) (by kernel_rfl) (by kernel_rfl) ?hQq1x14 (Or.inl ⟨?hwq1x14, ?hyq1x14⟩) (by assumption) ?restq1x14
  case hiq1x14 => simp only [List.getElem?_toArray, List.getElem?_cons_succ, List.getElem?_cons_zero]; exact rfl
  case hQq1x14 => exact fun _ _ _ h => h
  case hwq1x14 => rfl
  case hyq1x14 => ((intro w hSw; (try dsimp only at hSw); go_simp) <;> with_reducible rfl)
  try simp only [Act.put, List.setIfInBounds_toArray, List.set_cons_zero, List.set_cons_succ]
  refine wpAnyH_done (by kernel_rfl) ?_ _
  obtain ⟨qa, ha⟩ : ∃ qa, qtO za k3 n1 = qa := ⟨_, rfl⟩
  obtain ⟨qb, hb⟩ : ∃ qb, qtO zb k3 n2 = qb := ⟨_, rfl⟩
  rw [ha, hb] at H
  rw [ha] at g1
  rw [hb] at g2
  rw [ha, hb]
  have hbel := hHeld.1
  have t1' := (hbel.block (w.heap.size + 1) (by omega)).trans t1
  have t2' := (hbel.block (w.heap.size + 1 + 1) (by omega)).trans t2
  have hfin := hb0.trans (hbel.mono hb0.size)
  have r0 := cell_of_row w6 (w.heap.size + 1) 0 _ _ (0, 0) t1'
  have r1 := cell_of_row w6 (w.heap.size + 1) 1 _ _ (0, 0) t1'
  have r2 := cell_of_row w6 (w.heap.size + 1) 2 _ _ (0, 0) t1'
  have r3 := cell_of_row w6 (w.heap.size + 1) 3 _ _ (0, 0) t1'
  have c0 := cell_of_row w6 (w.heap.size + 1 + 1) 0 _ _ (0, 0) t2'
  have c1' := cell_of_row w6 (w.heap.size + 1 + 1) 1 _ _ (0, 0) t2'
  have c2' := cell_of_row w6 (w.heap.size + 1 + 1) 2 _ _ (0, 0) t2'
  have c3 := cell_of_row w6 (w.heap.size + 1 + 1) 3 _ _ (0, 0) t2'
  have c4 := cell_of_row w6 (w.heap.size + 1 + 1) 4 _ _ (0, 0) t2'
  have c5 := cell_of_row w6 (w.heap.size + 1 + 1) 5 _ _ (0, 0) t2'
  have c6 := cell_of_row w6 (w.heap.size + 1 + 1) 6 _ _ (0, 0) t2'
  have c7 := cell_of_row w6 (w.heap.size + 1 + 1) 7 _ _ (0, 0) t2'
  simp at r0 r1 r2 r3 c0 c1' c2' c3 c4 c5 c6 c7
  clear hHeld hbel t0 t1 t2 t1' t2' hb0 x0 x1 q0 q1 ha hb l1 l2
  have G1 : 0 ≤ qa ∧ qa ≤ 20000000 := by omega
  have G2 : 0 ≤ qb ∧ qb ≤ 20000000 := by omega
  clear g1 g2 hsm hqt hs0 hn1 hn2 hA1 hA2
  rcases hsd with rfl | rfl
  · obtain ⟨B, hB, hB2⟩ : ∃ B, qa + k7 = B ∧ (0 ≤ B ∧ B ≤ 21000000) := ⟨_, rfl, by omega⟩
    go_wp2_with fail
    all_goals
      go_ret
      refine ⟨ret_int ?_, hfin⟩
      rw [H.out, alT, if_pos rfl]
      show _ = alC (qa + k7) qb k7 rs ro rl has
      rw [hB]
      unfold alC
      (repeat' split) <;> omega
  · obtain ⟨B, hB, hB2⟩ : ∃ B, qb + k7 = B ∧ (0 ≤ B ∧ B ≤ 21000000) := ⟨_, rfl, by omega⟩
    go_wp2_with fail
    all_goals
      go_ret
      refine ⟨ret_int ?_, hfin⟩
      rw [H.out, alT, if_neg (by omega)]
      show _ = alC qa (qb + k7) k7 rs ro rl has
      rw [hB]
      unfold alC
      (repeat' split) <;> omega
set_option linter.unusedSimpArgs false in
set_option maxHeartbeats 1600000 in
set_option maxRecDepth 100000 in
theorem spec_Allowed (A : Option Addr) (n c : Nat) (I : Option Addr) (i d : Nat) (bs : List (List Int × List Int)) (is : List Int) (ra rs ro rl k1 k2 k3 k4 k5 k6 k7 k8 has : Int) (w : World) (h : EngS w w.heap.size A n I i d bs is) (hn : n ≤ 1048576) (hi : i ≤ 1048576) :
    Calls Try.prog 16 #[.agg #[.slice A n c, .slice I i d], .agg #[.int .i64 ra, .int .i64 rs, .int .i64 ro, .int .i64 rl], .agg #[.int .i64 k1, .int .i64 k2, .int .i64 k3, .int .i64 k4, .int .i64 k5, .int .i64 k6, .int .i64 k7, .int .i64 k8], .int .i64 has] w fun e w' => e = .returned (.int .i64 (alV bs n i is ra rs ro rl k1 k2 k3 k4 k5 k6 k7 k8 has)) ∧ Below w.heap.size w w' := by
  have hb0 : Below w.heap.size w (((w.alloc (.cells #[.slice A n c, .slice I i d] 31)).alloc (.cells #[.int .i64 ra, .int .i64 rs, .int .i64 ro, .int .i64 rl] 42)).alloc (.cells #[.int .i64 k1, .int .i64 k2, .int .i64 k3, .int .i64 k4, .int .i64 k5, .int .i64 k6, .int .i64 k7, .int .i64 k8] 44)) := (((Below.refl _ _).alloc (Nat.le_refl _) _).alloc (by simp) _).alloc (by simp; omega) _
  obtain ⟨t0, t1, t2⟩ := three_blocks w (.cells #[.slice A n c, .slice I i d] 31) (.cells #[.int .i64 ra, .int .i64 rs, .int .i64 ro, .int .i64 rl] 42) (.cells #[.int .i64 k1, .int .i64 k2, .int .i64 k3, .int .i64 k4, .int .i64 k5, .int .i64 k6, .int .i64 k7, .int .i64 k8] 44)
  have hs0 : (((w.alloc (.cells #[.slice A n c, .slice I i d] 31)).alloc (.cells #[.int .i64 ra, .int .i64 rs, .int .i64 ro, .int .i64 rl] 42)).alloc (.cells #[.int .i64 k1, .int .i64 k2, .int .i64 k3, .int .i64 k4, .int .i64 k5, .int .i64 k6, .int .i64 k7, .int .i64 k8] 44)).heap.size = w.heap.size + 3 := by simp
  have h0 := h.later hb0
  clear h
  go_enter Try.func16, Try.ntmps16
  go_wp2_with fail
  generalize (((w.alloc (.cells #[.slice A n c, .slice I i d] 31)).alloc (.cells #[.int .i64 ra, .int .i64 rs, .int .i64 ro, .int .i64 rl] 42)).alloc (.cells #[.int .i64 k1, .int .i64 k2, .int .i64 k3, .int .i64 k4, .int .i64 k5, .int .i64 k6, .int .i64 k7, .int .i64 k8] 44)) = w0 at *
  refine (spec_EngineOk A n c I i d bs is w0 h0 hn hi).mono ?_
  rcases Bool.eq_false_or_eq_true (engB bs n i is) with he | he
  rotate_left
  · rw [he]
    rintro e w1 ⟨rfl, hb1⟩
    have H : Hid (alV bs n i is ra rs ro rl k1 k2 k3 k4 k5 k6 k7 k8 has = 1) := Lib.hid (alV_bad fun ha => by have q := (alB_parts ha).1; rw [he] at q; cases q)
    go_wp2_with fail
    go_ret
    exact ⟨ret_int H.out.symm, hb0.trans (hb1.mono hb0.size)⟩
  rw [he]
  rintro e w1 ⟨rfl, hb1⟩
  have t0 := (hb1.block (w.heap.size) (by omega)).trans t0
  have t1 := (hb1.block (w.heap.size + 1) (by omega)).trans t1
  have t2 := (hb1.block (w.heap.size + 1 + 1) (by omega)).trans t2
  have h1 := h0.later hb1
  have hs1 : w.heap.size + 3 ≤ w1.heap.size := by have := hb1.size; omega
  have hB := hb0.trans (hb1.mono hb0.size)
  have r0 := cell_of_row w1 (w.heap.size + 1) 0 _ _ (0, 0) t1
  have r1 := cell_of_row w1 (w.heap.size + 1) 1 _ _ (0, 0) t1
  have r2 := cell_of_row w1 (w.heap.size + 1) 2 _ _ (0, 0) t1
  have r3 := cell_of_row w1 (w.heap.size + 1) 3 _ _ (0, 0) t1
  simp at r0 r1 r2 r3
  clear h0 hb0 hb1 hs0
  have HE := Lib.hid he
  clear he
  go_wp2_with fail
  refine (spec_l14Risk ra rs ro rl w1).mono ?_
  rcases Bool.eq_false_or_eq_true (inB 1 ra 100 && rkB rs ro rl) with hr | hr
  rotate_left
  · rw [hr]
    have H : Hid (alV bs n i is ra rs ro rl k1 k2 k3 k4 k5 k6 k7 k8 has = 1) := Lib.hid (alV_bad fun ha => by
      have q := alB_parts ha
      have q2 := alw_acct q.2.2.1
      rw [q.2.2.2.2.1] at q2
      rw [q2, q.2.1] at hr
      cases hr)
    rintro e w2 ⟨rfl, hb2⟩
    clear t0 t1 t2 r0 r1 r2 r3 hr
    go_wp2_with fail
    go_ret
    exact ⟨ret_int H.out.symm, hB.trans (hb2.mono hB.size)⟩
  rw [hr]
  rintro e w2 ⟨rfl, hb2⟩
  rw [Bool.and_eq_true] at hr
  have HR := Lib.hid hr
  have t0 := (hb2.block (w.heap.size) (by omega)).trans t0
  have t1 := (hb2.block (w.heap.size + 1) (by omega)).trans t1
  have t2 := (hb2.block (w.heap.size + 1 + 1) (by omega)).trans t2
  have h2 := h1.later hb2
  have hs2 : w.heap.size + 3 ≤ w2.heap.size := by have := hb2.size; omega
  have hB := hB.trans (hb2.mono hB.size)
  have c0 := cell_of_row w2 (w.heap.size + 1 + 1) 0 _ _ (0, 0) t2
  have c1 := cell_of_row w2 (w.heap.size + 1 + 1) 1 _ _ (0, 0) t2
  have c2 := cell_of_row w2 (w.heap.size + 1 + 1) 2 _ _ (0, 0) t2
  have c3 := cell_of_row w2 (w.heap.size + 1 + 1) 3 _ _ (0, 0) t2
  have c4 := cell_of_row w2 (w.heap.size + 1 + 1) 4 _ _ (0, 0) t2
  have c5 := cell_of_row w2 (w.heap.size + 1 + 1) 5 _ _ (0, 0) t2
  have c6 := cell_of_row w2 (w.heap.size + 1 + 1) 6 _ _ (0, 0) t2
  have c7 := cell_of_row w2 (w.heap.size + 1 + 1) 7 _ _ (0, 0) t2
  simp at c0 c1 c2 c3 c4 c5 c6 c7
  clear h1 hb2 hs1 hr r0 r1 r2 r3
  go_wp2_with fail
  refine (spec_CmdOk k1 k2 k3 k4 k5 k6 k7 k8 w2).mono ?_
  rcases Bool.eq_false_or_eq_true (cmdB k1 k2 k3 k4 k5 k6 k7 k8) with hc | hc
  rotate_left
  · rw [hc]
    have H : Hid (alV bs n i is ra rs ro rl k1 k2 k3 k4 k5 k6 k7 k8 has = 1) := Lib.hid (alV_bad fun ha => by have q := (alB_parts ha).2.2.1; rw [hc] at q; cases q)
    rintro e w3 ⟨rfl, hb3⟩
    clear t0 t1 t2 c0 c1 c2 c3 c4 c5 c6 c7 hc
    go_wp2_with fail
    go_ret
    exact ⟨ret_int H.out.symm, hB.trans (hb3.mono hB.size)⟩
  rw [hc]
  rintro e w3 ⟨rfl, hb3⟩
  have HC := Lib.hid hc
  have t0 := (hb3.block (w.heap.size) (by omega)).trans t0
  have t1 := (hb3.block (w.heap.size + 1) (by omega)).trans t1
  have t2 := (hb3.block (w.heap.size + 1 + 1) (by omega)).trans t2
  have h3 := h2.later hb3
  have hB := hB.trans (hb3.mono hB.size)
  have x0 := cell_of_row w3 (w.heap.size) 0 _ _ (0, 0) t0
  have x1 := cell_of_row w3 (w.heap.size) 1 _ _ (0, 0) t0
  have r0 := cell_of_row w3 (w.heap.size + 1) 0 _ _ (0, 0) t1
  have r1 := cell_of_row w3 (w.heap.size + 1) 1 _ _ (0, 0) t1
  have r2 := cell_of_row w3 (w.heap.size + 1) 2 _ _ (0, 0) t1
  have r3 := cell_of_row w3 (w.heap.size + 1) 3 _ _ (0, 0) t1
  have c0 := cell_of_row w3 (w.heap.size + 1 + 1) 0 _ _ (0, 0) t2
  have c1 := cell_of_row w3 (w.heap.size + 1 + 1) 1 _ _ (0, 0) t2
  have c2 := cell_of_row w3 (w.heap.size + 1 + 1) 2 _ _ (0, 0) t2
  have c3 := cell_of_row w3 (w.heap.size + 1 + 1) 3 _ _ (0, 0) t2
  have c4 := cell_of_row w3 (w.heap.size + 1 + 1) 4 _ _ (0, 0) t2
  have c5 := cell_of_row w3 (w.heap.size + 1 + 1) 5 _ _ (0, 0) t2
  have c6 := cell_of_row w3 (w.heap.size + 1 + 1) 6 _ _ (0, 0) t2
  have c7 := cell_of_row w3 (w.heap.size + 1 + 1) 7 _ _ (0, 0) t2
  simp at x0 x1 r0 r1 r2 r3 c0 c1 c2 c3 c4 c5 c6 c7
  clear h2 hb3 hs2 hc t0 t1 t2
  by_cases hk : k3 = ra
  rotate_left
  · have H : Hid (alV bs n i is ra rs ro rl k1 k2 k3 k4 k5 k6 k7 k8 has = 1) := Lib.hid (alV_bad fun ha => hk (alB_parts ha).2.2.2.2.1)
    have tk : (k3 != ra) = true := by simpa using hk
    go_wp2_with fail
    go_ret
    exact ⟨ret_int H.out.symm, hB⟩
  have tk : (k3 != ra) = false := by simp [hk]
  have HK := Lib.hid hk
  clear hk
  by_cases h7 : k1 = 7
  · have H : Hid (alV bs n i is ra rs ro rl k1 k2 k3 k4 k5 k6 k7 k8 has = 1) := Lib.hid (alV_bad fun ha => (alB_parts ha).2.2.2.2.2 h7)
    have t7 : (k1 == 7) = true := by simp [h7]
    clear h7
    go_wp2_with fail
    go_ret
    exact ⟨ret_int H.out.symm, hB⟩
  have t7 : (k1 == 7) = false := by simpa using h7
  have H7 := Lib.hid h7
  clear h7
  go_wp2_with fail
  refine (l1In_any _ _ _ _).mono ?_
  rcases Bool.eq_false_or_eq_true (inB (-1000000000) has 1000000000) with hp | hp
  rotate_left
  · rw [hp]
    have H : Hid (alV bs n i is ra rs ro rl k1 k2 k3 k4 k5 k6 k7 k8 has = 1) := Lib.hid (alV_bad fun ha => by have q := (alB_parts ha).2.2.2.1; rw [hp] at q; cases q)
    rintro e w4 ⟨rfl, rfl⟩
    clear hp
    go_wp2_with fail
    go_ret
    exact ⟨ret_int H.out.symm, hB⟩
  rw [hp]
  rintro e w4 ⟨rfl, rfl⟩
  have H := Lib.hid (alV_yes (bs := bs) (n := n) (i := i) (is := is) (alB_all HE.out HR.out.2 HC.out hp HK.out H7.out))
  have HP := Lib.hid hp
  clear hp
  go_wp2_with fail
  refine (spec_l14Allowed A n c I i d bs is ra rs ro rl k1 k2 k3 k4 k5 k6 k7 k8 has w3 h3 HE.out HR.out.2 HC.out HP.out).mono ?_
  rw [← H.out]
  rintro e w5 ⟨rfl, hb5⟩
  clear x0 x1 r0 r1 r2 r3 c0 c1 c2 c3 c4 c5 c6 c7
  go_wp2_with fail
  go_ret
  exact ⟨rfl, hB.trans (hb5.mono hB.size)⟩
end Go.Proofs.Ytmbafeiacaamoaa
