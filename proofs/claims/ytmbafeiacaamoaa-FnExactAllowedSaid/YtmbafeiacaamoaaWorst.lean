/-
  Worst, in both programs.
-/
import Derived.Test.YtmbafeiacaamoaaOpenI
namespace Go.Proofs.Ytmbafeiacaamoaa
open Go.RowKit Wire

/-- the positions that an account may come to -/
def wrQ (has : Int) (q : Int × Int) : Int × Int := if inB (-1000000000) has 1000000000 then (has - q.2, has + q.1) else (0, 0)
theorem wrQ_yes {has : Int} {q : Int × Int} (h : inB (-1000000000) has 1000000000 = true) : wrQ has q = (has - q.2, has + q.1) := by rw [wrQ, if_pos h]
theorem wrQ_no {has : Int} {q : Int × Int} (h : inB (-1000000000) has 1000000000 = false) : wrQ has q = (0, 0) := by rw [wrQ, h]; rfl
set_option linter.unusedVariables false in
set_option maxRecDepth 100000 in
theorem pr_least (h u1 u2 : Int) (w : World) (h0 : -1000000000 ≤ h) (h1 : h ≤ 1000000000) (a : 0 ≤ u1 ∧ u1 ≤ 40000000) (b : 0 ≤ u2 ∧ u2 ≤ 40000000) :
    Calls Try.prog 39 #[.agg #[.int .i64 h, .int .i64 u1, .int .i64 u2]] w fun e w' => e = .returned (.int .i64 (h - u2)) ∧ Below w.heap.size w w' := by
  go_enter Try.func39, Try.ntmps39
  go_wp2_with fail
  go_ret
  refine ⟨rfl, ?_⟩
  go_grown
set_option linter.unusedVariables false in
set_option maxRecDepth 100000 in
theorem pr_greatest (h u1 u2 : Int) (w : World) (h0 : -1000000000 ≤ h) (h1 : h ≤ 1000000000) (a : 0 ≤ u1 ∧ u1 ≤ 40000000) (b : 0 ≤ u2 ∧ u2 ≤ 40000000) :
    Calls Try.prog 40 #[.agg #[.int .i64 h, .int .i64 u1, .int .i64 u2]] w fun e w' => e = .returned (.int .i64 (h + u1)) ∧ Below w.heap.size w w' := by
  go_enter Try.func40, Try.ntmps40
  go_wp2_with fail
  go_ret
  refine ⟨rfl, ?_⟩
  go_grown
theorem impl_positionOk (has : Int) (w : World) :
    Calls Try.prog 37 #[.int .i64 has] w fun e w' => e = .returned (.bool (inB (-1000000000) has 1000000000)) ∧ w = w' := by
  go_enter Try.func37, Try.ntmps37
  go_wp2_with fail
  refine (within_any _ _ _ _).mono ?_
  rintro e w1 ⟨rfl, rfl⟩
  go_wp2_with fail
  go_ret
  exact ⟨rfl, rfl⟩
set_option maxHeartbeats 800000 in
set_option maxRecDepth 100000 in
theorem impl_prospectOf (A : Option Addr) (n c : Nat) (I : Option Addr) (i d : Nat) (bs : List (List Int × List Int)) (is : List Int) (acct sym has : Int) (w : World) (h : EngS w w.heap.size A n I i d bs is) (hn : n ≤ 1048576) (hi : i ≤ 1048576) :
    Calls Try.prog 38 #[.agg #[.slice A n c, .slice I i d], .int .i64 acct, .int .i64 sym, .int .i64 has] w fun e w' => e = .returned (.agg #[.int .i64 has, .int .i64 (opQ bs n i is acct sym).1, .int .i64 (opQ bs n i is acct sym).2]) ∧ Below w.heap.size w w' := by
  obtain ⟨k0, k1⟩ := two_blocks w (.cells #[.slice A n c, .slice I i d] 31) (.cells #[.int .i64 0, .int .i64 0, .int .i64 0] 72)
  have hb0 : Below w.heap.size w ((w.alloc (.cells #[.slice A n c, .slice I i d] 31)).alloc (.cells #[.int .i64 0, .int .i64 0, .int .i64 0] 72)) := ((Below.refl _ _).alloc (Nat.le_refl _) _).alloc (by simp) _
  have hs0 : ((w.alloc (.cells #[.slice A n c, .slice I i d] 31)).alloc (.cells #[.int .i64 0, .int .i64 0, .int .i64 0] 72)).heap.size = w.heap.size + 2 := by simp
  have h0 := h.later hb0
  clear h
  obtain ⟨⟨u1, u2⟩, hu⟩ : ∃ u, Hid (opQ bs n i is acct sym = u) := ⟨_, rfl⟩
  go_enter Try.func38, Try.ntmps38
  go_wp2_with fail
  generalize ((w.alloc (.cells #[.slice A n c, .slice I i d] 31)).alloc (.cells #[.int .i64 0, .int .i64 0, .int .i64 0] 72)) = w0 at *
  refine (impl_Open A n c I i d bs is acct sym w0 h0 hn hi).mono ?_
  rw [hu.out]
  rintro e w1 ⟨rfl, hb1⟩
  have k1 := (hb1.block (w.heap.size + 1) (by omega)).trans k1
  have x0 := cell_of_row w1 (w.heap.size + 1) 0 _ _ (0, 0) k1
  have x1 := cell_of_row w1 (w.heap.size + 1) 1 _ _ (0, 0) k1
  have x2 := cell_of_row w1 (w.heap.size + 1) 2 _ _ (0, 0) k1
  have z0 := frozen_of_row w1 (w.heap.size + 1) 0 _ _ k1
  have z1 := frozen_of_row w1 (w.heap.size + 1) 1 _ _ k1
  have z2 := frozen_of_row w1 (w.heap.size + 1) 2 _ _ k1
  simp at x0 x1 x2
  have hB := hb0.trans (hb1.mono hb0.size)
  clear k0 k1 h0 hb0 hb1 hs0
  go_wp2_with fail
  refine bodyPost_ret (v := .agg #[.int .i64 has, .int .i64 u1, .int .i64 u2]) (by simp [results, Try.results38, go_sem, x0, x1, x2]) rfl ⟨by rw [hu.out], ?_⟩
  exact ((hB.setCell (p := ⟨w.heap.size + 1, 0, none⟩) (show w.heap.size ≤ w.heap.size + 1 by omega) _).setCell (p := ⟨w.heap.size + 1, 1, none⟩) (show w.heap.size ≤ w.heap.size + 1 by omega) _).setCell (p := ⟨w.heap.size + 1, 2, none⟩) (show w.heap.size ≤ w.heap.size + 1 by omega) _
set_option linter.unusedSimpArgs false in
set_option maxHeartbeats 1600000 in
set_option maxRecDepth 100000 in
theorem spec_Worst (A : Option Addr) (n c : Nat) (I : Option Addr) (i d : Nat) (bs : List (List Int × List Int)) (is : List Int) (acct sym has : Int) (w : World) (h : EngS w w.heap.size A n I i d bs is) (hn : n ≤ 1048576) (hi : i ≤ 1048576) :
    Calls Try.prog 14 #[.agg #[.slice A n c, .slice I i d], .int .i64 acct, .int .i64 sym, .int .i64 has] w fun e w' => e = .returned (.tuple #[.int .i64 (wrQ has (opQ bs n i is acct sym)).1, .int .i64 (wrQ has (opQ bs n i is acct sym)).2]) ∧ Below w.heap.size w w' := by
  have k0 := heap_alloc_new w (.cells #[.slice A n c, .slice I i d] 31)
  have hb0 : Below w.heap.size w (w.alloc (.cells #[.slice A n c, .slice I i d] 31)) := (Below.refl _ _).alloc (Nat.le_refl _) _
  have h0 := h.later hb0
  have hin := opQ_in (n := n) (i := i) (is := is) (acct := acct) (sym := sym) h.len h.books.lens
  obtain ⟨⟨u1, u2⟩, hu⟩ : ∃ u, Hid (opQ bs n i is acct sym = u) := ⟨_, rfl⟩
  rw [hu.out] at hin
  have hb1 : 0 ≤ u1 ∧ u1 ≤ 40000000 := ⟨hin.1.1, by have := hin.1.2; simp only at this; omega⟩
  have hb2 : 0 ≤ u2 ∧ u2 ≤ 40000000 := ⟨hin.2.1, by have := hin.2.2; simp only at this; omega⟩
  clear h hin
  go_enter Try.func14, Try.ntmps14
  go_wp2_with fail
  generalize (w.alloc (.cells #[.slice A n c, .slice I i d] 31)) = w0 at *
  have x0 := cell_of_row w0 w.heap.size 0 _ _ (0, 0) k0
  have x1 := cell_of_row w0 w.heap.size 1 _ _ (0, 0) k0
  simp at x0 x1
  clear k0
  refine (l1In_any _ _ _ _).mono ?_
  rcases Bool.eq_false_or_eq_true (inB (-1000000000) has 1000000000) with hp | hp
  rotate_left
  · rw [hp]
    rintro e w1 ⟨rfl, rfl⟩
    have H := Lib.hid (wrQ_no (q := opQ bs n i is acct sym) hp)
    clear hp
    go_wp2_with fail
    refine bodyPost_ret (v := .tuple #[.int .i64 0, .int .i64 0]) (by simp [results, Try.results14, go_sem]) rfl ⟨by rw [H.out], hb0⟩
  rw [hp]
  rintro e w1 ⟨rfl, rfl⟩
  have H : Hid (wrQ has (opQ bs n i is acct sym) = (has - u2, has + u1)) := Lib.hid (by rw [wrQ_yes hp, hu.out])
  have hh := inB_iff.1 hp
  clear hp
  go_wp2_with fail
  refine (spec_Open A n c I i d bs is acct sym w0 h0 hn hi).mono ?_
  rw [hu.out]
  rintro e w1 ⟨rfl, hb3⟩
  clear x0 x1
  go_wp2_with fail
  refine bodyPost_ret (v := .tuple #[.int .i64 (has - u2), .int .i64 (has + u1)]) (by simp [results, Try.results14, go_sem]) rfl ⟨by rw [H.out], ord_later hb0 hb3⟩
set_option linter.unusedSimpArgs false in
set_option maxHeartbeats 1600000 in
set_option maxRecDepth 100000 in
theorem impl_Worst (A : Option Addr) (n c : Nat) (I : Option Addr) (i d : Nat) (bs : List (List Int × List Int)) (is : List Int) (acct sym has : Int) (w : World) (h : EngS w w.heap.size A n I i d bs is) (hn : n ≤ 1048576) (hi : i ≤ 1048576) :
    Calls Try.prog 15 #[.agg #[.slice A n c, .slice I i d], .int .i64 acct, .int .i64 sym, .int .i64 has] w fun e w' => e = .returned (.tuple #[.int .i64 (wrQ has (opQ bs n i is acct sym)).1, .int .i64 (wrQ has (opQ bs n i is acct sym)).2]) ∧ Below w.heap.size w w' := by
  have k0 := heap_alloc_new w (.cells #[.slice A n c, .slice I i d] 31)
  have hb0 : Below w.heap.size w (w.alloc (.cells #[.slice A n c, .slice I i d] 31)) := (Below.refl _ _).alloc (Nat.le_refl _) _
  have h0 := h.later hb0
  have hin := opQ_in (n := n) (i := i) (is := is) (acct := acct) (sym := sym) h.len h.books.lens
  obtain ⟨⟨u1, u2⟩, hu⟩ : ∃ u, Hid (opQ bs n i is acct sym = u) := ⟨_, rfl⟩
  rw [hu.out] at hin
  have hb1 : 0 ≤ u1 ∧ u1 ≤ 40000000 := ⟨hin.1.1, by have := hin.1.2; simp only at this; omega⟩
  have hb2 : 0 ≤ u2 ∧ u2 ≤ 40000000 := ⟨hin.2.1, by have := hin.2.2; simp only at this; omega⟩
  clear h hin
  go_enter Try.func15, Try.ntmps15
  go_wp2_with fail
  generalize (w.alloc (.cells #[.slice A n c, .slice I i d] 31)) = w0 at *
  have x0 := cell_of_row w0 w.heap.size 0 _ _ (0, 0) k0
  have x1 := cell_of_row w0 w.heap.size 1 _ _ (0, 0) k0
  simp at x0 x1
  clear k0
  refine (impl_positionOk _ _).mono ?_
  rcases Bool.eq_false_or_eq_true (inB (-1000000000) has 1000000000) with hp | hp
  rotate_left
  · rw [hp]
    rintro e w1 ⟨rfl, rfl⟩
    have H := Lib.hid (wrQ_no (q := opQ bs n i is acct sym) hp)
    clear hp
    go_wp2_with fail
    refine bodyPost_ret (v := .tuple #[.int .i64 0, .int .i64 0]) (by simp [results, Try.results15, go_sem]) rfl ⟨by rw [H.out], hb0⟩
  rw [hp]
  rintro e w1 ⟨rfl, rfl⟩
  have H : Hid (wrQ has (opQ bs n i is acct sym) = (has - u2, has + u1)) := Lib.hid (by rw [wrQ_yes hp, hu.out])
  have hh := inB_iff.1 hp
  clear hp
  go_wp2_with fail
  refine (impl_prospectOf A n c I i d bs is acct sym has w0 h0 hn hi).mono ?_
  rw [hu.out]
  rintro e w1 ⟨rfl, hb3⟩
  have kb := heap_alloc_new w1 (.cells #[.int .i64 has, .int .i64 u1, .int .i64 u2] 72)
  have hba : Below w1.heap.size w1 (w1.alloc (.cells #[.int .i64 has, .int .i64 u1, .int .i64 u2] 72)) := (Below.refl _ _).alloc (Nat.le_refl _) _
  have hB2 := ord_later (ord_later hb0 hb3) hba
  clear hba x0 x1 hb0 hb3 h0
  go_wp2_with fail
  generalize (w1.alloc (.cells #[.int .i64 has, .int .i64 u1, .int .i64 u2] 72)) = w2 at *
  generalize w1.heap.size = G at *
  have y0 := cell_of_row w2 G 0 _ _ (0, 0) kb
  have y1 := cell_of_row w2 G 1 _ _ (0, 0) kb
  have y2 := cell_of_row w2 G 2 _ _ (0, 0) kb
  simp at y0 y1 y2
  clear kb
  go_upto_region 4 with fail
  refine wp_region_held_drew (S := (fun w' => Below w2.heap.size w2 w' ∧ w'.cell? ⟨G, 0, none⟩ = some (.int .i64 has) ∧ w'.cell? ⟨G, 1, none⟩ = some (.int .i64 u1) ∧ w'.cell? ⟨G, 2, none⟩ = some (.int .i64 u2))) (by kernel_rfl) ?hSq1xs (fun hHeld => ?restq1xs)
  case hSq1xs => ((first | assumption | ((((try dsimp only); repeat' apply And.intro) <;> (first | assumption | (refine below_later ?_ (by assumption); first | assumption | (simp only [*]; done) | (go_grown; done)) | (refine cell_later (by assumption) ?_; first | assumption | (simp only [*]; done) | (simp [go_sem]; done)) | (go_grown; done) | (simp [go_sem]; done))))))
  refine wpAnyH_take (i := 0) (oi := ?oiq1x1) (v := ?vq1x1) ?hiq1x1 (by kernel_rfl) (by kernel_rfl) (by kernel_rfl) ?hQq1x1 (Or.inl ⟨?hwq1x1, ?hyq1x1⟩) (by assumption) ?restq1x1
  case hiq1x1 => simp only [List.getElem?_toArray, List.getElem?_cons_succ, List.getElem?_cons_zero]; exact rfl
  case hQq1x1 => exact fun _ _ _ h => h
  case hwq1x1 => rfl
  case hyq1x1 => ((intro w hSw; (try dsimp only at hSw); go_simp) <;> with_reducible rfl)
  try simp only [Act.put, List.setIfInBounds_toArray, List.set_cons_zero, List.set_cons_succ]
  refine wpAnyH_take (i := 2) (oi := ?oiq1x2) (v := ?vq1x2) ?hiq1x2 (by kernel_rfl) (by kernel_rfl) (by kernel_rfl) ?hQq1x2 (Or.inl ⟨?hwq1x2, ?hyq1x2⟩) (by assumption) ?restq1x2
  case hiq1x2 => simp only [List.getElem?_toArray, List.getElem?_cons_succ, List.getElem?_cons_zero]; exact rfl
  case hQq1x2 => exact fun _ _ _ h => h
  case hwq1x2 => rfl
  case hyq1x2 => ((intro w hSw; (try dsimp only at hSw); go_simp) <;> with_reducible rfl)
  try simp only [Act.put, List.setIfInBounds_toArray, List.set_cons_zero, List.set_cons_succ]
  refine wpAnyH_ready (rs := [1]) (by kernel_rfl) (by simp) ?_
  refine AllReadyH.cons (o := ?oq1x3) ?hoq1x3 (fun K hK => ?stepq1x3) ?moreq1x3
  case hoq1x3 => simp only [List.getElem?_toArray, List.getElem?_cons_succ, List.getElem?_cons_zero]; exact rfl
  case moreq1x3 => exact AllReadyH.nil
  go_simp
  (go_at_call 39; refine (pr_least has u1 u2 _ hh.1 hh.2 hb1 hb2).mono ?_; rintro e w6 ⟨rfl, hb6⟩)
  refine hK.out _ _ ?hSq1x3 (fun hHeld => ?restq1x3)
  case hSq1x3 => ((first | assumption | ((((try dsimp only); repeat' apply And.intro) <;> (first | assumption | (refine below_later ?_ (by assumption); first | assumption | (simp only [*]; done) | (go_grown; done)) | (refine cell_later (by assumption) ?_; first | assumption | (simp only [*]; done) | (simp [go_sem]; done)) | (go_grown; done) | (simp [go_sem]; done))))))
  clear hK K
  try simp only [Act.put, List.setIfInBounds_toArray, List.set_cons_zero, List.set_cons_succ]
  refine wpAnyH_ready (rs := [3]) (by kernel_rfl) (by simp) ?_
  refine AllReadyH.cons (o := ?oq1x4) ?hoq1x4 (fun K hK => ?stepq1x4) ?moreq1x4
  case hoq1x4 => simp only [List.getElem?_toArray, List.getElem?_cons_succ, List.getElem?_cons_zero]; exact rfl
  case moreq1x4 => exact AllReadyH.nil
  go_simp
  (go_at_call 40; refine (pr_greatest has u1 u2 _ hh.1 hh.2 hb1 hb2).mono ?_; rintro e w6 ⟨rfl, hb6⟩)
  refine hK.out _ _ ?hSq1x4 (fun hHeld => ?restq1x4)
  case hSq1x4 => ((first | assumption | ((((try dsimp only); repeat' apply And.intro) <;> (first | assumption | (refine below_later ?_ (by assumption); first | assumption | (simp only [*]; done) | (go_grown; done)) | (refine cell_later (by assumption) ?_; first | assumption | (simp only [*]; done) | (simp [go_sem]; done)) | (go_grown; done) | (simp [go_sem]; done))))))
  clear hK K
  try simp only [Act.put, List.setIfInBounds_toArray, List.set_cons_zero, List.set_cons_succ]
  refine wpAnyH_take (i := 4) (oi := ?oiq1x5) (v := ?vq1x5) ?hiq1x5 (by kernel_rfl) (by kernel_rfl) (by kernel_rfl) ?hQq1x5 (Or.inl ⟨?hwq1x5, ?hyq1x5⟩) (by assumption) ?restq1x5
  case hiq1x5 => simp only [List.getElem?_toArray, List.getElem?_cons_succ, List.getElem?_cons_zero]; exact rfl
  case hQq1x5 => exact fun _ _ _ h => h
  case hwq1x5 => rfl
  case hyq1x5 => ((intro w hSw; (try dsimp only at hSw); go_simp) <;> with_reducible rfl)
  try simp only [Act.put, List.setIfInBounds_toArray, List.set_cons_zero, List.set_cons_succ]
  refine wpAnyH_take (i := 5) (oi := ?oiq1x6) (v := ?vq1x6) ?hiq1x6 (by kernel_rfl) (by kernel_rfl) (by kernel_rfl) ?hQq1x6 (Or.inl ⟨?hwq1x6, ?hyq1x6⟩) (by assumption) ?restq1x6
  case hiq1x6 => simp only [List.getElem?_toArray, List.getElem?_cons_succ, List.getElem?_cons_zero]; exact rfl
  case hQq1x6 => exact fun _ _ _ h => h
  case hwq1x6 => rfl
  case hyq1x6 => ((intro w hSw; (try dsimp only at hSw); go_simp) <;> with_reducible rfl)
  try simp only [Act.put, List.setIfInBounds_toArray, List.set_cons_zero, List.set_cons_succ]
  refine wpAnyH_done (by kernel_rfl) ?_ _
  have hfin := ord_later hB2 hHeld.1
  clear hHeld
  go_wp2_with fail
  refine bodyPost_ret (v := .tuple #[.int .i64 (has - u2), .int .i64 (has + u1)]) (by simp [results, Try.results15, go_sem]) rfl ⟨by rw [H.out], hfin⟩
end Go.Proofs.Ytmbafeiacaamoaa
