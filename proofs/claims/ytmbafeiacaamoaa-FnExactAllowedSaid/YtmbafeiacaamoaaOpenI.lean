/-
  Open, in both programs.
-/
import Derived.Test.YtmbafeiacaamoaaOpn
namespace Go.Proofs.Ytmbafeiacaamoaa
open Go.RowKit Wire

def opQ (bs : List (List Int × List Int)) (n i : Nat) (is : List Int) (acct sym : Int) : Int × Int :=
  if engB bs n i is && inB 0 sym 3 then (qtO (bs.getD sym.toNat ([], [])).1 acct ((bs.getD sym.toNat ([], [])).1.length / 4), qtO (bs.getD sym.toNat ([], [])).2 acct ((bs.getD sym.toNat ([], [])).2.length / 4)) else (0, 0)
theorem opQ_no1 {bs : List (List Int × List Int)} {n i : Nat} {is : List Int} {acct sym : Int} (h : engB bs n i is = false) : opQ bs n i is acct sym = (0, 0) := by simp [opQ, h]
theorem opQ_no2 {bs : List (List Int × List Int)} {n i : Nat} {is : List Int} {acct sym : Int} (h : inB 0 sym 3 = false) : opQ bs n i is acct sym = (0, 0) := by simp [opQ, h]
theorem opQ_yes {bs : List (List Int × List Int)} {n i s n1 n2 : Nat} {is za zb : List Int} {acct : Int} (h : engB bs n i is = true) (hs : inB 0 (s : Int) 3 = true) (hx : bs[s]? = some (za, zb)) (h1 : za.length = n1 * 4) (h2 : zb.length = n2 * 4) : opQ bs n i is acct (s : Int) = (qtO za acct n1, qtO zb acct n2) := by
  unfold opQ
  rw [h, hs]
  simp only [Bool.and_self, if_true, Int.toNat_natCast]
  rw [List.getD_eq_getElem?_getD, hx, Option.getD_some]
  simp only
  rw [h1, h2, show n1 * 4 / 4 = n1 by omega, show n2 * 4 / 4 = n2 by omega]
theorem engB_parts {bs : List (List Int × List Int)} {n i : Nat} {is : List Int} (h : engB bs n i is = true) : n = 4 ∧ acTo is i = true ∧ bkTo is i bs n = true := by
  unfold engB at h
  simp only [Bool.and_eq_true, decide_eq_true_eq] at h
  exact ⟨h.1, h.2.1, h.2.2⟩
/-- a book of a right engine -/
theorem engB_book {bs : List (List Int × List Int)} {n i k n1 n2 : Nat} {is za zb : List Int} (h : engB bs n i is = true) (hk : k < n) (hx : bs[k]? = some (za, zb)) (h1 : za.length = n1 * 4) (h2 : zb.length = n2 * 4) : bookB za n1 zb n2 = true := by
  have hb := bkTo_at n k (engB_parts h).2.2 hk
  rw [List.getD_eq_getElem?_getD, hx, Option.getD_some, bkB_at h1 h2, Bool.and_eq_true] at hb
  exact hb.1
theorem opQ_in {bs : List (List Int × List Int)} {n i : Nat} {is : List Int} {acct sym : Int} (hlen : bs.length = n) (hd : ∀ x ∈ bs, ∃ n1 n2, x.1.length = n1 * 4 ∧ x.2.length = n2 * 4) : (0 ≤ (opQ bs n i is acct sym).1 ∧ (opQ bs n i is acct sym).1 ≤ 20000000) ∧ (0 ≤ (opQ bs n i is acct sym).2 ∧ (opQ bs n i is acct sym).2 ≤ 20000000) := by
  rcases Bool.eq_false_or_eq_true (engB bs n i is) with h | h
  rotate_left
  · rw [opQ_no1 h]; simp
  rcases Bool.eq_false_or_eq_true (inB 0 sym 3) with hs | hs
  rotate_left
  · rw [opQ_no2 hs]; simp
  have hs2 := inB_iff.1 hs
  obtain ⟨s, rfl⟩ := Int.eq_ofNat_of_zero_le hs2.1
  have hn := (engB_parts h).1
  obtain ⟨x, hx⟩ : ∃ x, bs[s]? = some x := ⟨bs[s]'(by omega), List.getElem?_eq_getElem (by omega)⟩
  obtain ⟨n1, n2, l1, l2⟩ := hd x (List.mem_of_getElem? hx)
  obtain ⟨za, zb⟩ := x
  have hb := engB_book h (by omega) hx l1 l2
  have hsm := bookB_small hb
  have hq := bookB_qty hb
  rw [opQ_yes h hs hx l1 l2]
  have q1 := qtO_in (a := acct) hq.1 n1 (Nat.le_refl _)
  have q2 := qtO_in (a := acct) hq.2 n2 (Nat.le_refl _)
  refine ⟨⟨q1.1, ?_⟩, q2.1, ?_⟩ <;> simp only <;> omega
theorem EBks.lens {w : World} {X : Nat} {A : Option Addr} {bs : List (List Int × List Int)} (h : EBks w X A bs) : ∀ x ∈ bs, ∃ n1 n2, x.1.length = n1 * 4 ∧ x.2.length = n2 * 4 := fun x hx => by
  obtain ⟨k, hk⟩ := List.mem_iff_getElem?.1 hx
  obtain ⟨_, _, _, _, _, _, _, _, ⟨_, n1, _, _, l1, _⟩, ⟨_, n2, _, _, l2, _⟩⟩ := h k x hk
  exact ⟨n1, n2, l1.1, l2.1⟩
set_option linter.unusedSimpArgs false in
set_option maxHeartbeats 1600000 in
set_option maxRecDepth 100000 in
theorem spec_Open (A : Option Addr) (n c : Nat) (I : Option Addr) (i d : Nat) (bs : List (List Int × List Int)) (is : List Int) (acct sym : Int) (w : World) (h : EngS w w.heap.size A n I i d bs is) (hn : n ≤ 1048576) (hi : i ≤ 1048576) :
    Calls Try.prog 10 #[.agg #[.slice A n c, .slice I i d], .int .i64 acct, .int .i64 sym] w fun e w' => e = .returned (.tuple #[.int .i64 (opQ bs n i is acct sym).1, .int .i64 (opQ bs n i is acct sym).2]) ∧ Below w.heap.size w w' := by
  have k0 := heap_alloc_new w (.cells #[.slice A n c, .slice I i d] 31)
  have hb0 : Below w.heap.size w (w.alloc (.cells #[.slice A n c, .slice I i d] 31)) := (Below.refl _ _).alloc (Nat.le_refl _) _
  have hs0 : w.heap.size < (w.alloc (.cells #[.slice A n c, .slice I i d] 31)).heap.size := by simp
  have h0 := h.later hb0
  have hlen := h.len
  clear h
  go_enter Try.func10, Try.ntmps10
  go_wp2_with fail
  generalize (w.alloc (.cells #[.slice A n c, .slice I i d] 31)) = w0 at *
  refine (spec_EngineOk A n c I i d bs is w0 h0 hn hi).mono ?_
  rcases Bool.eq_false_or_eq_true (engB bs n i is) with he | he
  rotate_left
  · rw [he]
    rintro e w1 ⟨rfl, hb1⟩
    have H := Lib.hid (opQ_no1 (acct := acct) (sym := sym) he)
    clear he
    go_wp2_with fail
    refine bodyPost_ret (v := .tuple #[.int .i64 0, .int .i64 0]) (by simp [results, Try.results10, go_sem]) rfl ⟨by rw [H.out], ord_later hb0 hb1⟩
  rw [he]
  rintro e w1 ⟨rfl, hb1⟩
  have hE := Lib.hid he
  have kr := (hb1.block _ hs0).trans k0
  have x0 := cell_of_row w1 w.heap.size 0 _ _ (0, 0) kr
  have x1 := cell_of_row w1 w.heap.size 1 _ _ (0, 0) kr
  simp at x0 x1
  have hw1 : w.heap.size < w1.heap.size := Nat.lt_of_lt_of_le hs0 hb1.size
  have hr := h0.later hb1
  have hB1 := ord_later hb0 hb1
  clear he kr k0 h0 hb0 hb1 hs0
  go_wp2_with fail
  refine (l1In_any _ _ _ _).mono ?_
  rcases Bool.eq_false_or_eq_true (inB 0 sym 3) with hs | hs
  rotate_left
  · rw [hs]
    rintro e w2 ⟨rfl, rfl⟩
    have H := Lib.hid (opQ_no2 (bs := bs) (n := n) (i := i) (is := is) (acct := acct) hs)
    clear hs
    go_wp2_with fail
    refine bodyPost_ret (v := .tuple #[.int .i64 0, .int .i64 0]) (by simp [results, Try.results10, go_sem]) rfl ⟨by rw [H.out], hB1⟩
  rw [hs]
  rintro e w2 ⟨rfl, rfl⟩
  have hs2 := inB_iff.1 hs
  obtain ⟨s, rfl⟩ := Int.eq_ofNat_of_zero_le hs2.1
  have hn4 := (engB_parts hE.out).1
  obtain ⟨x, hx⟩ : ∃ x, bs[s]? = some x := ⟨bs[s]'(by omega), List.getElem?_eq_getElem (by omega)⟩
  obtain ⟨b, o, v1, v2, rfl, hbX, q0, q1, ⟨A1, n1, c1, rfl, l1, hn1, hA1, -⟩, ⟨A2, n2, c2, rfl, l2, hn2, hA2, -⟩⟩ := hr.books s x hx
  obtain ⟨za, zb⟩ := x
  have hbk := engB_book hE.out (show s < n by omega) hx l1.1 l2.1
  have hsm := bookB_small hbk
  have hqt := bookB_qty hbk
  have H := Lib.hid (opQ_yes (acct := acct) hE.out hs hx l1.1 l2.1)
  have hsn : s < n := by omega
  clear hs hx hbk hr hn4 hs2
  go_wp2_with fail
  refine (spec_l14Open A1 n1 c1 A2 n2 c2 za zb acct _ l1 l2 hsm.1 hsm.2 hqt.1 hqt.2).mono ?_
  rintro e w3 ⟨rfl, hb3⟩
  clear q0 q1
  go_wp2_with fail
  refine bodyPost_ret (v := .tuple #[.int .i64 (qtO za acct n1), .int .i64 (qtO zb acct n2)]) (by simp [results, Try.results10, go_sem]) rfl ⟨by rw [H.out], ord_later hB1 hb3⟩
set_option linter.unusedSimpArgs false in
set_option maxHeartbeats 1600000 in
set_option maxRecDepth 100000 in
theorem impl_Open (A : Option Addr) (n c : Nat) (I : Option Addr) (i d : Nat) (bs : List (List Int × List Int)) (is : List Int) (acct sym : Int) (w : World) (h : EngS w w.heap.size A n I i d bs is) (hn : n ≤ 1048576) (hi : i ≤ 1048576) :
    Calls Try.prog 12 #[.agg #[.slice A n c, .slice I i d], .int .i64 acct, .int .i64 sym] w fun e w' => e = .returned (.tuple #[.int .i64 (opQ bs n i is acct sym).1, .int .i64 (opQ bs n i is acct sym).2]) ∧ Below w.heap.size w w' := by
  have k0 := heap_alloc_new w (.cells #[.slice A n c, .slice I i d] 31)
  have hb0 : Below w.heap.size w (w.alloc (.cells #[.slice A n c, .slice I i d] 31)) := (Below.refl _ _).alloc (Nat.le_refl _) _
  have hs0 : w.heap.size < (w.alloc (.cells #[.slice A n c, .slice I i d] 31)).heap.size := by simp
  have h0 := h.later hb0
  have hlen := h.len
  clear h
  go_enter Try.func12, Try.ntmps12
  go_wp2_with fail
  generalize (w.alloc (.cells #[.slice A n c, .slice I i d] 31)) = w0 at *
  refine (impl_EngineOk A n c I i d bs is w0 h0 hn hi).mono ?_
  rcases Bool.eq_false_or_eq_true (engB bs n i is) with he | he
  rotate_left
  · rw [he]
    rintro e w1 ⟨rfl, hb1⟩
    have H := Lib.hid (opQ_no1 (acct := acct) (sym := sym) he)
    clear he
    go_wp2_with fail
    refine bodyPost_ret (v := .tuple #[.int .i64 0, .int .i64 0]) (by simp [results, Try.results12, go_sem]) rfl ⟨by rw [H.out], ord_later hb0 hb1⟩
  rw [he]
  rintro e w1 ⟨rfl, hb1⟩
  have hE := Lib.hid he
  have kr := (hb1.block _ hs0).trans k0
  have x0 := cell_of_row w1 w.heap.size 0 _ _ (0, 0) kr
  have x1 := cell_of_row w1 w.heap.size 1 _ _ (0, 0) kr
  simp at x0 x1
  have hw1 : w.heap.size < w1.heap.size := Nat.lt_of_lt_of_le hs0 hb1.size
  have hr := h0.later hb1
  have hB1 := ord_later hb0 hb1
  clear he kr k0 h0 hb0 hb1 hs0
  go_wp2_with fail
  refine (within_any _ _ _ _).mono ?_
  rcases Bool.eq_false_or_eq_true (inB 0 sym 3) with hs | hs
  rotate_left
  · rw [hs]
    rintro e w2 ⟨rfl, rfl⟩
    have H := Lib.hid (opQ_no2 (bs := bs) (n := n) (i := i) (is := is) (acct := acct) hs)
    clear hs
    go_wp2_with fail
    refine bodyPost_ret (v := .tuple #[.int .i64 0, .int .i64 0]) (by simp [results, Try.results12, go_sem]) rfl ⟨by rw [H.out], hB1⟩
  rw [hs]
  rintro e w2 ⟨rfl, rfl⟩
  have hs2 := inB_iff.1 hs
  obtain ⟨s, rfl⟩ := Int.eq_ofNat_of_zero_le hs2.1
  have hn4 := (engB_parts hE.out).1
  obtain ⟨x, hx⟩ : ∃ x, bs[s]? = some x := ⟨bs[s]'(by omega), List.getElem?_eq_getElem (by omega)⟩
  obtain ⟨b, o, v1, v2, rfl, hbX, q0, q1, ⟨A1, n1, c1, rfl, l1, hn1, hA1, -⟩, ⟨A2, n2, c2, rfl, l2, hn2, hA2, -⟩⟩ := hr.books s x hx
  obtain ⟨za, zb⟩ := x
  have hbk := engB_book hE.out (show s < n by omega) hx l1.1 l2.1
  have hsm := bookB_small hbk
  have hqt := bookB_qty hbk
  have H := Lib.hid (opQ_yes (acct := acct) hE.out hs hx l1.1 l2.1)
  have hsn : s < n := by omega
  clear hs hx hbk hr hn4 hs2
  have kb := heap_alloc_new w1 (.cells #[.slice A1 n1 c1, .slice A2 n2 c2] 58)
  have hba : Below w1.heap.size w1 (w1.alloc (.cells #[.slice A1 n1 c1, .slice A2 n2 c2] 58)) := (Below.refl _ _).alloc (Nat.le_refl _) _
  have l1 := l1.later hba
  have l2 := l2.later hba
  have hB2 := ord_later hB1 hba
  clear hba hB1
  go_wp2_with fail
  generalize (w1.alloc (.cells #[.slice A1 n1 c1, .slice A2 n2 c2] 58)) = w2 at *
  have y0 := cell_of_row w2 w1.heap.size 0 _ _ (0, 0) kb
  have y1 := cell_of_row w2 w1.heap.size 1 _ _ (0, 0) kb
  simp at y0 y1
  clear kb q0 q1 x0 x1
  go_upto_region 4 with fail
  refine wp_region_held_drew (S := (fun w' => Below w2.heap.size w2 w' ∧ w'.cell? ⟨w1.heap.size, 0, none⟩ = some (.slice A1 n1 c1) ∧ w'.cell? ⟨w1.heap.size, 1, none⟩ = some (.slice A2 n2 c2))) (by kernel_rfl) ?hSq1xs (fun hHeld => ?restq1xs)
  case hSq1xs => ((first | assumption | ((((try dsimp only); repeat' apply And.intro) <;> (first | assumption | (refine below_later ?_ (by assumption); first | assumption | (simp only [*]; done) | (go_grown; done)) | (refine cell_later (by assumption) ?_; first | assumption | (simp only [*]; done) | (simp [go_sem]; done)) | (go_grown; done) | (simp [go_sem]; done))))))
  refine wpAnyH_take (i := 0) (oi := ?oiq1x1) (v := ?vq1x1) ?hiq1x1 (by kernel_rfl) (by kernel_rfl) (by kernel_rfl) ?hQq1x1 (Or.inl ⟨?hwq1x1, ?hyq1x1⟩) (by assumption) ?restq1x1
  case hiq1x1 => simp only [List.getElem?_toArray, List.getElem?_cons_succ, List.getElem?_cons_zero]; exact rfl
  case hQq1x1 => exact fun _ _ _ h => h
  case hwq1x1 => rfl
  case hyq1x1 => ((intro w hSw; (try dsimp only at hSw); go_simp) <;> with_reducible rfl)
  try simp only [Act.put, List.setIfInBounds_toArray, List.set_cons_zero, List.set_cons_succ]
  refine wpAnyH_take (i := 1) (oi := ?oiq1x2) (v := ?vq1x2) ?hiq1x2 (by kernel_rfl) (by kernel_rfl) (by kernel_rfl) ?hQq1x2 (Or.inl ⟨?hwq1x2, ?hyq1x2⟩) (by assumption) ?restq1x2
  case hiq1x2 => simp only [List.getElem?_toArray, List.getElem?_cons_succ, List.getElem?_cons_zero]; exact rfl
  case hQq1x2 => exact fun _ _ _ h => h
  case hwq1x2 => rfl
  case hyq1x2 => ((intro w hSw; (try dsimp only at hSw); go_simp) <;> with_reducible rfl)
  try simp only [Act.put, List.setIfInBounds_toArray, List.set_cons_zero, List.set_cons_succ]
  refine wpAnyH_take (i := 2) (oi := ?oiq1x3) (v := ?vq1x3) ?hiq1x3 (by kernel_rfl) (by kernel_rfl) (by kernel_rfl) ?hQq1x3 (Or.inl ⟨?hwq1x3, ?hyq1x3⟩) (by assumption) ?restq1x3
  case hiq1x3 => simp only [List.getElem?_toArray, List.getElem?_cons_succ, List.getElem?_cons_zero]; exact rfl
  case hQq1x3 => exact fun _ _ _ h => h
  case hwq1x3 => rfl
  case hyq1x3 => ((intro w hSw; (try dsimp only at hSw); go_simp) <;> with_reducible rfl)
  try simp only [Act.put, List.setIfInBounds_toArray, List.set_cons_zero, List.set_cons_succ]
  refine wpAnyH_take (i := 4) (oi := ?oiq1x4) (v := ?vq1x4) ?hiq1x4 (by kernel_rfl) (by kernel_rfl) (by kernel_rfl) ?hQq1x4 (Or.inl ⟨?hwq1x4, ?hyq1x4⟩) (by assumption) ?restq1x4
  case hiq1x4 => simp only [List.getElem?_toArray, List.getElem?_cons_succ, List.getElem?_cons_zero]; exact rfl
  case hQq1x4 => exact fun _ _ _ h => h
  case hwq1x4 => rfl
  case hyq1x4 => ((intro w hSw; (try dsimp only at hSw); go_simp) <;> with_reducible rfl)
  try simp only [Act.put, List.setIfInBounds_toArray, List.set_cons_zero, List.set_cons_succ]
  refine wpAnyH_take (i := 5) (oi := ?oiq1x5) (v := ?vq1x5) ?hiq1x5 (by kernel_rfl) (by kernel_rfl) (by kernel_rfl) ?hQq1x5 (Or.inl ⟨?hwq1x5, ?hyq1x5⟩) (by assumption) ?restq1x5
  case hiq1x5 => simp only [List.getElem?_toArray, List.getElem?_cons_succ, List.getElem?_cons_zero]; exact rfl
  case hQq1x5 => exact fun _ _ _ h => h
  case hwq1x5 => rfl
  case hyq1x5 => ((intro w hSw; (try dsimp only at hSw); go_simp) <;> with_reducible rfl)
  try simp only [Act.put, List.setIfInBounds_toArray, List.set_cons_zero, List.set_cons_succ]
  refine wpAnyH_take (i := 6) (oi := ?oiq1x6) (v := ?vq1x6) ?hiq1x6 (by kernel_rfl) (by kernel_rfl) (by kernel_rfl) ?hQq1x6 (Or.inl ⟨?hwq1x6, ?hyq1x6⟩) (by assumption) ?restq1x6
  case hiq1x6 => simp only [List.getElem?_toArray, List.getElem?_cons_succ, List.getElem?_cons_zero]; exact rfl
  case hQq1x6 => exact fun _ _ _ h => h
  case hwq1x6 => rfl
  case hyq1x6 => ((intro w hSw; (try dsimp only at hSw); go_simp) <;> with_reducible rfl)
  try simp only [Act.put, List.setIfInBounds_toArray, List.set_cons_zero, List.set_cons_succ]
  refine wpAnyH_ready (rs := [3]) (by kernel_rfl) (by simp) ?_
  refine AllReadyH.cons (o := ?oq1x7) ?hoq1x7 (fun K hK => ?stepq1x7) ?moreq1x7
  case hoq1x7 => simp only [List.getElem?_toArray, List.getElem?_cons_succ, List.getElem?_cons_zero]; exact rfl
  case moreq1x7 => exact AllReadyH.nil
  go_simp
  (go_at_call 34; refine (impl_qtyOf A1 n1 c1 za acct _ (l1.later hHeld.1) hsm.1 hqt.1).mono ?_; rintro e w6 ⟨rfl, hb6⟩)
  refine hK.out _ _ ?hSq1x7 (fun hHeld => ?restq1x7)
  case hSq1x7 => ((first | assumption | ((((try dsimp only); repeat' apply And.intro) <;> (first | assumption | (refine below_later ?_ (by assumption); first | assumption | (simp only [*]; done) | (go_grown; done)) | (refine cell_later (by assumption) ?_; first | assumption | (simp only [*]; done) | (simp [go_sem]; done)) | (go_grown; done) | (simp [go_sem]; done))))))
  clear hK K
  try simp only [Act.put, List.setIfInBounds_toArray, List.set_cons_zero, List.set_cons_succ]
  refine wpAnyH_ready (rs := [7]) (by kernel_rfl) (by simp) ?_
  refine AllReadyH.cons (o := ?oq1x8) ?hoq1x8 (fun K hK => ?stepq1x8) ?moreq1x8
  case hoq1x8 => simp only [List.getElem?_toArray, List.getElem?_cons_succ, List.getElem?_cons_zero]; exact rfl
  case moreq1x8 => exact AllReadyH.nil
  go_simp
  (go_at_call 34; refine (impl_qtyOf A2 n2 c2 zb acct _ (l2.later hHeld.1) hsm.2 hqt.2).mono ?_; rintro e w6 ⟨rfl, hb6⟩)
  refine hK.out _ _ ?hSq1x8 (fun hHeld => ?restq1x8)
  case hSq1x8 => ((first | assumption | ((((try dsimp only); repeat' apply And.intro) <;> (first | assumption | (refine below_later ?_ (by assumption); first | assumption | (simp only [*]; done) | (go_grown; done)) | (refine cell_later (by assumption) ?_; first | assumption | (simp only [*]; done) | (simp [go_sem]; done)) | (go_grown; done) | (simp [go_sem]; done))))))
  clear hK K
  try simp only [Act.put, List.setIfInBounds_toArray, List.set_cons_zero, List.set_cons_succ]
  refine wpAnyH_take (i := 8) (oi := ?oiq1x9) (v := ?vq1x9) ?hiq1x9 (by kernel_rfl) (by kernel_rfl) (by kernel_rfl) ?hQq1x9 (Or.inl ⟨?hwq1x9, ?hyq1x9⟩) (by assumption) ?restq1x9
  case hiq1x9 => simp only [List.getElem?_toArray, List.getElem?_cons_succ, List.getElem?_cons_zero]; exact rfl
  case hQq1x9 => exact fun _ _ _ h => h
  case hwq1x9 => rfl
  case hyq1x9 => ((intro w hSw; (try dsimp only at hSw); go_simp) <;> with_reducible rfl)
  try simp only [Act.put, List.setIfInBounds_toArray, List.set_cons_zero, List.set_cons_succ]
  refine wpAnyH_take (i := 9) (oi := ?oiq1x10) (v := ?vq1x10) ?hiq1x10 (by kernel_rfl) (by kernel_rfl) (by kernel_rfl) ?hQq1x10 (Or.inl ⟨?hwq1x10, ?hyq1x10⟩) (by assumption) ?restq1x10
  case hiq1x10 => simp only [List.getElem?_toArray, List.getElem?_cons_succ, List.getElem?_cons_zero]; exact rfl
  case hQq1x10 => exact fun _ _ _ h => h
  case hwq1x10 => rfl
  case hyq1x10 => ((intro w hSw; (try dsimp only at hSw); go_simp) <;> with_reducible rfl)
  try simp only [Act.put, List.setIfInBounds_toArray, List.set_cons_zero, List.set_cons_succ]
  refine wpAnyH_done (by kernel_rfl) ?_ _
  have hfin := ord_later hB2 hHeld.1
  clear hHeld
  go_wp2_with fail
  refine bodyPost_ret (v := .tuple #[.int .i64 (qtO za acct n1), .int .i64 (qtO zb acct n2)]) (by simp [results, Try.results12, go_sem]) rfl ⟨by rw [H.out], hfin⟩
end Go.Proofs.Ytmbafeiacaamoaa
