/-
  The drawn law of Crossing.
-/
import Derived.Test.YtnldfbcelakimaaGD
import Derived.Test.YtnldfbcelakimaaOptS
import Derived.Test.YtnldfbcelakimaaGS
import Derived.Test.YtnldfbcelakimaaLawInts
import Derived.Test.YtnldfbcelakimaaLawCell
namespace Go.Proofs.Ytnldfbcelakimaa
open Go.RowKit Wire

theorem ld_le : ∀ (n : Nat) (f : Nat → Bool), lead f n ≤ n
  | 0, _ => Nat.le_refl _
  | n + 1, f => by
    rw [lead]
    split
    · exact Nat.succ_le_succ (ld_le n _)
    · exact Nat.zero_le _
theorem ld_before : ∀ {f : Nat → Bool} (n j : Nat), j < lead f n → f j = true
  | f, 0, j, h => by simp [lead] at h
  | f, n + 1, j, h => by
    rw [lead] at h
    split at h
    · rename_i h0
      match j with
      | 0 => exact h0
      | j + 1 => exact ld_before (f := fun i => f (i + 1)) n j (by omega)
    · omega
theorem ld_stop : ∀ {f : Nat → Bool} (n : Nat), lead f n < n → f (lead f n) = false
  | f, 0, h => by simp at h
  | f, n + 1, h => by
    rw [lead] at h ⊢
    split
    · rename_i h0
      rw [if_pos h0] at h
      exact ld_stop (f := fun i => f (i + 1)) n (by omega)
    · rename_i h0
      rcases Bool.eq_false_or_eq_true (f 0) with c | c
      · exact absurd c h0
      · exact c
theorem ld_after {f : Nat → Bool} (n : Nat) (hm : ∀ i j, i < j → j < n → f j = true → f i = true) (j : Nat) (h : lead f n ≤ j) (hj : j < n) : ¬ f j = true := fun e => by
  have h1 := ld_stop (f := f) n (by omega)
  rcases Nat.eq_or_lt_of_le h with c | c
  · rw [← c] at e
    rw [e] at h1
    exact absurd h1 (by decide)
  · have := hm _ j c hj e
    rw [this] at h1
    exact absurd h1 (by decide)
theorem ld_mono : ∀ {f g : Nat → Bool} (n : Nat), (∀ j, j < n → f j = true → g j = true) → lead f n ≤ lead g n
  | f, g, 0, _ => Nat.le_refl _
  | f, g, n + 1, h => by
    rw [lead, lead]
    by_cases h0 : f 0 = true
    · rw [if_pos h0, if_pos (h 0 (by omega) h0)]
      exact Nat.succ_le_succ (ld_mono n (fun j hj => h (j + 1) (by omega)))
    · rw [if_neg h0]
      exact Nat.zero_le _
theorem ld_full : ∀ {f : Nat → Bool} (n : Nat), (∀ j, j < n → f j = true) → lead f n = n
  | f, 0, _ => rfl
  | f, n + 1, h => by
    rw [lead, if_pos (h 0 (by omega)), ld_full n (fun j hj => h (j + 1) (by omega))]
theorem meet_1 {x p : Int} (hx : x ≠ 0) : meetB 1 x p = true ↔ p ≤ x := by
  unfold meetB betB
  rw [if_pos rfl, beq_eq_false_iff_ne.2 hx, Bool.false_or, Bool.not_eq_true', decide_eq_false_iff_not]
  omega
theorem meet_2 {x p : Int} (hx : x ≠ 0) : meetB 2 x p = true ↔ x ≤ p := by
  unfold meetB betB
  rw [if_neg (by omega), beq_eq_false_iff_ne.2 hx, Bool.false_or, Bool.not_eq_true', decide_eq_false_iff_not]
  omega
theorem book_srt1 {za zb : List Int} {n m : Nat} (h : bookB za n zb m = true) : srtO 1 za n = true := by
  simp only [bookB, sideB, Bool.and_eq_true] at h
  exact h.1.2.2
theorem book_srt2 {za zb : List Int} {n m : Nat} (h : bookB za n zb m = true) : srtO 2 zb m = true := by
  simp only [bookB, sideB, Bool.and_eq_true] at h
  exact h.2.1.2.2
theorem meet_mono1 {x : Int} {zs : List Int} {n : Nat} (hx : x ≠ 0) (h : srtO 2 zs n = true) : ∀ i j, i < j → j < n → (fun k => meetB 1 x (price zs k)) j = true → (fun k => meetB 1 x (price zs k)) i = true := fun i j hij hj e => by
  have h1 := srt_pair n h i j hij hj
  unfold betB at h1
  rw [if_neg (by omega)] at h1
  have h2 := of_decide_eq_false h1
  exact (meet_1 hx).2 (by have := (meet_1 hx).1 e; omega)
theorem meet_mono2 {x : Int} {zs : List Int} {n : Nat} (hx : x ≠ 0) (h : srtO 1 zs n = true) : ∀ i j, i < j → j < n → (fun k => meetB 2 x (price zs k)) j = true → (fun k => meetB 2 x (price zs k)) i = true := fun i j hij hj e => by
  have h1 := srt_pair n h i j hij hj
  unfold betB at h1
  rw [if_pos rfl] at h1
  have h2 := of_decide_eq_false h1
  exact (meet_2 hx).2 (by have := (meet_2 hx).1 e; omega)
theorem cr_ok {s x : Int} (h1 : s = 1 ∨ s = 2) (h2 : 0 ≤ x) (h3 : x ≤ 1000000) : crOk true s x = true := by
  unfold crOk sideOkB inB
  rcases h1 with rfl | rfl <;> simp <;> omega
theorem cr_len {bk : Bool} {side lim : Int} {za zb : List Int} {n m M : Nat} (hn : n ≤ M) (hm : m ≤ M) : crN bk side lim za zb n m ≤ M := by
  unfold crN
  split
  · split
    · exact Nat.le_trans (ld_le _ _) hm
    · exact Nat.le_trans (ld_le _ _) hn
  · exact Nat.zero_le _
set_option linter.unusedSimpArgs false in
set_option linter.unusedVariables false in
set_option maxHeartbeats 6400000 in
set_option maxRecDepth 100000 in
theorem law_CrossD (A : Option Addr) (len cap : Nat) (ys : List Int) (w : World) (hrow : IsRow .u8 w A len cap ys) :
    Calls Try.prog 6 #[.slice A len cap] w fun e w' => e = .returned (.bool true) ∧ Below w.heap.size w w' := by
  have hs := src_of_row hrow
  have hl := row_len hrow
  clear hrow
  have hsrc : ∀ w', Below w.heap.size w w' → Src w' w'.heap.size A len := fun w' hb i hi => by
    obtain ⟨b, o, n, h1, h2, h3, h4, h5⟩ := hs i hi
    exact ⟨b, o, n, h1, Nat.lt_of_lt_of_le h2 hb.size, h3, h4, (hb.cell (p := ⟨b, o + i, none⟩) h2).trans h5⟩
  by_cases hbig : 1048576 < len
  · go_enter Try.func6, Try.ntmps6
    go_wp2_with (go_at_call 9; go_in)
    go_ret
    exact ⟨rfl, Below.refl _ _⟩
  go_enter Try.func6, Try.ntmps6
  go_wp2_with (go_at_call 9; go_in)
  refine (DrawCrossing_any A len cap _ hs hl).mono ?_
  rintro e w1 ⟨v1, n, za, v2, m, zb, s, x, rfl, -, hx, hn, hm, TB, D⟩
  unfold I64 at hx
  obtain ⟨A1, c, A2, d, rfl, rfl⟩ := TB.slices
  have kB := heap_alloc_new w1 (.cells #[.slice A1 n c, .slice A2 m d] 26)
  have hba : Below w1.heap.size w1 (w1.alloc (.cells #[.slice A1 n c, .slice A2 m d] 26)) := (Below.refl _ _).alloc (Nat.le_refl _) _
  replace D := D.trans (hba.mono D.size)
  replace TB := TB.below hba
  clear hba
  obtain ⟨p0, p1⟩ := cell2 kB
  go_wp2_with fail
  clear p0 p1
  generalize w1.alloc (.cells #[.slice A1 n c, .slice A2 m d] 26) = w2 at *
  generalize w1.heap.size = X1 at *
  refine (impl_Crossing A1 n c A2 m d za zb s x w2 (Lst.of_own TB.one) (Lst.of_own TB.two) (by omega) (by omega)).mono ?_
  have HC := Lib.hid (cr_len (bk := bookB za n zb m) (side := s) (lim := x) (za := za) (zb := zb) hn hm)
  generalize hsN : crN (bookB za n zb m) s x za zb n m = N at *
  generalize hsC : crZ (bookB za n zb m) s x za zb n m = C at *
  have HN := Lib.hid hsN
  have HCC := Lib.hid hsC
  clear hsN hsC
  rintro e w3 ⟨⟨r, rfl, TC⟩, hb3⟩
  unfold Crossed at TC
  replace D := D.trans (hb3.mono D.size)
  replace TB := TB.below hb3
  replace kB := (hb3.block _ (heap_lt kB)).trans kB
  clear hb3
  obtain ⟨AC, cC, rfl, hNc, _⟩ := own_slice TC
  have hN20 := HC.out
  obtain ⟨p0, p1⟩ := cell2 kB
  go_wp2_with fail
  clear p0 p1
  refine (spec_CrossingO A1 n c A2 m d za zb s x w3 (Lst.of_own TB.one) (Lst.of_own TB.two) (by omega) (by omega) (own_nil TB.one) (own_nil TB.two)).mono ?_
  rw [HN.out, HCC.out]
  rintro e w4 ⟨⟨r, rfl, TW⟩, hb4⟩
  unfold Crossed at TW
  replace D := D.trans (hb4.mono D.size)
  replace TB := TB.below hb4
  replace kB := (hb4.block _ (heap_lt kB)).trans kB
  replace TC := own_below TC hb4
  clear hb4
  obtain ⟨AW, cW, rfl, _, _⟩ := own_slice TW
  go_wp2_with fail
  refine (sameOrders_same AC AW N cC cW C w4 (Lst.of_own TC) (Lst.of_own TW) (by omega)).mono ?_
  rintro e w5 ⟨rfl, hb5⟩
  replace D := D.trans (hb5.mono D.size)
  replace TB := TB.below hb5
  replace kB := (hb5.block _ (heap_lt kB)).trans kB
  replace TC := own_below TC hb5
  replace TW := own_below TW hb5
  clear hb5 TW
  obtain ⟨p0, p1⟩ := cell2 kB
  go_wp2_with fail
  clear p0 p1
  refine (spec_BookOkO A1 n c A2 m d za zb w5 (Lst.of_own TB.one) (Lst.of_own TB.two) (by omega) (by omega) (own_nil TB.one) (own_nil TB.two)).mono ?_
  rintro e w6 ⟨rfl, hb6⟩
  replace D := D.trans (hb6.mono D.size)
  replace TB := TB.below hb6
  replace kB := (hb6.block _ (heap_lt kB)).trans kB
  replace TC := own_below TC hb6
  clear hb6
  generalize hbk : bookB za n zb m = bk
  have HBK := Lib.hid hbk
  clear hbk
  cases bk
  · skip
    obtain ⟨p0, p1⟩ := cell2 kB
    go_wp2_with fail
    clear p0 p1
    refine (spec_CrossingO A1 n c A2 m d za zb s x w6 (Lst.of_own TB.one) (Lst.of_own TB.two) (by omega) (by omega) (own_nil TB.one) (own_nil TB.two)).mono ?_
    rw [HN.out, HCC.out]
    rintro e w7 ⟨⟨r, rfl, TW⟩, hb7⟩
    unfold Crossed at TW
    replace D := D.trans (hb7.mono D.size)
    replace TB := TB.below hb7
    replace kB := (hb7.block _ (heap_lt kB)).trans kB
    replace TC := own_below TC hb7
    obtain ⟨AW, cW, rfl, _, _⟩ := own_slice TW
    go_wp2_with fail
    refine (sameOrders_same AC AW N cC cW C w7 (Lst.of_own TC) (Lst.of_own TW) (by omega)).mono ?_
    rintro e w8 ⟨rfl, hb8⟩
    go_wp2_with fail
    go_ret
    exact ⟨by first | rfl | simp, D.trans (hb8.mono D.size)⟩
  · skip
    by_cases h1 : s < 1
    · skip
      obtain ⟨p0, p1⟩ := cell2 kB
      go_wp2_with fail
      clear p0 p1
      refine (spec_CrossingO A1 n c A2 m d za zb s x w6 (Lst.of_own TB.one) (Lst.of_own TB.two) (by omega) (by omega) (own_nil TB.one) (own_nil TB.two)).mono ?_
      rw [HN.out, HCC.out]
      rintro e w7 ⟨⟨r, rfl, TW⟩, hb7⟩
      unfold Crossed at TW
      replace D := D.trans (hb7.mono D.size)
      replace TB := TB.below hb7
      replace kB := (hb7.block _ (heap_lt kB)).trans kB
      replace TC := own_below TC hb7
      obtain ⟨AW, cW, rfl, _, _⟩ := own_slice TW
      go_wp2_with fail
      refine (sameOrders_same AC AW N cC cW C w7 (Lst.of_own TC) (Lst.of_own TW) (by omega)).mono ?_
      rintro e w8 ⟨rfl, hb8⟩
      go_wp2_with fail
      go_ret
      exact ⟨by first | rfl | simp, D.trans (hb8.mono D.size)⟩
    by_cases h2 : 2 < s
    · skip
      obtain ⟨p0, p1⟩ := cell2 kB
      go_wp2_with fail
      clear p0 p1
      refine (spec_CrossingO A1 n c A2 m d za zb s x w6 (Lst.of_own TB.one) (Lst.of_own TB.two) (by omega) (by omega) (own_nil TB.one) (own_nil TB.two)).mono ?_
      rw [HN.out, HCC.out]
      rintro e w7 ⟨⟨r, rfl, TW⟩, hb7⟩
      unfold Crossed at TW
      replace D := D.trans (hb7.mono D.size)
      replace TB := TB.below hb7
      replace kB := (hb7.block _ (heap_lt kB)).trans kB
      replace TC := own_below TC hb7
      obtain ⟨AW, cW, rfl, _, _⟩ := own_slice TW
      go_wp2_with fail
      refine (sameOrders_same AC AW N cC cW C w7 (Lst.of_own TC) (Lst.of_own TW) (by omega)).mono ?_
      rintro e w8 ⟨rfl, hb8⟩
      go_wp2_with fail
      go_ret
      exact ⟨by first | rfl | simp, D.trans (hb8.mono D.size)⟩
    by_cases h3 : x < 2
    · skip
      obtain ⟨p0, p1⟩ := cell2 kB
      go_wp2_with fail
      clear p0 p1
      refine (spec_CrossingO A1 n c A2 m d za zb s x w6 (Lst.of_own TB.one) (Lst.of_own TB.two) (by omega) (by omega) (own_nil TB.one) (own_nil TB.two)).mono ?_
      rw [HN.out, HCC.out]
      rintro e w7 ⟨⟨r, rfl, TW⟩, hb7⟩
      unfold Crossed at TW
      replace D := D.trans (hb7.mono D.size)
      replace TB := TB.below hb7
      replace kB := (hb7.block _ (heap_lt kB)).trans kB
      replace TC := own_below TC hb7
      obtain ⟨AW, cW, rfl, _, _⟩ := own_slice TW
      go_wp2_with fail
      refine (sameOrders_same AC AW N cC cW C w7 (Lst.of_own TC) (Lst.of_own TW) (by omega)).mono ?_
      rintro e w8 ⟨rfl, hb8⟩
      go_wp2_with fail
      go_ret
      exact ⟨by first | rfl | simp, D.trans (hb8.mono D.size)⟩
    by_cases h4 : 1000000 ≤ x
    · skip
      obtain ⟨p0, p1⟩ := cell2 kB
      go_wp2_with fail
      clear p0 p1
      refine (spec_CrossingO A1 n c A2 m d za zb s x w6 (Lst.of_own TB.one) (Lst.of_own TB.two) (by omega) (by omega) (own_nil TB.one) (own_nil TB.two)).mono ?_
      rw [HN.out, HCC.out]
      rintro e w7 ⟨⟨r, rfl, TW⟩, hb7⟩
      unfold Crossed at TW
      replace D := D.trans (hb7.mono D.size)
      replace TB := TB.below hb7
      replace kB := (hb7.block _ (heap_lt kB)).trans kB
      replace TC := own_below TC hb7
      obtain ⟨AW, cW, rfl, _, _⟩ := own_slice TW
      go_wp2_with fail
      refine (sameOrders_same AC AW N cC cW C w7 (Lst.of_own TC) (Lst.of_own TW) (by omega)).mono ?_
      rintro e w8 ⟨rfl, hb8⟩
      go_wp2_with fail
      go_ret
      exact ⟨by first | rfl | simp, D.trans (hb8.mono D.size)⟩
    rcases (show s = 1 ∨ s = 2 by omega) with rfl | rfl
    · have hle : N ≤ m := by rw [← HN.out, HBK.out, crN_1 (cr_ok (by omega) (by omega) (by omega))]; exact ld_le _ _
      have HNl := Lib.hid (show lead (fun k => meetB 1 x (price zb k)) m = N by rw [← HN.out, HBK.out, crN_1 (cr_ok (by omega) (by omega) (by omega))])
      have HCl := Lib.hid (show C = zb.take (N * 4) by rw [← HCC.out, ← HNl.out, HBK.out, crZ_1 (cr_ok (by omega) (by omega) (by omega))])
      obtain ⟨p0, p1⟩ := cell2 kB
      go_wp2_with fail
      clear p0 p1
      refine (impl_Side A1 n c A2 m d za zb 2 w6 (Lst.of_own TB.one) (Lst.of_own TB.two) (by omega) (by omega)).mono ?_
      rw [HBK.out, show sideN true 2 n m = m by simp [sideN], show sideZ true 2 za zb = zb by simp [sideZ]]
      rintro e w7 ⟨⟨r, rfl, TL⟩, hb7⟩
      replace D := D.trans (hb7.mono D.size)
      replace TB := TB.below hb7
      replace kB := (hb7.block _ (heap_lt kB)).trans kB
      replace TC := own_below TC hb7
      clear hb7
      obtain ⟨AL, cL, rfl, hLc, hLm⟩ := own_slice TL
      have hgt : ¬ (m : Int) < (N : Int) := by omega
      go_wp2_with fail
      have TC2 := TC
      rw [HCl.out] at TC2
      refine (sameOrders_same AC AL N cC cL (zb.take (N * 4)) w7 (Lst.of_own TC2) ((Lst.of_own TL).take hle) (by omega)).mono ?_
      rintro e w8 ⟨rfl, hb8⟩
      replace D := D.trans (hb8.mono D.size)
      replace TB := TB.below hb8
      replace kB := (hb8.block _ (heap_lt kB)).trans kB
      replace TC := own_below TC hb8
      replace TL := own_below TL hb8
      clear hb8 TC2 hgt
      go_wp2_with fail
      go_loopw [8] (fun i wr => ∃ k : Nat, k ≤ m ∧ i = .int .i64 (k : Int) ∧ Below w8.heap.size w8 wr) (fun i _ => m - (intOf i).toNat)
      case atStart => exact ⟨0, Nat.zero_le _, rfl, Below.refl _ _⟩
      case round =>
        obtain ⟨k, hk, rfl, hbr⟩ := hrel
        replace D := D.trans (hbr.mono D.size)
        replace TB := TB.below hbr
        replace kB := (hbr.block _ (heap_lt kB)).trans kB
        replace TC := own_below TC hbr
        replace TL := own_below TL hbr
        by_cases hlt : k < m
        · obtain ⟨b, o, hax, hbo, -, -, c2, -⟩ := (Lst.of_own TL).row4 hlt
          subst hax
          by_cases hkn : k < N
          · have hpr : num zb (k * 4 + 2) ≤ x := (meet_1 (by omega)).1 (ld_before (f := fun k => meetB 1 x (price zb k)) m k (by rw [HNl.out]; exact hkn))
            have hk2 : (k : Int) < (N : Int) := by omega
            go_wp2_with fail
            go_roundw
            case rel => exact ⟨k + 1, by omega, by go_num, hbr⟩
            case measure => simp [intOf]; omega
          · have hpr : ¬ num zb (k * 4 + 2) ≤ x := fun h => ld_after (f := fun k => meetB 1 x (price zb k)) m (meet_mono1 (by omega) (book_srt2 HBK.out)) k (by rw [HNl.out]; omega) hlt ((meet_1 (by omega)).2 h)
            have hk2 : ¬ (k : Int) < (N : Int) := by omega
            go_wp2_with fail
            go_roundw
            case rel => exact ⟨k + 1, by omega, by go_num, hbr⟩
            case measure => simp [intOf]; omega
        · obtain rfl : m = k := by omega
          obtain ⟨p0, p1⟩ := cell2 kB
          have hwr : IntKind.i64.wrap (x + 1) = x + 1 := by rw [IntKind.wrap_i64]; omega
          go_wp2_with fail
          refine (impl_Crossing A1 n c A2 m d za zb 1 (x + 1) wr (Lst.of_own TB.one) (Lst.of_own TB.two) (by omega) (by omega)).mono ?_
          rintro e w9 ⟨⟨r, rfl, TW⟩, hb9⟩
          unfold Crossed at TW
          replace D := D.trans (hb9.mono D.size)
          replace TB := TB.below hb9
          replace kB := (hb9.block _ (heap_lt kB)).trans kB
          replace TC := own_below TC hb9
          replace TL := own_below TL hb9
          obtain ⟨AW, cW, rfl, _, _⟩ := own_slice TW
          skip
          have hge : N ≤ crN (bookB za n zb m) 1 (x + 1) za zb n m := by rw [HBK.out, crN_1 (cr_ok (by omega) (by omega) (by omega)), ← HNl.out]; exact ld_mono _ (fun j _ h => (meet_1 (by omega)).2 (by have := (meet_1 (by omega)).1 h; omega))
          generalize crN (bookB za n zb m) 1 (x + 1) za zb n m = N2 at *
          have hge2 : ¬ (N2 : Int) < (N : Int) := by omega
          clear p0 p1
          obtain ⟨p0, p1⟩ := cell2 kB
          go_wp2_with fail
          clear p0 p1
          refine (impl_Crossing A1 n c A2 m d za zb 1 0 w9 (Lst.of_own TB.one) (Lst.of_own TB.two) (by omega) (by omega)).mono ?_
          rintro e w10 ⟨⟨r, rfl, TW0⟩, hb10⟩
          unfold Crossed at TW0
          obtain ⟨AW0, cW0, rfl, _, _⟩ := own_slice TW0
          have hN0 : crN (bookB za n zb m) 1 0 za zb n m = m := by rw [HBK.out, crN_1 (cr_ok (by omega) (by omega) (by omega))]; exact ld_full _ (fun j _ => rfl)
          rw [hN0]
          go_wp2_with fail
          go_ret
          exact ⟨by first | rfl | simp, D.trans (hb10.mono D.size)⟩
    · have hle : N ≤ n := by rw [← HN.out, HBK.out, crN_2 (cr_ok (by omega) (by omega) (by omega))]; exact ld_le _ _
      have HNl := Lib.hid (show lead (fun k => meetB 2 x (price za k)) n = N by rw [← HN.out, HBK.out, crN_2 (cr_ok (by omega) (by omega) (by omega))])
      have HCl := Lib.hid (show C = za.take (N * 4) by rw [← HCC.out, ← HNl.out, HBK.out, crZ_2 (cr_ok (by omega) (by omega) (by omega))])
      obtain ⟨p0, p1⟩ := cell2 kB
      go_wp2_with fail
      clear p0 p1
      refine (impl_Side A1 n c A2 m d za zb 1 w6 (Lst.of_own TB.one) (Lst.of_own TB.two) (by omega) (by omega)).mono ?_
      rw [HBK.out, show sideN true 1 n m = n by simp [sideN], show sideZ true 1 za zb = za by simp [sideZ]]
      rintro e w7 ⟨⟨r, rfl, TL⟩, hb7⟩
      replace D := D.trans (hb7.mono D.size)
      replace TB := TB.below hb7
      replace kB := (hb7.block _ (heap_lt kB)).trans kB
      replace TC := own_below TC hb7
      clear hb7
      obtain ⟨AL, cL, rfl, hLc, hLm⟩ := own_slice TL
      have hgt : ¬ (n : Int) < (N : Int) := by omega
      go_wp2_with fail
      have TC2 := TC
      rw [HCl.out] at TC2
      refine (sameOrders_same AC AL N cC cL (za.take (N * 4)) w7 (Lst.of_own TC2) ((Lst.of_own TL).take hle) (by omega)).mono ?_
      rintro e w8 ⟨rfl, hb8⟩
      replace D := D.trans (hb8.mono D.size)
      replace TB := TB.below hb8
      replace kB := (hb8.block _ (heap_lt kB)).trans kB
      replace TC := own_below TC hb8
      replace TL := own_below TL hb8
      clear hb8 TC2 hgt
      go_wp2_with fail
      go_loopw [8] (fun i wr => ∃ k : Nat, k ≤ n ∧ i = .int .i64 (k : Int) ∧ Below w8.heap.size w8 wr) (fun i _ => n - (intOf i).toNat)
      case atStart => exact ⟨0, Nat.zero_le _, rfl, Below.refl _ _⟩
      case round =>
        obtain ⟨k, hk, rfl, hbr⟩ := hrel
        replace D := D.trans (hbr.mono D.size)
        replace TB := TB.below hbr
        replace kB := (hbr.block _ (heap_lt kB)).trans kB
        replace TC := own_below TC hbr
        replace TL := own_below TL hbr
        by_cases hlt : k < n
        · obtain ⟨b, o, hax, hbo, -, -, c2, -⟩ := (Lst.of_own TL).row4 hlt
          subst hax
          by_cases hkn : k < N
          · have hpr : x ≤ num za (k * 4 + 2) := (meet_2 (by omega)).1 (ld_before (f := fun k => meetB 2 x (price za k)) n k (by rw [HNl.out]; exact hkn))
            have hk2 : (k : Int) < (N : Int) := by omega
            go_wp2_with fail
            go_roundw
            case rel => exact ⟨k + 1, by omega, by go_num, hbr⟩
            case measure => simp [intOf]; omega
          · have hpr : ¬ x ≤ num za (k * 4 + 2) := fun h => ld_after (f := fun k => meetB 2 x (price za k)) n (meet_mono2 (by omega) (book_srt1 HBK.out)) k (by rw [HNl.out]; omega) hlt ((meet_2 (by omega)).2 h)
            have hk2 : ¬ (k : Int) < (N : Int) := by omega
            go_wp2_with fail
            go_roundw
            case rel => exact ⟨k + 1, by omega, by go_num, hbr⟩
            case measure => simp [intOf]; omega
        · obtain rfl : n = k := by omega
          obtain ⟨p0, p1⟩ := cell2 kB
          have hwr : IntKind.i64.wrap (x + 1) = x + 1 := by rw [IntKind.wrap_i64]; omega
          have hwr2 : IntKind.i64.wrap (x - 1) = x - 1 := by rw [IntKind.wrap_i64]; omega
          go_wp2_with fail
          refine (impl_Crossing A1 n c A2 m d za zb 2 (x - 1) wr (Lst.of_own TB.one) (Lst.of_own TB.two) (by omega) (by omega)).mono ?_
          rintro e w9 ⟨⟨r, rfl, TW⟩, hb9⟩
          unfold Crossed at TW
          replace D := D.trans (hb9.mono D.size)
          replace TB := TB.below hb9
          replace kB := (hb9.block _ (heap_lt kB)).trans kB
          replace TC := own_below TC hb9
          replace TL := own_below TL hb9
          obtain ⟨AW, cW, rfl, _, _⟩ := own_slice TW
          skip
          have hge : N ≤ crN (bookB za n zb m) 2 (x - 1) za zb n m := by rw [HBK.out, crN_2 (cr_ok (by omega) (by omega) (by omega)), ← HNl.out]; exact ld_mono _ (fun j _ h => (meet_2 (by omega)).2 (by have := (meet_2 (by omega)).1 h; omega))
          generalize crN (bookB za n zb m) 2 (x - 1) za zb n m = N2 at *
          have hge2 : ¬ (N2 : Int) < (N : Int) := by omega
          clear p0 p1
          obtain ⟨p0, p1⟩ := cell2 kB
          go_wp2_with fail
          clear p0 p1
          refine (impl_Crossing A1 n c A2 m d za zb 2 0 w9 (Lst.of_own TB.one) (Lst.of_own TB.two) (by omega) (by omega)).mono ?_
          rintro e w10 ⟨⟨r, rfl, TW0⟩, hb10⟩
          unfold Crossed at TW0
          obtain ⟨AW0, cW0, rfl, _, _⟩ := own_slice TW0
          have hN0 : crN (bookB za n zb m) 2 0 za zb n m = n := by rw [HBK.out, crN_2 (cr_ok (by omega) (by omega) (by omega))]; exact ld_full _ (fun j _ => rfl)
          rw [hN0]
          go_wp2_with fail
          go_ret
          exact ⟨by first | rfl | simp, D.trans (hb10.mono D.size)⟩
end Go.Proofs.Ytnldfbcelakimaa
