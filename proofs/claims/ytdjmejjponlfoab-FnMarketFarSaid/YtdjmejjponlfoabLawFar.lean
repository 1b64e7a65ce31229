/-
  The drawn law of an order without a limit.
-/
import Derived.Test.YtdjmejjponlfoabGD
import Derived.Test.YtdjmejjponlfoabGU
import Derived.Test.YtdjmejjponlfoabGF
import Derived.Test.YtdjmejjponlfoabGS
import Derived.Test.YtdjmejjponlfoabLawInts
import Derived.Test.YtdjmejjponlfoabLawCell
namespace Go.Proofs.Ytdjmejjponlfoab
open Go.RowKit Wire

theorem m_len {za zb : List Int} {n m : Nat} {rg : Bool} {side oi oa op oq mode : Int} (ha : za.length = n * 4) (hb : zb.length = m * 4) (h : rgB za n zb m side oi oa op oq mode = rg) (hn : n ≤ 20) (hm : m ≤ 20) :
    (mZ1 rg side oi oa op oq mode za zb).length / 4 ≤ 20 ∧ (mZ2 rg side oi oa op oq mode za zb).length / 4 ≤ 20 ∧ (mRR rg side oi oa op oq mode za zb).length / 8 ≤ 41 := by
  cases rg
  · simp [mZ1, mZ2, mRR]
  · have R := rg_oth h ha hb
    obtain ⟨M, N, e1, e2, e3, e4⟩ := mtS_len (side := side) (id := oi) (acct := oa) (pr := op) (mode := mode) (othN side n m) (Z := othZ side za zb) (R := []) (q := oq) 0 R.len rfl
    have hle := R.le
    unfold mZ1 mZ2 mRR mtA
    rw [if_pos rfl, if_pos rfl, if_pos rfl]
    unfold othZ at e1 e3
    rw [e3]
    refine ⟨?_, ?_, by omega⟩ <;> split <;> first | omega | (rw [e1]; omega) | simp_all <;> omega
theorem rg_farS {za zb : List Int} {n m : Nat} {oi oa oq mode fp SD : Int} (hSD : SD = 1 ∧ fp = 1000000 ∨ SD = 2 ∧ fp = 1) (h : rgB za n zb m SD oi oa 0 oq mode = true) (ha : za.length = n * 4) (hb : zb.length = m * 4) :
    rgB za n zb m SD oi oa fp oq mode = true ∧ mZ1 true SD oi oa fp oq mode za zb = mZ1 true SD oi oa 0 oq mode za zb ∧ mZ2 true SD oi oa fp oq mode za zb = mZ2 true SD oi oa 0 oq mode za zb ∧ mLL true SD oi oa fp oq mode za zb = mLL true SD oi oa 0 oq mode za zb ∧
    sumTo (mRR true SD oi oa fp oq mode za zb) oi ((mRR true SD oi oa fp oq mode za zb).length / 8) = sumTo (mRR true SD oi oa 0 oq mode za zb) oi ((mRR true SD oi oa 0 oq mode za zb).length / 8) := by
  have R := rg_oth h ha hb
  obtain ⟨h1, h2, h3, h4, h5, -⟩ := rg_parts h
  have hr2 : rgB za n zb m SD oi oa fp oq mode = true := by
    unfold rgB
    unfold incB at h3 ⊢
    simp only [Bool.and_eq_true] at h3 ⊢
    refine ⟨h1, h2, ⟨h3.1, h3.2.1, ?_, h3.2.2.2⟩, h4, by rw [h5]; rfl⟩
    simp only [inB, Bool.and_eq_true, decide_eq_true_eq]
    omega
  have hord : ∀ k, k < othN SD n m → ordB (othZ SD za zb) k = true := fun k hk => by
    simp only [bookB, sideB, Bool.and_eq_true] at h1
    unfold othZ othN at *
    by_cases hs : SD = 1
    · simp only [if_pos hs] at *
      exact allO_at m k h1.2.1.2.1 hk
    · simp only [if_neg hs] at *
      exact allO_at n k h1.1.2.1 hk
  have hmeet : ∀ k, k < othN SD n m → meetB SD fp (num (othZ SD za zb) (k * 4 + 2)) = meetB SD 0 (num (othZ SD za zb) (k * 4 + 2)) := fun k hk => by
    have ho := hord k hk
    unfold ordB at ho
    simp only [inB, Bool.and_eq_true, decide_eq_true_eq] at ho
    generalize num (othZ SD za zb) (k * 4 + 2) = pz at *
    unfold meetB betB
    rcases hSD with ⟨e1, e2⟩ | ⟨e1, e2⟩
    · rw [e1, e2]
      simp
      omega
    · rw [e1, e2]
      simp
      omega
  obtain ⟨a1, a2, a3⟩ := mt_alike (side := SD) (id := oi) (acct := oa) (pr := fp) (pr2 := 0) (mode := mode) (othN SD n m) (Z := othZ SD za zb) (R := []) (R2 := []) (q := oq) 0 0 R.len rfl rfl hmeet
  refine ⟨hr2, ?_, ?_, ?_, ?_⟩
  · unfold mZ1 mtA
    rw [if_pos rfl, if_pos rfl]
    split
    · rfl
    · rename_i hs
      unfold othZ at a1
      rw [if_neg hs] at a1
      exact a1
  · unfold mZ2 mtA
    rw [if_pos rfl, if_pos rfl]
    split
    · rename_i hs
      unfold othZ at a1
      rw [if_pos hs] at a1
      exact a1
    · rfl
  · unfold mLL mtA
    rw [if_pos rfl, if_pos rfl]
    exact a2
  · unfold mRR mtA
    rw [if_pos rfl, if_pos rfl]
    unfold othZ at a3
    simp only [sumTo] at a3
    omega
theorem rg_side {za zb : List Int} {n m : Nat} {side oi oa op oq mode : Int} (h : rgB za n zb m side oi oa op oq mode = true) : side = 1 ∨ side = 2 := by
  have hs := (rg_parts h).2.1
  rcases side_cases side with ⟨rfl, -⟩ | ⟨rfl, -⟩ | ⟨-, -, hno⟩
  · exact .inl rfl
  · exact .inr rfl
  · rw [hno] at hs
    exact absurd hs (by decide)
set_option linter.unusedSimpArgs false in
set_option linter.unusedVariables false in
set_option maxHeartbeats 6400000 in
set_option maxRecDepth 100000 in
theorem law_Far (A : Option Addr) (len cap : Nat) (ys : List Int) (w : World) (hrow : IsRow .u8 w A len cap ys) :
    Calls Try.prog 8 #[.slice A len cap] w fun e w' => e = .returned (.bool true) ∧ Below w.heap.size w w' := by
  have hs := src_of_row hrow
  have hl := row_len hrow
  clear hrow
  have hsrc : ∀ w', Below w.heap.size w w' → Src w' w'.heap.size A len := fun w' hb i hi => by
    obtain ⟨b, o, n, h1, h2, h3, h4, h5⟩ := hs i hi
    exact ⟨b, o, n, h1, Nat.lt_of_lt_of_le h2 hb.size, h3, h4, (hb.cell (p := ⟨b, o + i, none⟩) h2).trans h5⟩
  by_cases hbig : 1048576 < len
  · go_enter Try.func8, Try.ntmps8
    go_wp2_with (go_at_call 9; go_in)
    go_ret
    exact ⟨rfl, Below.refl _ _⟩
  go_enter Try.func8, Try.ntmps8
  go_wp2_with (go_at_call 9; go_in)
  refine (DrawMatched_any A len cap _ hs hl).mono ?_
  rintro e w1 ⟨v1, n, za, v2, m, zb, s, oi, oa, opx, oq, md, rfl, hn, hm, TB, D⟩
  obtain ⟨A1, c, A2, d, rfl, rfl⟩ := TB.slices
  have hlA : za.length = n * 4 := by have := TB.one.1; rwa [nums_length] at this
  have hlB : zb.length = m * 4 := by have := TB.two.1; rwa [nums_length] at this
  have hTo1 : ∀ q, (Value.slice A1 n c).ownBlock = some q → q < w1.heap.size := fun q e => (TB.one.lt q e).2
  have hTo2 : ∀ q, (Value.slice A2 m d).ownBlock = some q → q < w1.heap.size := fun q e => (TB.two.lt q e).2
  have hX1 := D.size
  obtain ⟨kB, kO⟩ := two_blocks w1 (.cells #[.slice A1 n c, .slice A2 m d] 26) (.cells #[.int .i64 oi, .int .i64 oa, .int .i64 opx, .int .i64 oq] 28)
  have hba : Below w1.heap.size w1 ((w1.alloc (.cells #[.slice A1 n c, .slice A2 m d] 26)).alloc (.cells #[.int .i64 oi, .int .i64 oa, .int .i64 opx, .int .i64 oq] 28)) := ((Below.refl _ _).alloc (Nat.le_refl _) _).alloc (by simp) _
  replace D := D.trans (hba.mono D.size)
  replace TB := TB.below hba
  clear hba
  obtain ⟨o0, o1, o2, o3, f0, f1, f2, f3⟩ := ord_cell kO
  go_upto_region 4 with fail
  clear o0 o1 o3 f0 f1 f3
  generalize ((w1.alloc (.cells #[.slice A1 n c, .slice A2 m d] 26)).alloc (.cells #[.int .i64 oi, .int .i64 oa, .int .i64 opx, .int .i64 oq] 28)) = w2 at *
  generalize w1.heap.size = X1 at *
  have kO2 := Lib.hid (ord_set kO 2 (.int .i64 0))
  have kB2 := Lib.hid (mset_other (i := 2) (u := .int .i64 0) kB (show X1 ≠ X1 + 1 by omega))
  have D2 := Lib.hid (D.setCell (p := ⟨X1 + 1, 2, none⟩) (show w.heap.size ≤ X1 + 1 by omega) (.int .i64 0))
  have TB2 := Lib.hid (TB.put (set_grown w2 (X1 + 1) 2 (.int .i64 0)) (fun e => absurd (hTo1 _ e) (by omega)) (fun e => absurd (hTo2 _ e) (by omega)))
  have z2 := mfree kO 2
  go_upto_region 5 with fail
  clear o2 f2 z2 kO kB D TB
  generalize w2.setCell ⟨X1 + 1, 2, none⟩ (.int .i64 0) = wf at *
  have kO := kO2.out
  simp at kO
  have kB := kB2.out
  have D := D2.out
  have TB := TB2.out
  clear kO2 kB2 D2 TB2 hTo1 hTo2
  obtain ⟨op, hop⟩ : ∃ x : Int, (0 : Int) = x := ⟨0, rfl⟩
  rw [hop] at kO
  have HOP := Lib.hid hop
  clear hop
  obtain ⟨p0, p1⟩ := cell2 kB
  obtain ⟨o0, o1, o2, o3, -⟩ := ord_cell kO
  go_wp2_with fail
  clear p0 p1 o0 o1 o2 o3
  generalize wf = w2 at *
  obtain ⟨rg, hrg⟩ : ∃ x, rgB za n zb m s oi oa op oq md = x := ⟨_, rfl⟩
  have HRG := Lib.hid hrg
  have hLN := m_len hlA hlB hrg hn hm
  obtain ⟨Y1, hsY1⟩ : ∃ x, mZ1 rg s oi oa op oq md za zb = x := ⟨_, rfl⟩
  obtain ⟨Y2, hsY2⟩ : ∃ x, mZ2 rg s oi oa op oq md za zb = x := ⟨_, rfl⟩
  obtain ⟨RR, hsRR⟩ : ∃ x, mRR rg s oi oa op oq md za zb = x := ⟨_, rfl⟩
  obtain ⟨lf, hslf⟩ : ∃ x, mLL rg s oi oa op oq md za zb = x := ⟨_, rfl⟩
  rw [hsY1, hsY2, hsRR] at hLN
  obtain ⟨N1, hsN1⟩ : ∃ x, Y1.length / 4 = x := ⟨_, rfl⟩
  obtain ⟨N2, hsN2⟩ : ∃ x, Y2.length / 4 = x := ⟨_, rfl⟩
  obtain ⟨N3, hsN3⟩ : ∃ x, RR.length / 8 = x := ⟨_, rfl⟩
  rw [hsN1, hsN2, hsN3] at hLN
  obtain ⟨hN1, hN2, hN3⟩ := hLN
  have HY1 := Lib.hid hsY1
  have HY2 := Lib.hid hsY2
  have HRR := Lib.hid hsRR
  have Hlf := Lib.hid hslf
  have HN1 := Lib.hid hsN1
  have HN2 := Lib.hid hsN2
  have HN3 := Lib.hid hsN3
  have hcon := (impl_Matched A1 n c A2 m d za zb s oi oa op oq md w2 (Lst.of_own TB.one) (Lst.of_own TB.two) (by omega) (by omega)).mono (fun e w' h => (⟨mans_len h.1, h.2⟩ : _ ∧ _))
  rw [hrg, hsY1, hsY2, hsRR, hslf, hsN1, hsN2, hsN3] at hcon
  refine hcon.mono ?_
  clear hcon
  rintro e w3 ⟨⟨t1, t2, t3, rfl, TI, RI⟩, hbm⟩
  obtain ⟨BI, bI, CI, cI, rfl, rfl⟩ := TI.slices
  obtain ⟨EI, eI, rfl, _, _⟩ := own_slice RI
  replace D := D.trans (hbm.mono D.size)
  replace TB := TB.below hbm
  replace kB := (hbm.block _ (heap_lt kB)).trans kB
  replace kO := (hbm.block _ (heap_lt kO)).trans kO
  clear hbm
  have kN := heap_alloc_new w3 (.cells #[.slice BI N1 bI, .slice CI N2 cI] 26)
  have hba : Below w3.heap.size w3 (w3.alloc (.cells #[.slice BI N1 bI, .slice CI N2 cI] 26)) := (Below.refl _ _).alloc (Nat.le_refl _) _
  replace D := D.trans (hba.mono D.size)
  replace TB := TB.below hba
  replace kB := (hba.block _ (heap_lt kB)).trans kB
  replace kO := (hba.block _ (heap_lt kO)).trans kO
  replace TI := TI.below hba
  replace RI := own_below RI hba
  clear hba
  obtain ⟨p0, p1⟩ := cell2 kB
  obtain ⟨o0, o1, o2, o3, -⟩ := ord_cell kO
  go_wp2_with fail
  clear p0 p1 o0 o1 o2 o3
  generalize w3.alloc (.cells #[.slice BI N1 bI, .slice CI N2 cI] 26) = w4 at *
  generalize w3.heap.size = X2 at *
  have hcon := (spec_Matched A1 n c A2 m d za zb s oi oa op oq md w4 (Lst.of_own TB.one) (Lst.of_own TB.two) (by omega) (by omega) (own_nil TB.one) (own_nil TB.two)).mono (fun e w' h => (⟨mans_len h.1, h.2⟩ : _ ∧ _))
  rw [hrg, hsY1, hsY2, hsRR, hslf, hsN1, hsN2, hsN3] at hcon
  refine hcon.mono ?_
  clear hcon
  rintro e w5 ⟨⟨t1, t2, t3, rfl, TS, RS⟩, hbm⟩
  obtain ⟨BS, bS, CS, cS, rfl, rfl⟩ := TS.slices
  obtain ⟨ES, eS, rfl, _, _⟩ := own_slice RS
  replace D := D.trans (hbm.mono D.size)
  replace TB := TB.below hbm
  replace kB := (hbm.block _ (heap_lt kB)).trans kB
  replace kO := (hbm.block _ (heap_lt kO)).trans kO
  replace TI := TI.below hbm
  replace RI := own_below RI hbm
  replace kN := (hbm.block _ (heap_lt kN)).trans kN
  clear hbm
  clear hsY1 hsY2 hsRR hslf hsN1 hsN2 hsN3 hrg
  have kM := heap_alloc_new w5 (.cells #[.slice BS N1 bS, .slice CS N2 cS] 26)
  have hba : Below w5.heap.size w5 (w5.alloc (.cells #[.slice BS N1 bS, .slice CS N2 cS] 26)) := (Below.refl _ _).alloc (Nat.le_refl _) _
  replace D := D.trans (hba.mono D.size)
  replace TB := TB.below hba
  replace kB := (hba.block _ (heap_lt kB)).trans kB
  replace kO := (hba.block _ (heap_lt kO)).trans kO
  replace TI := TI.below hba
  replace RI := own_below RI hba
  replace kN := (hba.block _ (heap_lt kN)).trans kN
  replace TS := TS.below hba
  clear hba RS
  have hll : (lf != lf) = false := by simp
  have hll2 : (lf == lf) = true := by simp
  go_upto_region 7 with fail
  generalize w5.alloc (.cells #[.slice BS N1 bS, .slice CS N2 cS] 26) = w6 at *
  generalize w5.heap.size = X3 at *
  cases rg
  · skip
    obtain ⟨p0, p1⟩ := cell2 kN
    obtain ⟨r0, r1⟩ := cell2 kM
    go_wp2_with fail
    clear p0 p1 r0 r1
    refine (sameBook_same _ _ _ _ N1 N2 _ _ _ _ Y1 Y2 w6 TI.bookIn TS.bookIn (by omega) (by omega)).mono ?_
    rintro e w7 ⟨rfl, hbs⟩
    replace D := D.trans (hbs.mono D.size)
    replace TB := TB.below hbs
    replace kB := (hbs.block _ (heap_lt kB)).trans kB
    replace kO := (hbs.block _ (heap_lt kO)).trans kO
    replace TI := TI.below hbs
    replace RI := own_below RI hbs
    replace kN := (hbs.block _ (heap_lt kN)).trans kN
    replace TS := TS.below hbs
    replace kM := (hbs.block _ (heap_lt kM)).trans kM
    clear hbs
    obtain ⟨p0, p1⟩ := cell2 kN
    obtain ⟨r0, r1⟩ := cell2 kM
    go_wp2_with fail
    clear p0 p1 r0 r1
    refine (sameBook_same _ _ _ _ N1 N2 _ _ _ _ Y1 Y2 w7 TI.bookIn TS.bookIn (by omega) (by omega)).mono ?_
    rintro e w8 ⟨rfl, hbs⟩
    replace D := D.trans (hbs.mono D.size)
    replace TB := TB.below hbs
    replace kB := (hbs.block _ (heap_lt kB)).trans kB
    replace kO := (hbs.block _ (heap_lt kO)).trans kO
    replace TI := TI.below hbs
    replace RI := own_below RI hbs
    replace kN := (hbs.block _ (heap_lt kN)).trans kN
    replace TS := TS.below hbs
    replace kM := (hbs.block _ (heap_lt kM)).trans kM
    clear hbs
    go_wp2_with fail
    go_ret
    exact ⟨by first | rfl | simp, D⟩
  · skip
    obtain ⟨p0, p1⟩ := cell2 kN
    obtain ⟨r0, r1⟩ := cell2 kM
    go_wp2_with fail
    clear p0 p1 r0 r1
    refine (sameBook_same _ _ _ _ N1 N2 _ _ _ _ Y1 Y2 w6 TI.bookIn TS.bookIn (by omega) (by omega)).mono ?_
    rintro e w7 ⟨rfl, hbs⟩
    replace D := D.trans (hbs.mono D.size)
    replace TB := TB.below hbs
    replace kB := (hbs.block _ (heap_lt kB)).trans kB
    replace kO := (hbs.block _ (heap_lt kO)).trans kO
    replace TI := TI.below hbs
    replace RI := own_below RI hbs
    replace kN := (hbs.block _ (heap_lt kN)).trans kN
    replace TS := TS.below hbs
    replace kM := (hbs.block _ (heap_lt kM)).trans kM
    clear hbs
    clear kM TS
    have hTb1 : ∀ q, (Value.slice A1 n c).ownBlock = some q → q < w7.heap.size := fun q e => (TB.one.lt q e).2
    have hTb2 : ∀ q, (Value.slice A2 m d).ownBlock = some q → q < w7.heap.size := fun q e => (TB.two.lt q e).2
    have hTi1 : ∀ q, (Value.slice BI N1 bI).ownBlock = some q → q < w7.heap.size := fun q e => (TI.one.lt q e).2
    have hTi2 : ∀ q, (Value.slice CI N2 cI).ownBlock = some q → q < w7.heap.size := fun q e => (TI.two.lt q e).2
    have hXN : X2 < w7.heap.size := heap_lt kN
    have hXB : X1 < w7.heap.size := heap_lt kB
    have hXO : X1 + 1 < w7.heap.size := heap_lt kO
    have hXw := D.size
    obtain ⟨o0, o1, o2, o3, -⟩ := ord_cell kO
    have kF := heap_alloc_new w7 (.cells #[.int .i64 oi, .int .i64 oa, .int .i64 op, .int .i64 oq] 28)
    have hba : Below w7.heap.size w7 (w7.alloc (.cells #[.int .i64 oi, .int .i64 oa, .int .i64 op, .int .i64 oq] 28)) := (Below.refl _ _).alloc (Nat.le_refl _) _
    replace D := D.trans (hba.mono D.size)
    replace TB := TB.below hba
    replace kB := (hba.block _ (heap_lt kB)).trans kB
    replace kO := (hba.block _ (heap_lt kO)).trans kO
    replace TI := TI.below hba
    replace RI := own_below RI hba
    replace kN := (hba.block _ (heap_lt kN)).trans kN
    clear hba
    go_upto_region 10 with fail
    clear o0 o1 o2 o3
    generalize w7.alloc (.cells #[.int .i64 oi, .int .i64 oa, .int .i64 op, .int .i64 oq] 28) = w8 at *
    generalize w7.heap.size = X5 at *
    have kF2 := Lib.hid (ord_set kF 2 (.int .i64 1000000))
    have kN2 := Lib.hid (mset_other (i := 2) (u := (.int .i64 1000000)) kN (show X2 ≠ X5 by omega))
    have kB2 := Lib.hid (mset_other (i := 2) (u := (.int .i64 1000000)) kB (show X1 ≠ X5 by omega))
    have kO2 := Lib.hid (mset_other (i := 2) (u := (.int .i64 1000000)) kO (show X1 + 1 ≠ X5 by omega))
    have D2 := Lib.hid (D.setCell (p := ⟨X5, 2, none⟩) hXw (.int .i64 1000000))
    have TB2 := Lib.hid (TB.put (set_grown w8 X5 2 (.int .i64 1000000)) (fun e => absurd (hTb1 _ e) (by omega)) (fun e => absurd (hTb2 _ e) (by omega)))
    have TI2 := Lib.hid (TI.put (set_grown w8 X5 2 (.int .i64 1000000)) (fun e => absurd (hTi1 _ e) (by omega)) (fun e => absurd (hTi2 _ e) (by omega)))
    have RI2 := Lib.hid (own_set_kind (i := 2) (u := (.int .i64 1000000)) RI kF (by decide))
    obtain ⟨y0, y1, y2, y3, f0, f1, f2, f3⟩ := ord_cell kF
    go_upto_region 11 with fail
    clear y0 y1 y2 y3 f0 f1 f2 f3 kF kN kB kO D TB TI RI
    generalize w8.setCell ⟨X5, 2, none⟩ (.int .i64 1000000) = w9 at *
    have kF := kF2.out
    simp at kF
    have kN := kN2.out
    have kB := kB2.out
    have kO := kO2.out
    have D := D2.out
    have TB := TB2.out
    have TI := TI2.out
    have RI := RI2.out
    clear kF2 kN2 kB2 kO2 D2 TB2 TI2 RI2
    rcases rg_side HRG.out with rfl | rfl
    · skip
      have hfar := rg_farS (fp := 1000000) (.inl ⟨rfl, rfl⟩) (HOP.out ▸ HRG.out) hlA hlB
      rw [HOP.out] at hfar
      obtain ⟨hrg2, hy1, hy2, hl2, hs2⟩ := hfar
      rw [HY1.out] at hy1
      rw [HY2.out] at hy2
      rw [Hlf.out] at hl2
      rw [HRR.out, HN3.out] at hs2
      obtain ⟨R2, hR2⟩ : ∃ x, mRR true 1 oi oa 1000000 oq md za zb = x := ⟨_, rfl⟩
      obtain ⟨N4, hN4⟩ : ∃ x, R2.length / 8 = x := ⟨_, rfl⟩
      rw [hR2, hN4] at hs2
      have hok1 := (rg_sum HRG.out hlA hlB).1
      rw [HRR.out, HN3.out] at hok1
      have hok2 := (rg_sum hrg2 hlA hlB).1
      rw [hR2, hN4] at hok2
      have hlen := (m_len hlA hlB hrg2 hn hm).2.2
      rw [hR2, hN4] at hlen
      have HF1 := Lib.hid (filledI_yes (id := oi) hok1)
      have HF2 := Lib.hid (filledI_yes (id := oi) hok2)
      generalize hfs : sumTo RR oi N3 = fs at *
      have hsx : sumTo R2 oi N4 = fs := hs2
      rw [hsx] at HF2
      clear hok1 hok2 hfs hsx hs2
      obtain ⟨p0, p1⟩ := cell2 kB
      obtain ⟨y0, y1, y2, y3, -⟩ := ord_cell kF
      go_wp2_with fail
      clear p0 p1 y0 y1 y2 y3
      have hcon := (impl_Matched A1 n c A2 m d za zb 1 oi oa 1000000 oq md w9 (Lst.of_own TB.one) (Lst.of_own TB.two) (by omega) (by omega)).mono (fun e w' h => (⟨mans_len h.1, h.2⟩ : _ ∧ _))
      rw [hrg2, hy1, hy2, hl2, HN1.out, HN2.out, hR2, hN4] at hcon
      clear hrg2 hy1 hy2 hl2 hR2 hN4
      refine hcon.mono ?_
      clear hcon
      rintro e wg ⟨⟨t1, t2, t3, rfl, TG, RG⟩, hbm⟩
      obtain ⟨BG, bG, CG, cG, rfl, rfl⟩ := TG.slices
      obtain ⟨EG, eG, rfl, _, _⟩ := own_slice RG
      replace D := D.trans (hbm.mono D.size)
      replace TB := TB.below hbm
      replace kB := (hbm.block _ (heap_lt kB)).trans kB
      replace kO := (hbm.block _ (heap_lt kO)).trans kO
      replace TI := TI.below hbm
      replace RI := own_below RI hbm
      replace kN := (hbm.block _ (heap_lt kN)).trans kN
      replace kF := (hbm.block _ (heap_lt kF)).trans kF
      clear hbm kF
      have kG := heap_alloc_new wg (.cells #[.slice BG N1 bG, .slice CG N2 cG] 26)
      have hba : Below wg.heap.size wg (wg.alloc (.cells #[.slice BG N1 bG, .slice CG N2 cG] 26)) := (Below.refl _ _).alloc (Nat.le_refl _) _
      replace D := D.trans (hba.mono D.size)
      replace TB := TB.below hba
      replace kB := (hba.block _ (heap_lt kB)).trans kB
      replace kO := (hba.block _ (heap_lt kO)).trans kO
      replace TI := TI.below hba
      replace RI := own_below RI hba
      replace kN := (hba.block _ (heap_lt kN)).trans kN
      replace TG := TG.below hba
      replace RG := own_below RG hba
      clear hba
      go_upto_region 14 with fail
      generalize wg.alloc (.cells #[.slice BG N1 bG, .slice CG N2 cG] 26) = wh at *
      generalize wg.heap.size = X6 at *
      obtain ⟨p0, p1⟩ := cell2 kG
      obtain ⟨r0, r1⟩ := cell2 kN
      obtain ⟨o0, o1, o2, o3, -⟩ := ord_cell kO
      have hlG := heap_lt kG
      have hlN := heap_lt kN
      have hlO := heap_lt kO
      have hff : (fs == fs) = true := by simp
      refine wp_region_held_drew (S := (fun w' => Below wh.heap.size wh w')) (by kernel_rfl) ?hSm1 (fun hHeld => ?restm1)
      case hSm1 => exact (Below.refl _ _).drew
      refine wpAnyH_take (i := 0) (oi := ?oim2) (v := ?vm2) ?him2 (by kernel_rfl) (by kernel_rfl) (by kernel_rfl) ?hQm2 (Or.inl ⟨?hwm2, ?hym2⟩) (by assumption) ?restm2
      case him2 => simp only [List.getElem?_toArray, List.getElem?_cons_succ, List.getElem?_cons_zero]; exact rfl
      case hQm2 => exact fun _ _ _ h => h
      case hwm2 => rfl
      case hym2 => ((intro w hSw; (try dsimp only at hSw); go_simp) <;> with_reducible rfl)
      try simp only [Act.put, List.setIfInBounds_toArray, List.set_cons_zero, List.set_cons_succ]
      refine wpAnyH_take (i := 1) (oi := ?oim3) (v := ?vm3) ?him3 (by kernel_rfl) (by kernel_rfl) (by kernel_rfl) ?hQm3 (Or.inl ⟨?hwm3, ?hym3⟩) (by assumption) ?restm3
      case him3 => simp only [List.getElem?_toArray, List.getElem?_cons_succ, List.getElem?_cons_zero]; exact rfl
      case hQm3 => exact fun _ _ _ h => h
      case hwm3 => rfl
      case hym3 => ((intro w hSw; (try dsimp only at hSw); go_simp) <;> with_reducible rfl)
      try simp only [Act.put, List.setIfInBounds_toArray, List.set_cons_zero, List.set_cons_succ]
      refine wpAnyH_take (i := 2) (oi := ?oim4) (v := ?vm4) ?him4 (by kernel_rfl) (by kernel_rfl) (by kernel_rfl) ?hQm4 (Or.inl ⟨?hwm4, ?hym4⟩) (by assumption) ?restm4
      case him4 => simp only [List.getElem?_toArray, List.getElem?_cons_succ, List.getElem?_cons_zero]; exact rfl
      case hQm4 => exact fun _ _ _ h => h
      case hwm4 => rfl
      case hym4 => ((intro w hSw; have t0 := (hSw.cell (p := ⟨X6, 0, none⟩) hlG).trans p0; have t1 := (hSw.cell (p := ⟨X6, 1, none⟩) hlG).trans p1; go_simp) <;> with_reducible rfl)
      try simp only [Act.put, List.setIfInBounds_toArray, List.set_cons_zero, List.set_cons_succ]
      refine wpAnyH_take (i := 3) (oi := ?oim5) (v := ?vm5) ?him5 (by kernel_rfl) (by kernel_rfl) (by kernel_rfl) ?hQm5 (Or.inl ⟨?hwm5, ?hym5⟩) (by assumption) ?restm5
      case him5 => simp only [List.getElem?_toArray, List.getElem?_cons_succ, List.getElem?_cons_zero]; exact rfl
      case hQm5 => exact fun _ _ _ h => h
      case hwm5 => rfl
      case hym5 => ((intro w hSw; have t0 := (hSw.cell (p := ⟨X2, 0, none⟩) hlN).trans r0; have t1 := (hSw.cell (p := ⟨X2, 1, none⟩) hlN).trans r1; go_simp) <;> with_reducible rfl)
      try simp only [Act.put, List.setIfInBounds_toArray, List.set_cons_zero, List.set_cons_succ]
      refine wpAnyH_ready (rs := [4]) (by kernel_rfl) (by simp) ?_
      refine AllReadyH.cons (o := ?or6_4) ?hor6_4 (fun K hK => ?stepr6_4) (AllReadyH.nil)
      case hor6_4 => simp only [List.getElem?_toArray, List.getElem?_cons_succ, List.getElem?_cons_zero]; exact rfl
      case stepr6_4 =>
        go_simp
        refine (sameBook_same _ _ _ _ N1 N2 _ _ _ _ Y1 Y2 _ (TG.below hHeld).bookIn (TI.below hHeld).bookIn (by omega) (by omega)).mono ?_
        rintro e v1 ⟨rfl, hb1⟩
        have hB1 : Below wh.heap.size wh v1 := Below.trans hHeld (hb1.mono (Below.size hHeld))
        refine hK.out _ _ ?hSr6_4 (fun hHeld => ?restr6_4)
        case hSr6_4 => exact hB1
        clear hK K
        try simp only [Act.put, List.setIfInBounds_toArray, List.set_cons_zero, List.set_cons_succ]
        refine wpAnyH_take (i := 5) (oi := ?oim7) (v := ?vm7) ?him7 (by kernel_rfl) (by kernel_rfl) (by kernel_rfl) ?hQm7 (Or.inl ⟨?hwm7, ?hym7⟩) (by assumption) ?restm7
        case him7 => simp only [List.getElem?_toArray, List.getElem?_cons_succ, List.getElem?_cons_zero]; exact rfl
        case hQm7 => exact fun _ _ _ h => h
        case hwm7 => rfl
        case hym7 => ((intro w hSw; (try dsimp only at hSw); go_simp) <;> with_reducible rfl)
        try simp only [Act.put, List.setIfInBounds_toArray, List.set_cons_zero, List.set_cons_succ]
        refine wpAnyH_take (i := 6) (oi := ?oim8) (v := ?vm8) ?him8 (by kernel_rfl) (by kernel_rfl) (by kernel_rfl) ?hQm8 (Or.inl ⟨?hwm8, ?hym8⟩) (by assumption) ?restm8
        case him8 => simp only [List.getElem?_toArray, List.getElem?_cons_succ, List.getElem?_cons_zero]; exact rfl
        case hQm8 => exact fun _ _ _ h => h
        case hwm8 => rfl
        case hym8 => ((intro w hSw; (try dsimp only at hSw); go_simp) <;> with_reducible rfl)
        try simp only [Act.put, List.setIfInBounds_toArray, List.set_cons_zero, List.set_cons_succ]
        refine wpAnyH_take (i := 7) (oi := ?oim9) (v := ?vm9) ?him9 (by kernel_rfl) (by kernel_rfl) (by kernel_rfl) ?hQm9 (Or.inl ⟨?hwm9, ?hym9⟩) (by assumption) ?restm9
        case him9 => simp only [List.getElem?_toArray, List.getElem?_cons_succ, List.getElem?_cons_zero]; exact rfl
        case hQm9 => exact fun _ _ _ h => h
        case hwm9 => rfl
        case hym9 => ((intro w hSw; (try dsimp only at hSw); go_simp) <;> with_reducible rfl)
        try simp only [Act.put, List.setIfInBounds_toArray, List.set_cons_zero, List.set_cons_succ]
        refine wpAnyH_take (i := 8) (oi := ?oim10) (v := ?vm10) ?him10 (by kernel_rfl) (by kernel_rfl) (by kernel_rfl) ?hQm10 (Or.inl ⟨?hwm10, ?hym10⟩) (by assumption) ?restm10
        case him10 => simp only [List.getElem?_toArray, List.getElem?_cons_succ, List.getElem?_cons_zero]; exact rfl
        case hQm10 => exact fun _ _ _ h => h
        case hwm10 => rfl
        case hym10 => ((intro w hSw; (try dsimp only at hSw); go_simp) <;> with_reducible rfl)
        try simp only [Act.put, List.setIfInBounds_toArray, List.set_cons_zero, List.set_cons_succ]
        refine wpAnyH_take (i := 9) (oi := ?oim11) (v := ?vm11) ?him11 (by kernel_rfl) (by kernel_rfl) (by kernel_rfl) ?hQm11 (Or.inl ⟨?hwm11, ?hym11⟩) (by assumption) ?restm11
        case him11 => simp only [List.getElem?_toArray, List.getElem?_cons_succ, List.getElem?_cons_zero]; exact rfl
        case hQm11 => exact fun _ _ _ h => h
        case hwm11 => rfl
        case hym11 => ((intro w hSw; (try dsimp only at hSw); go_simp) <;> with_reducible rfl)
        try simp only [Act.put, List.setIfInBounds_toArray, List.set_cons_zero, List.set_cons_succ]
        refine wpAnyH_take (i := 10) (oi := ?oim12) (v := ?vm12) ?him12 (by kernel_rfl) (by kernel_rfl) (by kernel_rfl) ?hQm12 (Or.inl ⟨?hwm12, ?hym12⟩) (by assumption) ?restm12
        case him12 => simp only [List.getElem?_toArray, List.getElem?_cons_succ, List.getElem?_cons_zero]; exact rfl
        case hQm12 => exact fun _ _ _ h => h
        case hwm12 => rfl
        case hym12 => ((intro w hSw; (try dsimp only at hSw); go_simp) <;> with_reducible rfl)
        try simp only [Act.put, List.setIfInBounds_toArray, List.set_cons_zero, List.set_cons_succ]
        refine wpAnyH_take (i := 11) (oi := ?oim13) (v := ?vm13) ?him13 (by kernel_rfl) (by kernel_rfl) (by kernel_rfl) ?hQm13 (Or.inl ⟨?hwm13, ?hym13⟩) (by assumption) ?restm13
        case him13 => simp only [List.getElem?_toArray, List.getElem?_cons_succ, List.getElem?_cons_zero]; exact rfl
        case hQm13 => exact fun _ _ _ h => h
        case hwm13 => rfl
        case hym13 => ((intro w hSw; (try dsimp only at hSw); go_simp) <;> with_reducible rfl)
        try simp only [Act.put, List.setIfInBounds_toArray, List.set_cons_zero, List.set_cons_succ]
        refine wpAnyH_take (i := 12) (oi := ?oim14) (v := ?vm14) ?him14 (by kernel_rfl) (by kernel_rfl) (by kernel_rfl) ?hQm14 (Or.inl ⟨?hwm14, ?hym14⟩) (by assumption) ?restm14
        case him14 => simp only [List.getElem?_toArray, List.getElem?_cons_succ, List.getElem?_cons_zero]; exact rfl
        case hQm14 => exact fun _ _ _ h => h
        case hwm14 => rfl
        case hym14 => ((intro w hSw; (try dsimp only at hSw); go_simp) <;> with_reducible rfl)
        try simp only [Act.put, List.setIfInBounds_toArray, List.set_cons_zero, List.set_cons_succ]
        refine wpAnyH_take (i := 13) (oi := ?oim15) (v := ?vm15) ?him15 (by kernel_rfl) (by kernel_rfl) (by kernel_rfl) ?hQm15 (Or.inl ⟨?hwm15, ?hym15⟩) (by assumption) ?restm15
        case him15 => simp only [List.getElem?_toArray, List.getElem?_cons_succ, List.getElem?_cons_zero]; exact rfl
        case hQm15 => exact fun _ _ _ h => h
        case hwm15 => rfl
        case hym15 => ((intro w hSw; (try dsimp only at hSw); go_simp) <;> with_reducible rfl)
        try simp only [Act.put, List.setIfInBounds_toArray, List.set_cons_zero, List.set_cons_succ]
        refine wpAnyH_take (i := 14) (oi := ?oim16) (v := ?vm16) ?him16 (by kernel_rfl) (by kernel_rfl) (by kernel_rfl) ?hQm16 (Or.inl ⟨?hwm16, ?hym16⟩) (by assumption) ?restm16
        case him16 => simp only [List.getElem?_toArray, List.getElem?_cons_succ, List.getElem?_cons_zero]; exact rfl
        case hQm16 => exact fun _ _ _ h => h
        case hwm16 => rfl
        case hym16 => ((intro w hSw; have t0 := (hSw.cell (p := ⟨X1 + 1, 0, none⟩) hlO).trans o0; go_simp) <;> with_reducible rfl)
        try simp only [Act.put, List.setIfInBounds_toArray, List.set_cons_zero, List.set_cons_succ]
        refine wpAnyH_take (i := 16) (oi := ?oim17) (v := ?vm17) ?him17 (by kernel_rfl) (by kernel_rfl) (by kernel_rfl) ?hQm17 (Or.inl ⟨?hwm17, ?hym17⟩) (by assumption) ?restm17
        case him17 => simp only [List.getElem?_toArray, List.getElem?_cons_succ, List.getElem?_cons_zero]; exact rfl
        case hQm17 => exact fun _ _ _ h => h
        case hwm17 => rfl
        case hym17 => ((intro w hSw; (try dsimp only at hSw); go_simp) <;> with_reducible rfl)
        try simp only [Act.put, List.setIfInBounds_toArray, List.set_cons_zero, List.set_cons_succ]
        refine wpAnyH_take (i := 17) (oi := ?oim18) (v := ?vm18) ?him18 (by kernel_rfl) (by kernel_rfl) (by kernel_rfl) ?hQm18 (Or.inl ⟨?hwm18, ?hym18⟩) (by assumption) ?restm18
        case him18 => simp only [List.getElem?_toArray, List.getElem?_cons_succ, List.getElem?_cons_zero]; exact rfl
        case hQm18 => exact fun _ _ _ h => h
        case hwm18 => rfl
        case hym18 => ((intro w hSw; (try dsimp only at hSw); go_simp) <;> with_reducible rfl)
        try simp only [Act.put, List.setIfInBounds_toArray, List.set_cons_zero, List.set_cons_succ]
        refine wpAnyH_take (i := 18) (oi := ?oim19) (v := ?vm19) ?him19 (by kernel_rfl) (by kernel_rfl) (by kernel_rfl) ?hQm19 (Or.inl ⟨?hwm19, ?hym19⟩) (by assumption) ?restm19
        case him19 => simp only [List.getElem?_toArray, List.getElem?_cons_succ, List.getElem?_cons_zero]; exact rfl
        case hQm19 => exact fun _ _ _ h => h
        case hwm19 => rfl
        case hym19 => ((intro w hSw; have t0 := (hSw.cell (p := ⟨X1 + 1, 0, none⟩) hlO).trans o0; go_simp) <;> with_reducible rfl)
        try simp only [Act.put, List.setIfInBounds_toArray, List.set_cons_zero, List.set_cons_succ]
        refine wpAnyH_ready (rs := [15]) (by kernel_rfl) (by simp) ?_
        refine AllReadyH.cons (o := ?or20_15) ?hor20_15 (fun K hK => ?stepr20_15) (AllReadyH.nil)
        case hor20_15 => simp only [List.getElem?_toArray, List.getElem?_cons_succ, List.getElem?_cons_zero]; exact rfl
        case stepr20_15 =>
          go_simp
          refine (impl_Filled EG N4 eG R2 oi v1 (Lst.of_own (own_below RG hB1)) (by omega)).mono ?_
          rw [HF2.out]
          rintro e v2 ⟨rfl, hb2⟩
          have hB2 := hB1.trans (hb2.mono hB1.size)
          refine hK.out _ _ ?hSr20_15 (fun hHeld => ?restr20_15)
          case hSr20_15 => exact hB2
          clear hK K
          try simp only [Act.put, List.setIfInBounds_toArray, List.set_cons_zero, List.set_cons_succ]
          refine wpAnyH_ready (rs := [19]) (by kernel_rfl) (by simp) ?_
          refine AllReadyH.cons (o := ?or21_19) ?hor21_19 (fun K hK => ?stepr21_19) (AllReadyH.nil)
          case hor21_19 => simp only [List.getElem?_toArray, List.getElem?_cons_succ, List.getElem?_cons_zero]; exact rfl
          case stepr21_19 =>
            go_simp
            refine (impl_Filled EI N3 eI RR oi v2 (Lst.of_own (own_below RI hB2)) (by omega)).mono ?_
            rw [HF1.out]
            rintro e v3 ⟨rfl, hb3⟩
            have hB3 := hB2.trans (hb3.mono hB2.size)
            refine hK.out _ _ ?hSr21_19 (fun hHeld => ?restr21_19)
            case hSr21_19 => exact hB3
            clear hK K
            try simp only [Act.put, List.setIfInBounds_toArray, List.set_cons_zero, List.set_cons_succ]
            refine wpAnyH_take (i := 20) (oi := ?oim22) (v := ?vm22) ?him22 (by kernel_rfl) (by kernel_rfl) (by kernel_rfl) ?hQm22 (Or.inl ⟨?hwm22, ?hym22⟩) (by assumption) ?restm22
            case him22 => simp only [List.getElem?_toArray, List.getElem?_cons_succ, List.getElem?_cons_zero]; exact rfl
            case hQm22 => exact fun _ _ _ h => h
            case hwm22 => rfl
            case hym22 => ((intro w hSw; (try dsimp only at hSw); go_simp) <;> with_reducible rfl)
            try simp only [Act.put, List.setIfInBounds_toArray, List.set_cons_zero, List.set_cons_succ]
            refine wpAnyH_take (i := 21) (oi := ?oim23) (v := ?vm23) ?him23 (by kernel_rfl) (by kernel_rfl) (by kernel_rfl) ?hQm23 (Or.inl ⟨?hwm23, ?hym23⟩) (by assumption) ?restm23
            case him23 => simp only [List.getElem?_toArray, List.getElem?_cons_succ, List.getElem?_cons_zero]; exact rfl
            case hQm23 => exact fun _ _ _ h => h
            case hwm23 => rfl
            case hym23 => ((intro w hSw; (try dsimp only at hSw); go_simp) <;> with_reducible rfl)
            try simp only [Act.put, List.setIfInBounds_toArray, List.set_cons_zero, List.set_cons_succ]
            refine wpAnyH_take (i := 22) (oi := ?oim24) (v := ?vm24) ?him24 (by kernel_rfl) (by kernel_rfl) (by kernel_rfl) ?hQm24 (Or.inl ⟨?hwm24, ?hym24⟩) (by assumption) ?restm24
            case him24 => simp only [List.getElem?_toArray, List.getElem?_cons_succ, List.getElem?_cons_zero]; exact rfl
            case hQm24 => exact fun _ _ _ h => h
            case hwm24 => rfl
            case hym24 => ((intro w hSw; (try dsimp only at hSw); go_simp) <;> with_reducible rfl)
            try simp only [Act.put, List.setIfInBounds_toArray, List.set_cons_zero, List.set_cons_succ]
            refine wpAnyH_done (by kernel_rfl) ?_ _
            have hfin := D.trans (hB3.mono D.size)
            clear hHeld
            go_wp2_with fail
            go_ret
            exact ⟨by first | rfl | simp, hfin⟩
    · skip
      go_upto_region 12 with fail
      have kF2 := Lib.hid (ord_set kF 2 (.int .i64 1))
      have kN2 := Lib.hid (mset_other (i := 2) (u := (.int .i64 1)) kN (show X2 ≠ X5 by omega))
      have kB2 := Lib.hid (mset_other (i := 2) (u := (.int .i64 1)) kB (show X1 ≠ X5 by omega))
      have kO2 := Lib.hid (mset_other (i := 2) (u := (.int .i64 1)) kO (show X1 + 1 ≠ X5 by omega))
      have D2 := Lib.hid (D.setCell (p := ⟨X5, 2, none⟩) hXw (.int .i64 1))
      have TB2 := Lib.hid (TB.put (set_grown w9 X5 2 (.int .i64 1)) (fun e => absurd (hTb1 _ e) (by omega)) (fun e => absurd (hTb2 _ e) (by omega)))
      have TI2 := Lib.hid (TI.put (set_grown w9 X5 2 (.int .i64 1)) (fun e => absurd (hTi1 _ e) (by omega)) (fun e => absurd (hTi2 _ e) (by omega)))
      have RI2 := Lib.hid (own_set_kind (i := 2) (u := (.int .i64 1)) RI kF (by decide))
      obtain ⟨y0, y1, y2, y3, f0, f1, f2, f3⟩ := ord_cell kF
      go_upto_region 13 with fail
      clear y0 y1 y2 y3 f0 f1 f2 f3 kF kN kB kO D TB TI RI
      generalize w9.setCell ⟨X5, 2, none⟩ (.int .i64 1) = wa at *
      have kF := kF2.out
      simp at kF
      have kN := kN2.out
      have kB := kB2.out
      have kO := kO2.out
      have D := D2.out
      have TB := TB2.out
      have TI := TI2.out
      have RI := RI2.out
      clear kF2 kN2 kB2 kO2 D2 TB2 TI2 RI2
      have hfar := rg_farS (fp := 1) (.inr ⟨rfl, rfl⟩) (HOP.out ▸ HRG.out) hlA hlB
      rw [HOP.out] at hfar
      obtain ⟨hrg2, hy1, hy2, hl2, hs2⟩ := hfar
      rw [HY1.out] at hy1
      rw [HY2.out] at hy2
      rw [Hlf.out] at hl2
      rw [HRR.out, HN3.out] at hs2
      obtain ⟨R2, hR2⟩ : ∃ x, mRR true 2 oi oa 1 oq md za zb = x := ⟨_, rfl⟩
      obtain ⟨N4, hN4⟩ : ∃ x, R2.length / 8 = x := ⟨_, rfl⟩
      rw [hR2, hN4] at hs2
      have hok1 := (rg_sum HRG.out hlA hlB).1
      rw [HRR.out, HN3.out] at hok1
      have hok2 := (rg_sum hrg2 hlA hlB).1
      rw [hR2, hN4] at hok2
      have hlen := (m_len hlA hlB hrg2 hn hm).2.2
      rw [hR2, hN4] at hlen
      have HF1 := Lib.hid (filledI_yes (id := oi) hok1)
      have HF2 := Lib.hid (filledI_yes (id := oi) hok2)
      generalize hfs : sumTo RR oi N3 = fs at *
      have hsx : sumTo R2 oi N4 = fs := hs2
      rw [hsx] at HF2
      clear hok1 hok2 hfs hsx hs2
      obtain ⟨p0, p1⟩ := cell2 kB
      obtain ⟨y0, y1, y2, y3, -⟩ := ord_cell kF
      go_wp2_with fail
      clear p0 p1 y0 y1 y2 y3
      have hcon := (impl_Matched A1 n c A2 m d za zb 2 oi oa 1 oq md wa (Lst.of_own TB.one) (Lst.of_own TB.two) (by omega) (by omega)).mono (fun e w' h => (⟨mans_len h.1, h.2⟩ : _ ∧ _))
      rw [hrg2, hy1, hy2, hl2, HN1.out, HN2.out, hR2, hN4] at hcon
      clear hrg2 hy1 hy2 hl2 hR2 hN4
      refine hcon.mono ?_
      clear hcon
      rintro e wg ⟨⟨t1, t2, t3, rfl, TG, RG⟩, hbm⟩
      obtain ⟨BG, bG, CG, cG, rfl, rfl⟩ := TG.slices
      obtain ⟨EG, eG, rfl, _, _⟩ := own_slice RG
      replace D := D.trans (hbm.mono D.size)
      replace TB := TB.below hbm
      replace kB := (hbm.block _ (heap_lt kB)).trans kB
      replace kO := (hbm.block _ (heap_lt kO)).trans kO
      replace TI := TI.below hbm
      replace RI := own_below RI hbm
      replace kN := (hbm.block _ (heap_lt kN)).trans kN
      replace kF := (hbm.block _ (heap_lt kF)).trans kF
      clear hbm kF
      have kG := heap_alloc_new wg (.cells #[.slice BG N1 bG, .slice CG N2 cG] 26)
      have hba : Below wg.heap.size wg (wg.alloc (.cells #[.slice BG N1 bG, .slice CG N2 cG] 26)) := (Below.refl _ _).alloc (Nat.le_refl _) _
      replace D := D.trans (hba.mono D.size)
      replace TB := TB.below hba
      replace kB := (hba.block _ (heap_lt kB)).trans kB
      replace kO := (hba.block _ (heap_lt kO)).trans kO
      replace TI := TI.below hba
      replace RI := own_below RI hba
      replace kN := (hba.block _ (heap_lt kN)).trans kN
      replace TG := TG.below hba
      replace RG := own_below RG hba
      clear hba
      go_upto_region 14 with fail
      generalize wg.alloc (.cells #[.slice BG N1 bG, .slice CG N2 cG] 26) = wh at *
      generalize wg.heap.size = X6 at *
      obtain ⟨p0, p1⟩ := cell2 kG
      obtain ⟨r0, r1⟩ := cell2 kN
      obtain ⟨o0, o1, o2, o3, -⟩ := ord_cell kO
      have hlG := heap_lt kG
      have hlN := heap_lt kN
      have hlO := heap_lt kO
      have hff : (fs == fs) = true := by simp
      refine wp_region_held_drew (S := (fun w' => Below wh.heap.size wh w')) (by kernel_rfl) ?hSm25 (fun hHeld => ?restm25)
      case hSm25 => exact (Below.refl _ _).drew
      refine wpAnyH_take (i := 0) (oi := ?oim26) (v := ?vm26) ?him26 (by kernel_rfl) (by kernel_rfl) (by kernel_rfl) ?hQm26 (Or.inl ⟨?hwm26, ?hym26⟩) (by assumption) ?restm26
      case him26 => simp only [List.getElem?_toArray, List.getElem?_cons_succ, List.getElem?_cons_zero]; exact rfl
      case hQm26 => exact fun _ _ _ h => h
      case hwm26 => rfl
      case hym26 => ((intro w hSw; (try dsimp only at hSw); go_simp) <;> with_reducible rfl)
      try simp only [Act.put, List.setIfInBounds_toArray, List.set_cons_zero, List.set_cons_succ]
      refine wpAnyH_take (i := 1) (oi := ?oim27) (v := ?vm27) ?him27 (by kernel_rfl) (by kernel_rfl) (by kernel_rfl) ?hQm27 (Or.inl ⟨?hwm27, ?hym27⟩) (by assumption) ?restm27
      case him27 => simp only [List.getElem?_toArray, List.getElem?_cons_succ, List.getElem?_cons_zero]; exact rfl
      case hQm27 => exact fun _ _ _ h => h
      case hwm27 => rfl
      case hym27 => ((intro w hSw; (try dsimp only at hSw); go_simp) <;> with_reducible rfl)
      try simp only [Act.put, List.setIfInBounds_toArray, List.set_cons_zero, List.set_cons_succ]
      refine wpAnyH_take (i := 2) (oi := ?oim28) (v := ?vm28) ?him28 (by kernel_rfl) (by kernel_rfl) (by kernel_rfl) ?hQm28 (Or.inl ⟨?hwm28, ?hym28⟩) (by assumption) ?restm28
      case him28 => simp only [List.getElem?_toArray, List.getElem?_cons_succ, List.getElem?_cons_zero]; exact rfl
      case hQm28 => exact fun _ _ _ h => h
      case hwm28 => rfl
      case hym28 => ((intro w hSw; have t0 := (hSw.cell (p := ⟨X6, 0, none⟩) hlG).trans p0; have t1 := (hSw.cell (p := ⟨X6, 1, none⟩) hlG).trans p1; go_simp) <;> with_reducible rfl)
      try simp only [Act.put, List.setIfInBounds_toArray, List.set_cons_zero, List.set_cons_succ]
      refine wpAnyH_take (i := 3) (oi := ?oim29) (v := ?vm29) ?him29 (by kernel_rfl) (by kernel_rfl) (by kernel_rfl) ?hQm29 (Or.inl ⟨?hwm29, ?hym29⟩) (by assumption) ?restm29
      case him29 => simp only [List.getElem?_toArray, List.getElem?_cons_succ, List.getElem?_cons_zero]; exact rfl
      case hQm29 => exact fun _ _ _ h => h
      case hwm29 => rfl
      case hym29 => ((intro w hSw; have t0 := (hSw.cell (p := ⟨X2, 0, none⟩) hlN).trans r0; have t1 := (hSw.cell (p := ⟨X2, 1, none⟩) hlN).trans r1; go_simp) <;> with_reducible rfl)
      try simp only [Act.put, List.setIfInBounds_toArray, List.set_cons_zero, List.set_cons_succ]
      refine wpAnyH_ready (rs := [4]) (by kernel_rfl) (by simp) ?_
      refine AllReadyH.cons (o := ?or30_4) ?hor30_4 (fun K hK => ?stepr30_4) (AllReadyH.nil)
      case hor30_4 => simp only [List.getElem?_toArray, List.getElem?_cons_succ, List.getElem?_cons_zero]; exact rfl
      case stepr30_4 =>
        go_simp
        refine (sameBook_same _ _ _ _ N1 N2 _ _ _ _ Y1 Y2 _ (TG.below hHeld).bookIn (TI.below hHeld).bookIn (by omega) (by omega)).mono ?_
        rintro e v1 ⟨rfl, hb1⟩
        have hB1 : Below wh.heap.size wh v1 := Below.trans hHeld (hb1.mono (Below.size hHeld))
        refine hK.out _ _ ?hSr30_4 (fun hHeld => ?restr30_4)
        case hSr30_4 => exact hB1
        clear hK K
        try simp only [Act.put, List.setIfInBounds_toArray, List.set_cons_zero, List.set_cons_succ]
        refine wpAnyH_take (i := 5) (oi := ?oim31) (v := ?vm31) ?him31 (by kernel_rfl) (by kernel_rfl) (by kernel_rfl) ?hQm31 (Or.inl ⟨?hwm31, ?hym31⟩) (by assumption) ?restm31
        case him31 => simp only [List.getElem?_toArray, List.getElem?_cons_succ, List.getElem?_cons_zero]; exact rfl
        case hQm31 => exact fun _ _ _ h => h
        case hwm31 => rfl
        case hym31 => ((intro w hSw; (try dsimp only at hSw); go_simp) <;> with_reducible rfl)
        try simp only [Act.put, List.setIfInBounds_toArray, List.set_cons_zero, List.set_cons_succ]
        refine wpAnyH_take (i := 6) (oi := ?oim32) (v := ?vm32) ?him32 (by kernel_rfl) (by kernel_rfl) (by kernel_rfl) ?hQm32 (Or.inl ⟨?hwm32, ?hym32⟩) (by assumption) ?restm32
        case him32 => simp only [List.getElem?_toArray, List.getElem?_cons_succ, List.getElem?_cons_zero]; exact rfl
        case hQm32 => exact fun _ _ _ h => h
        case hwm32 => rfl
        case hym32 => ((intro w hSw; (try dsimp only at hSw); go_simp) <;> with_reducible rfl)
        try simp only [Act.put, List.setIfInBounds_toArray, List.set_cons_zero, List.set_cons_succ]
        refine wpAnyH_take (i := 7) (oi := ?oim33) (v := ?vm33) ?him33 (by kernel_rfl) (by kernel_rfl) (by kernel_rfl) ?hQm33 (Or.inl ⟨?hwm33, ?hym33⟩) (by assumption) ?restm33
        case him33 => simp only [List.getElem?_toArray, List.getElem?_cons_succ, List.getElem?_cons_zero]; exact rfl
        case hQm33 => exact fun _ _ _ h => h
        case hwm33 => rfl
        case hym33 => ((intro w hSw; (try dsimp only at hSw); go_simp) <;> with_reducible rfl)
        try simp only [Act.put, List.setIfInBounds_toArray, List.set_cons_zero, List.set_cons_succ]
        refine wpAnyH_take (i := 8) (oi := ?oim34) (v := ?vm34) ?him34 (by kernel_rfl) (by kernel_rfl) (by kernel_rfl) ?hQm34 (Or.inl ⟨?hwm34, ?hym34⟩) (by assumption) ?restm34
        case him34 => simp only [List.getElem?_toArray, List.getElem?_cons_succ, List.getElem?_cons_zero]; exact rfl
        case hQm34 => exact fun _ _ _ h => h
        case hwm34 => rfl
        case hym34 => ((intro w hSw; (try dsimp only at hSw); go_simp) <;> with_reducible rfl)
        try simp only [Act.put, List.setIfInBounds_toArray, List.set_cons_zero, List.set_cons_succ]
        refine wpAnyH_take (i := 9) (oi := ?oim35) (v := ?vm35) ?him35 (by kernel_rfl) (by kernel_rfl) (by kernel_rfl) ?hQm35 (Or.inl ⟨?hwm35, ?hym35⟩) (by assumption) ?restm35
        case him35 => simp only [List.getElem?_toArray, List.getElem?_cons_succ, List.getElem?_cons_zero]; exact rfl
        case hQm35 => exact fun _ _ _ h => h
        case hwm35 => rfl
        case hym35 => ((intro w hSw; (try dsimp only at hSw); go_simp) <;> with_reducible rfl)
        try simp only [Act.put, List.setIfInBounds_toArray, List.set_cons_zero, List.set_cons_succ]
        refine wpAnyH_take (i := 10) (oi := ?oim36) (v := ?vm36) ?him36 (by kernel_rfl) (by kernel_rfl) (by kernel_rfl) ?hQm36 (Or.inl ⟨?hwm36, ?hym36⟩) (by assumption) ?restm36
        case him36 => simp only [List.getElem?_toArray, List.getElem?_cons_succ, List.getElem?_cons_zero]; exact rfl
        case hQm36 => exact fun _ _ _ h => h
        case hwm36 => rfl
        case hym36 => ((intro w hSw; (try dsimp only at hSw); go_simp) <;> with_reducible rfl)
        try simp only [Act.put, List.setIfInBounds_toArray, List.set_cons_zero, List.set_cons_succ]
        refine wpAnyH_take (i := 11) (oi := ?oim37) (v := ?vm37) ?him37 (by kernel_rfl) (by kernel_rfl) (by kernel_rfl) ?hQm37 (Or.inl ⟨?hwm37, ?hym37⟩) (by assumption) ?restm37
        case him37 => simp only [List.getElem?_toArray, List.getElem?_cons_succ, List.getElem?_cons_zero]; exact rfl
        case hQm37 => exact fun _ _ _ h => h
        case hwm37 => rfl
        case hym37 => ((intro w hSw; (try dsimp only at hSw); go_simp) <;> with_reducible rfl)
        try simp only [Act.put, List.setIfInBounds_toArray, List.set_cons_zero, List.set_cons_succ]
        refine wpAnyH_take (i := 12) (oi := ?oim38) (v := ?vm38) ?him38 (by kernel_rfl) (by kernel_rfl) (by kernel_rfl) ?hQm38 (Or.inl ⟨?hwm38, ?hym38⟩) (by assumption) ?restm38
        case him38 => simp only [List.getElem?_toArray, List.getElem?_cons_succ, List.getElem?_cons_zero]; exact rfl
        case hQm38 => exact fun _ _ _ h => h
        case hwm38 => rfl
        case hym38 => ((intro w hSw; (try dsimp only at hSw); go_simp) <;> with_reducible rfl)
        try simp only [Act.put, List.setIfInBounds_toArray, List.set_cons_zero, List.set_cons_succ]
        refine wpAnyH_take (i := 13) (oi := ?oim39) (v := ?vm39) ?him39 (by kernel_rfl) (by kernel_rfl) (by kernel_rfl) ?hQm39 (Or.inl ⟨?hwm39, ?hym39⟩) (by assumption) ?restm39
        case him39 => simp only [List.getElem?_toArray, List.getElem?_cons_succ, List.getElem?_cons_zero]; exact rfl
        case hQm39 => exact fun _ _ _ h => h
        case hwm39 => rfl
        case hym39 => ((intro w hSw; (try dsimp only at hSw); go_simp) <;> with_reducible rfl)
        try simp only [Act.put, List.setIfInBounds_toArray, List.set_cons_zero, List.set_cons_succ]
        refine wpAnyH_take (i := 14) (oi := ?oim40) (v := ?vm40) ?him40 (by kernel_rfl) (by kernel_rfl) (by kernel_rfl) ?hQm40 (Or.inl ⟨?hwm40, ?hym40⟩) (by assumption) ?restm40
        case him40 => simp only [List.getElem?_toArray, List.getElem?_cons_succ, List.getElem?_cons_zero]; exact rfl
        case hQm40 => exact fun _ _ _ h => h
        case hwm40 => rfl
        case hym40 => ((intro w hSw; have t0 := (hSw.cell (p := ⟨X1 + 1, 0, none⟩) hlO).trans o0; go_simp) <;> with_reducible rfl)
        try simp only [Act.put, List.setIfInBounds_toArray, List.set_cons_zero, List.set_cons_succ]
        refine wpAnyH_take (i := 16) (oi := ?oim41) (v := ?vm41) ?him41 (by kernel_rfl) (by kernel_rfl) (by kernel_rfl) ?hQm41 (Or.inl ⟨?hwm41, ?hym41⟩) (by assumption) ?restm41
        case him41 => simp only [List.getElem?_toArray, List.getElem?_cons_succ, List.getElem?_cons_zero]; exact rfl
        case hQm41 => exact fun _ _ _ h => h
        case hwm41 => rfl
        case hym41 => ((intro w hSw; (try dsimp only at hSw); go_simp) <;> with_reducible rfl)
        try simp only [Act.put, List.setIfInBounds_toArray, List.set_cons_zero, List.set_cons_succ]
        refine wpAnyH_take (i := 17) (oi := ?oim42) (v := ?vm42) ?him42 (by kernel_rfl) (by kernel_rfl) (by kernel_rfl) ?hQm42 (Or.inl ⟨?hwm42, ?hym42⟩) (by assumption) ?restm42
        case him42 => simp only [List.getElem?_toArray, List.getElem?_cons_succ, List.getElem?_cons_zero]; exact rfl
        case hQm42 => exact fun _ _ _ h => h
        case hwm42 => rfl
        case hym42 => ((intro w hSw; (try dsimp only at hSw); go_simp) <;> with_reducible rfl)
        try simp only [Act.put, List.setIfInBounds_toArray, List.set_cons_zero, List.set_cons_succ]
        refine wpAnyH_take (i := 18) (oi := ?oim43) (v := ?vm43) ?him43 (by kernel_rfl) (by kernel_rfl) (by kernel_rfl) ?hQm43 (Or.inl ⟨?hwm43, ?hym43⟩) (by assumption) ?restm43
        case him43 => simp only [List.getElem?_toArray, List.getElem?_cons_succ, List.getElem?_cons_zero]; exact rfl
        case hQm43 => exact fun _ _ _ h => h
        case hwm43 => rfl
        case hym43 => ((intro w hSw; have t0 := (hSw.cell (p := ⟨X1 + 1, 0, none⟩) hlO).trans o0; go_simp) <;> with_reducible rfl)
        try simp only [Act.put, List.setIfInBounds_toArray, List.set_cons_zero, List.set_cons_succ]
        refine wpAnyH_ready (rs := [15]) (by kernel_rfl) (by simp) ?_
        refine AllReadyH.cons (o := ?or44_15) ?hor44_15 (fun K hK => ?stepr44_15) (AllReadyH.nil)
        case hor44_15 => simp only [List.getElem?_toArray, List.getElem?_cons_succ, List.getElem?_cons_zero]; exact rfl
        case stepr44_15 =>
          go_simp
          refine (impl_Filled EG N4 eG R2 oi v1 (Lst.of_own (own_below RG hB1)) (by omega)).mono ?_
          rw [HF2.out]
          rintro e v2 ⟨rfl, hb2⟩
          have hB2 := hB1.trans (hb2.mono hB1.size)
          refine hK.out _ _ ?hSr44_15 (fun hHeld => ?restr44_15)
          case hSr44_15 => exact hB2
          clear hK K
          try simp only [Act.put, List.setIfInBounds_toArray, List.set_cons_zero, List.set_cons_succ]
          refine wpAnyH_ready (rs := [19]) (by kernel_rfl) (by simp) ?_
          refine AllReadyH.cons (o := ?or45_19) ?hor45_19 (fun K hK => ?stepr45_19) (AllReadyH.nil)
          case hor45_19 => simp only [List.getElem?_toArray, List.getElem?_cons_succ, List.getElem?_cons_zero]; exact rfl
          case stepr45_19 =>
            go_simp
            refine (impl_Filled EI N3 eI RR oi v2 (Lst.of_own (own_below RI hB2)) (by omega)).mono ?_
            rw [HF1.out]
            rintro e v3 ⟨rfl, hb3⟩
            have hB3 := hB2.trans (hb3.mono hB2.size)
            refine hK.out _ _ ?hSr45_19 (fun hHeld => ?restr45_19)
            case hSr45_19 => exact hB3
            clear hK K
            try simp only [Act.put, List.setIfInBounds_toArray, List.set_cons_zero, List.set_cons_succ]
            refine wpAnyH_take (i := 20) (oi := ?oim46) (v := ?vm46) ?him46 (by kernel_rfl) (by kernel_rfl) (by kernel_rfl) ?hQm46 (Or.inl ⟨?hwm46, ?hym46⟩) (by assumption) ?restm46
            case him46 => simp only [List.getElem?_toArray, List.getElem?_cons_succ, List.getElem?_cons_zero]; exact rfl
            case hQm46 => exact fun _ _ _ h => h
            case hwm46 => rfl
            case hym46 => ((intro w hSw; (try dsimp only at hSw); go_simp) <;> with_reducible rfl)
            try simp only [Act.put, List.setIfInBounds_toArray, List.set_cons_zero, List.set_cons_succ]
            refine wpAnyH_take (i := 21) (oi := ?oim47) (v := ?vm47) ?him47 (by kernel_rfl) (by kernel_rfl) (by kernel_rfl) ?hQm47 (Or.inl ⟨?hwm47, ?hym47⟩) (by assumption) ?restm47
            case him47 => simp only [List.getElem?_toArray, List.getElem?_cons_succ, List.getElem?_cons_zero]; exact rfl
            case hQm47 => exact fun _ _ _ h => h
            case hwm47 => rfl
            case hym47 => ((intro w hSw; (try dsimp only at hSw); go_simp) <;> with_reducible rfl)
            try simp only [Act.put, List.setIfInBounds_toArray, List.set_cons_zero, List.set_cons_succ]
            refine wpAnyH_take (i := 22) (oi := ?oim48) (v := ?vm48) ?him48 (by kernel_rfl) (by kernel_rfl) (by kernel_rfl) ?hQm48 (Or.inl ⟨?hwm48, ?hym48⟩) (by assumption) ?restm48
            case him48 => simp only [List.getElem?_toArray, List.getElem?_cons_succ, List.getElem?_cons_zero]; exact rfl
            case hQm48 => exact fun _ _ _ h => h
            case hwm48 => rfl
            case hym48 => ((intro w hSw; (try dsimp only at hSw); go_simp) <;> with_reducible rfl)
            try simp only [Act.put, List.setIfInBounds_toArray, List.set_cons_zero, List.set_cons_succ]
            refine wpAnyH_done (by kernel_rfl) ?_ _
            have hfin := D.trans (hB3.mono D.size)
            clear hHeld
            go_wp2_with fail
            go_ret
            exact ⟨by first | rfl | simp, hfin⟩
end Go.Proofs.Ytdjmejjponlfoab
