/-
  The drawn law of an order in two pieces.
-/
import Derived.Test.YtdjmejjponlfoabGD
import Derived.Test.YtdjmejjponlfoabGU
import Derived.Test.YtdjmejjponlfoabGF
import Derived.Test.YtdjmejjponlfoabGS
import Derived.Test.YtdjmejjponlfoabLawInts
import Derived.Test.YtdjmejjponlfoabLawCell
namespace Go.Proofs.Ytdjmejjponlfoab
open Go.RowKit Wire

theorem m_len {za zb : List Int} {n m : Nat} {rg : Bool} {side oi oa op oq mode : Int} (ha : za.length = n * 4) (hb : zb.length = m * 4) (h : rgB za n zb m side oi oa op oq mode = rg) (hn : n ≤ 20) (hm : m ≤ 20) :
    (mZ1 rg side oi oa op oq mode za zb).length / 4 ≤ 20 ∧ (mZ2 rg side oi oa op oq mode za zb).length / 4 ≤ 20 ∧ (mRR rg side oi oa op oq mode za zb).length / 8 ≤ 41 := by
  cases rg
  · simp [mZ1, mZ2, mRR]
  · have R := rg_oth h ha hb
    obtain ⟨M, N, e1, e2, e3, e4⟩ := mtS_len (side := side) (id := oi) (acct := oa) (pr := op) (mode := mode) (othN side n m) (Z := othZ side za zb) (R := []) (q := oq) 0 R.len rfl
    have hle := R.le
    unfold mZ1 mZ2 mRR mtA
    rw [if_pos rfl, if_pos rfl, if_pos rfl]
    unfold othZ at e1 e3
    rw [e3]
    refine ⟨?_, ?_, by omega⟩ <;> split <;> first | omega | (rw [e1]; omega) | simp_all <;> omega
theorem rg_two {za zb : List Int} {n m : Nat} {side oi oa op oq mode q1 q2 : Int} (h : rgB za n zb m side oi oa op oq mode = true) (ha : za.length = n * 4) (hb : zb.length = m * 4) (h3 : mode ≠ 3) (hq1 : 1 ≤ q1) (hq2 : 1 ≤ q2) (hq : q1 + q2 = oq) :
    rgB za n zb m side oi oa op q1 mode = true ∧ rgB (mZ1 true side oi oa op q1 mode za zb) ((mZ1 true side oi oa op q1 mode za zb).length / 4) (mZ2 true side oi oa op q1 mode za zb) ((mZ2 true side oi oa op q1 mode za zb).length / 4) side oi oa op q2 mode = true ∧
    mZ1 true side oi oa op q2 mode (mZ1 true side oi oa op q1 mode za zb) (mZ2 true side oi oa op q1 mode za zb) = mZ1 true side oi oa op oq mode za zb ∧ mZ2 true side oi oa op q2 mode (mZ1 true side oi oa op q1 mode za zb) (mZ2 true side oi oa op q1 mode za zb) = mZ2 true side oi oa op oq mode za zb ∧
    sumTo (mRR true side oi oa op q1 mode za zb) oi ((mRR true side oi oa op q1 mode za zb).length / 8) + sumTo (mRR true side oi oa op q2 mode (mZ1 true side oi oa op q1 mode za zb) (mZ2 true side oi oa op q1 mode za zb)) oi ((mRR true side oi oa op q2 mode (mZ1 true side oi oa op q1 mode za zb) (mZ2 true side oi oa op q1 mode za zb)).length / 8) = sumTo (mRR true side oi oa op oq mode za zb) oi ((mRR true side oi oa op oq mode za zb).length / 8) := by
  have R := rg_oth h ha hb
  obtain ⟨g1, g2, g3, g4, g5, -, -, g6, g7, g8, g9⟩ := rg_parts h
  have hmd : mode = 1 ∨ mode = 2 := by
    simp only [inB, Bool.and_eq_true, decide_eq_true_eq] at g4
    omega
  have hinc : ∀ q, 1 ≤ q → q ≤ 1000000 → incB oi oa op q = true := fun q e1 e2 => by
    unfold incB at g3 ⊢
    simp only [Bool.and_eq_true] at g3 ⊢
    refine ⟨g3.1, g3.2.1, g3.2.2.1, ?_⟩
    simp only [inB, Bool.and_eq_true, decide_eq_true_eq]
    omega
  rw [g1] at g5
  have hr1 : rgB za n zb m side oi oa op q1 mode = true := by
    unfold rgB
    rw [hinc q1 hq1 (by omega), g1, g2, g4, g5]
    rfl
  have hbk := rg_book hr1 ha hb
  obtain ⟨M, g, e1, e2, e3⟩ := mt_sub (side := side) (id := oi) (acct := oa) (pr := op) (mode := mode) (othN side n m) (R := []) (q := q1) R.len R.qty (by omega)
  obtain ⟨hnA, hnB⟩ := rg_noId h
  have two := mt_two (side := side) (id := oi) (acct := oa) (pr := op) hmd (othN side n m) (Z := othZ side za zb) (R := []) (R1 := []) (R2 := []) (q1 := q1) (q2 := q2) 0 0 0 R.len rfl rfl rfl R.qty R.no (by omega) (by omega)
  rw [hq] at two
  simp only [sumTo] at two
  have hno : noId (mtS side oi oa op mode (othZ side za zb) [] q1).1 M oi := fun k hk e => by
    have := e3.val k hk 0 (by omega)
    simp only [Nat.add_zero] at this
    exact R.no (g k) (e3.lt k hk) (this.symm.trans e)
  by_cases hs : side = 1
  · have z1 : ∀ q ya yb, mZ1 true side oi oa op q mode ya yb = ya := fun q ya yb => by unfold mZ1; rw [if_pos rfl, if_pos hs]
    have z2 : ∀ q ya yb, mZ2 true side oi oa op q mode ya yb = (mtS side oi oa op mode yb [] q).1 := fun q ya yb => by unfold mZ2 mtA; rw [if_pos rfl, if_pos hs, if_pos hs]
    have zr : ∀ q ya yb, mRR true side oi oa op q mode ya yb = (mtS side oi oa op mode yb [] q).2.1 := fun q ya yb => by unfold mRR mtA; rw [if_pos rfl, if_pos hs]
    have ez : othZ side za zb = zb := if_pos hs
    rw [ez] at two e1 hno
    simp only [z1, z2, zr] at hbk ⊢
    rw [e1, ha, show n * 4 / 4 = n by omega, show M * 4 / 4 = M by omega] at hbk ⊢
    refine ⟨hr1, ?_, trivial, two.1, by omega⟩
    unfold rgB
    rw [hbk, g2, hinc q2 hq2 (by omega), g4]
    unfold knowsB
    rw [seen_no' (f := idA za n (mtS side oi oa op mode zb [] q1).1) (x := oi) (n + M) (fun k hk => by
      unfold idA
      split
      · exact hnA k (by assumption)
      · exact hno (k - n) (by omega))]
    rfl
  · have z1 : ∀ q ya yb, mZ1 true side oi oa op q mode ya yb = (mtS side oi oa op mode ya [] q).1 := fun q ya yb => by unfold mZ1 mtA; rw [if_pos rfl, if_neg hs, if_neg hs]
    have z2 : ∀ q ya yb, mZ2 true side oi oa op q mode ya yb = yb := fun q ya yb => by unfold mZ2; rw [if_pos rfl, if_neg hs]
    have zr : ∀ q ya yb, mRR true side oi oa op q mode ya yb = (mtS side oi oa op mode ya [] q).2.1 := fun q ya yb => by unfold mRR mtA; rw [if_pos rfl, if_neg hs]
    have ez : othZ side za zb = za := if_neg hs
    rw [ez] at two e1 hno
    simp only [z1, z2, zr] at hbk ⊢
    rw [e1, hb, show m * 4 / 4 = m by omega, show M * 4 / 4 = M by omega] at hbk ⊢
    refine ⟨hr1, ?_, two.1, trivial, by omega⟩
    unfold rgB
    rw [hbk, g2, hinc q2 hq2 (by omega), g4]
    unfold knowsB
    rw [seen_no' (f := idA (mtS side oi oa op mode za [] q1).1 M zb) (x := oi) (M + m) (fun k hk => by
      unfold idA
      split
      · exact hno k (by assumption)
      · exact hnB (k - M) (by omega))]
    rfl
set_option linter.unusedSimpArgs false in
set_option linter.unusedVariables false in
set_option maxHeartbeats 6400000 in
set_option maxRecDepth 100000 in
theorem law_Pieces (A : Option Addr) (len cap : Nat) (ys : List Int) (w : World) (hrow : IsRow .u8 w A len cap ys) :
    Calls Try.prog 3 #[.slice A len cap] w fun e w' => e = .returned (.bool true) ∧ Below w.heap.size w w' := by
  have hs := src_of_row hrow
  have hl := row_len hrow
  clear hrow
  have hsrc : ∀ w', Below w.heap.size w w' → Src w' w'.heap.size A len := fun w' hb i hi => by
    obtain ⟨b, o, n, h1, h2, h3, h4, h5⟩ := hs i hi
    exact ⟨b, o, n, h1, Nat.lt_of_lt_of_le h2 hb.size, h3, h4, (hb.cell (p := ⟨b, o + i, none⟩) h2).trans h5⟩
  by_cases hbig : 1048576 < len
  · go_enter Try.func3, Try.ntmps3
    go_wp2_with (go_at_call 9; go_in)
    go_ret
    exact ⟨rfl, Below.refl _ _⟩
  go_enter Try.func3, Try.ntmps3
  go_wp2_with (go_at_call 9; go_in)
  refine (DrawMatched_any A len cap _ hs hl).mono ?_
  rintro e w1 ⟨v1, n, za, v2, m, zb, s, oi, oa, op, oq, md, rfl, hn, hm, TB, D⟩
  obtain ⟨A1, c, A2, d, rfl, rfl⟩ := TB.slices
  have hlA : za.length = n * 4 := by have := TB.one.1; rwa [nums_length] at this
  have hlB : zb.length = m * 4 := by have := TB.two.1; rwa [nums_length] at this
  obtain ⟨kB, kO⟩ := two_blocks w1 (.cells #[.slice A1 n c, .slice A2 m d] 26) (.cells #[.int .i64 oi, .int .i64 oa, .int .i64 op, .int .i64 oq] 28)
  have hba : Below w1.heap.size w1 ((w1.alloc (.cells #[.slice A1 n c, .slice A2 m d] 26)).alloc (.cells #[.int .i64 oi, .int .i64 oa, .int .i64 op, .int .i64 oq] 28)) := ((Below.refl _ _).alloc (Nat.le_refl _) _).alloc (by simp) _
  replace D := D.trans (hba.mono D.size)
  replace TB := TB.below hba
  clear hba
  obtain ⟨p0, p1⟩ := cell2 kB
  obtain ⟨o0, o1, o2, o3, -⟩ := ord_cell kO
  go_wp2_with fail
  clear p0 p1 o0 o1 o2 o3
  generalize ((w1.alloc (.cells #[.slice A1 n c, .slice A2 m d] 26)).alloc (.cells #[.int .i64 oi, .int .i64 oa, .int .i64 op, .int .i64 oq] 28)) = w2 at *
  generalize w1.heap.size = X1 at *
  obtain ⟨rg, hrg⟩ : ∃ x, rgB za n zb m s oi oa op oq md = x := ⟨_, rfl⟩
  have HRG := Lib.hid hrg
  have hLN := m_len hlA hlB hrg hn hm
  obtain ⟨Y1, hsY1⟩ : ∃ x, mZ1 rg s oi oa op oq md za zb = x := ⟨_, rfl⟩
  obtain ⟨Y2, hsY2⟩ : ∃ x, mZ2 rg s oi oa op oq md za zb = x := ⟨_, rfl⟩
  obtain ⟨RR, hsRR⟩ : ∃ x, mRR rg s oi oa op oq md za zb = x := ⟨_, rfl⟩
  obtain ⟨lf, hslf⟩ : ∃ x, mLL rg s oi oa op oq md za zb = x := ⟨_, rfl⟩
  rw [hsY1, hsY2, hsRR] at hLN
  obtain ⟨N1, hsN1⟩ : ∃ x, Y1.length / 4 = x := ⟨_, rfl⟩
  obtain ⟨N2, hsN2⟩ : ∃ x, Y2.length / 4 = x := ⟨_, rfl⟩
  obtain ⟨N3, hsN3⟩ : ∃ x, RR.length / 8 = x := ⟨_, rfl⟩
  rw [hsN1, hsN2, hsN3] at hLN
  obtain ⟨hN1, hN2, hN3⟩ := hLN
  have HY1 := Lib.hid hsY1
  have HY2 := Lib.hid hsY2
  have HRR := Lib.hid hsRR
  have Hlf := Lib.hid hslf
  have HN1 := Lib.hid hsN1
  have HN2 := Lib.hid hsN2
  have HN3 := Lib.hid hsN3
  have hcon := (impl_Matched A1 n c A2 m d za zb s oi oa op oq md w2 (Lst.of_own TB.one) (Lst.of_own TB.two) (by omega) (by omega)).mono (fun e w' h => (⟨mans_len h.1, h.2⟩ : _ ∧ _))
  rw [hrg, hsY1, hsY2, hsRR, hslf, hsN1, hsN2, hsN3] at hcon
  refine hcon.mono ?_
  clear hcon
  rintro e w3 ⟨⟨t1, t2, t3, rfl, TI, RI⟩, hbm⟩
  obtain ⟨BI, bI, CI, cI, rfl, rfl⟩ := TI.slices
  obtain ⟨EI, eI, rfl, _, _⟩ := own_slice RI
  replace D := D.trans (hbm.mono D.size)
  replace TB := TB.below hbm
  replace kB := (hbm.block _ (heap_lt kB)).trans kB
  replace kO := (hbm.block _ (heap_lt kO)).trans kO
  clear hbm
  have kN := heap_alloc_new w3 (.cells #[.slice BI N1 bI, .slice CI N2 cI] 26)
  have hba : Below w3.heap.size w3 (w3.alloc (.cells #[.slice BI N1 bI, .slice CI N2 cI] 26)) := (Below.refl _ _).alloc (Nat.le_refl _) _
  replace D := D.trans (hba.mono D.size)
  replace TB := TB.below hba
  replace kB := (hba.block _ (heap_lt kB)).trans kB
  replace kO := (hba.block _ (heap_lt kO)).trans kO
  replace TI := TI.below hba
  replace RI := own_below RI hba
  clear hba
  obtain ⟨p0, p1⟩ := cell2 kB
  obtain ⟨o0, o1, o2, o3, -⟩ := ord_cell kO
  go_wp2_with fail
  clear p0 p1 o0 o1 o2 o3
  generalize w3.alloc (.cells #[.slice BI N1 bI, .slice CI N2 cI] 26) = w4 at *
  generalize w3.heap.size = X2 at *
  have hcon := (spec_Matched A1 n c A2 m d za zb s oi oa op oq md w4 (Lst.of_own TB.one) (Lst.of_own TB.two) (by omega) (by omega) (own_nil TB.one) (own_nil TB.two)).mono (fun e w' h => (⟨mans_len h.1, h.2⟩ : _ ∧ _))
  rw [hrg, hsY1, hsY2, hsRR, hslf, hsN1, hsN2, hsN3] at hcon
  refine hcon.mono ?_
  clear hcon
  rintro e w5 ⟨⟨t1, t2, t3, rfl, TS, RS⟩, hbm⟩
  obtain ⟨BS, bS, CS, cS, rfl, rfl⟩ := TS.slices
  obtain ⟨ES, eS, rfl, _, _⟩ := own_slice RS
  replace D := D.trans (hbm.mono D.size)
  replace TB := TB.below hbm
  replace kB := (hbm.block _ (heap_lt kB)).trans kB
  replace kO := (hbm.block _ (heap_lt kO)).trans kO
  replace TI := TI.below hbm
  replace RI := own_below RI hbm
  replace kN := (hbm.block _ (heap_lt kN)).trans kN
  clear hbm
  clear hsY1 hsY2 hsRR hslf hsN1 hsN2 hsN3 hrg
  have hba : Below w5.heap.size w5 (w5.alloc (.cells #[.slice BS N1 bS, .slice CS N2 cS] 26)) := (Below.refl _ _).alloc (Nat.le_refl _) _
  replace D := D.trans (hba.mono D.size)
  replace TB := TB.below hba
  replace kB := (hba.block _ (heap_lt kB)).trans kB
  replace kO := (hba.block _ (heap_lt kO)).trans kO
  replace TI := TI.below hba
  replace RI := own_below RI hba
  replace kN := (hba.block _ (heap_lt kN)).trans kN
  replace RS := own_below RS hba
  clear hba TS
  go_upto_region 6 with fail
  generalize w5.alloc (.cells #[.slice BS N1 bS, .slice CS N2 cS] 26) = w6 at *
  cases rg
  · skip
    go_wp2_with fail
    refine (sameRecs_same EI ES N3 eI eS RR w6 (Lst.of_own RI) (Lst.of_own RS) (by omega)).mono ?_
    rintro e w7 ⟨rfl, hbs⟩
    replace D := D.trans (hbs.mono D.size)
    replace TB := TB.below hbs
    replace kB := (hbs.block _ (heap_lt kB)).trans kB
    replace kO := (hbs.block _ (heap_lt kO)).trans kO
    replace TI := TI.below hbs
    replace RI := own_below RI hbs
    replace kN := (hbs.block _ (heap_lt kN)).trans kN
    replace RS := own_below RS hbs
    clear hbs
    go_wp2_with fail
    refine (sameRecs_same EI ES N3 eI eS RR w7 (Lst.of_own RI) (Lst.of_own RS) (by omega)).mono ?_
    rintro e wz ⟨rfl, hbs⟩
    go_wp2_with fail
    go_ret
    exact ⟨by first | rfl | simp, D.trans (hbs.mono D.size)⟩
  · skip
    go_wp2_with fail
    refine (sameRecs_same EI ES N3 eI eS RR w6 (Lst.of_own RI) (Lst.of_own RS) (by omega)).mono ?_
    rintro e w7 ⟨rfl, hbs⟩
    replace D := D.trans (hbs.mono D.size)
    replace TB := TB.below hbs
    replace kB := (hbs.block _ (heap_lt kB)).trans kB
    replace kO := (hbs.block _ (heap_lt kO)).trans kO
    replace TI := TI.below hbs
    replace RI := own_below RI hbs
    replace kN := (hbs.block _ (heap_lt kN)).trans kN
    replace RS := own_below RS hbs
    clear hbs
    by_cases hm3 : md = 3
    · subst hm3
      go_wp2_with fail
      refine (sameRecs_same EI ES N3 eI eS RR w7 (Lst.of_own RI) (Lst.of_own RS) (by omega)).mono ?_
      rintro e wz ⟨rfl, hbs⟩
      go_wp2_with fail
      go_ret
      exact ⟨by first | rfl | simp, D.trans (hbs.mono D.size)⟩
    · have hm3b : (md == 3) = false := beq_eq_false_iff_ne.2 hm3
      obtain ⟨o0, o1, o2, o3, -⟩ := ord_cell kO
      by_cases hq2 : oq < 2
      · skip
        go_wp2_with fail
        refine (sameRecs_same EI ES N3 eI eS RR w7 (Lst.of_own RI) (Lst.of_own RS) (by omega)).mono ?_
        rintro e wz ⟨rfl, hbs⟩
        go_wp2_with fail
        go_ret
        exact ⟨by first | rfl | simp, D.trans (hbs.mono D.size)⟩
      · clear RS
        have hq6 := (rg_parts HRG.out).2.2.2.2.2.2.2.2.2.2
        have hdv : Int.tdiv oq 2 = oq / 2 := Int.tdiv_eq_ediv_of_nonneg (by omega)
        obtain ⟨qa, hqa⟩ : ∃ x, oq / 2 = x := ⟨_, rfl⟩
        have hqa1 : 1 ≤ qa := by omega
        have hqa2 : qa < oq := by omega
        have hqa3 : qa ≤ 1000000 := by omega
        rw [hqa] at hdv
        have HQA := Lib.hid hqa
        clear hqa
        have hwr0 : IntKind.i64.wrap qa = qa := by rw [IntKind.wrap_i64]; omega
        have hwr1 : IntKind.i64.wrap (oq - qa) = oq - qa := by rw [IntKind.wrap_i64]; omega
        have hTb1 : ∀ q, (Value.slice A1 n c).ownBlock = some q → q < w7.heap.size := fun q e => (TB.one.lt q e).2
        have hTb2 : ∀ q, (Value.slice A2 m d).ownBlock = some q → q < w7.heap.size := fun q e => (TB.two.lt q e).2
        have hTi1 : ∀ q, (Value.slice BI N1 bI).ownBlock = some q → q < w7.heap.size := fun q e => (TI.one.lt q e).2
        have hTi2 : ∀ q, (Value.slice CI N2 cI).ownBlock = some q → q < w7.heap.size := fun q e => (TI.two.lt q e).2
        have hXN : X2 < w7.heap.size := heap_lt kN
        have hXB : X1 < w7.heap.size := heap_lt kB
        have hXO : X1 + 1 < w7.heap.size := heap_lt kO
        have hXw : w.heap.size ≤ w7.heap.size := D.size
        have kF := heap_alloc_new w7 (.cells #[.int .i64 oi, .int .i64 oa, .int .i64 op, .int .i64 oq] 28)
        have hba : Below w7.heap.size w7 (w7.alloc (.cells #[.int .i64 oi, .int .i64 oa, .int .i64 op, .int .i64 oq] 28)) := (Below.refl _ _).alloc (Nat.le_refl _) _
        replace D := D.trans (hba.mono D.size)
        replace TB := TB.below hba
        replace kB := (hba.block _ (heap_lt kB)).trans kB
        replace kO := (hba.block _ (heap_lt kO)).trans kO
        replace TI := TI.below hba
        replace RI := own_below RI hba
        replace kN := (hba.block _ (heap_lt kN)).trans kN
        clear hba
        go_upto_region 9 with fail
        clear o0 o1 o2 o3
        generalize w7.alloc (.cells #[.int .i64 oi, .int .i64 oa, .int .i64 op, .int .i64 oq] 28) = w8 at *
        generalize w7.heap.size = X5 at *
        obtain ⟨o0, o1, o2, o3, -⟩ := ord_cell kO
        have kF2 := Lib.hid (ord_set kF 3 (.int .i64 qa))
        have kN2 := Lib.hid (mset_other (i := 3) (u := (.int .i64 qa)) kN (show X2 ≠ X5 by omega))
        have kB2 := Lib.hid (mset_other (i := 3) (u := (.int .i64 qa)) kB (show X1 ≠ X5 by omega))
        have kO2 := Lib.hid (mset_other (i := 3) (u := (.int .i64 qa)) kO (show X1 + 1 ≠ X5 by omega))
        have D2 := Lib.hid (D.setCell (p := ⟨X5, 3, none⟩) hXw (.int .i64 qa))
        have TB2 := Lib.hid (TB.put (set_grown w8 X5 3 (.int .i64 qa)) (fun e => absurd (hTb1 _ e) (by omega)) (fun e => absurd (hTb2 _ e) (by omega)))
        have TI2 := Lib.hid (TI.put (set_grown w8 X5 3 (.int .i64 qa)) (fun e => absurd (hTi1 _ e) (by omega)) (fun e => absurd (hTi2 _ e) (by omega)))
        have RI2 := Lib.hid (own_set_kind (i := 3) (u := (.int .i64 qa)) RI kF (by decide))
        obtain ⟨y0, y1, y2, y3, f0, f1, f2, f3⟩ := ord_cell kF
        go_upto_region 10 with fail
        clear y0 y1 y2 y3 f0 f1 f2 f3 o0 o1 o2 o3 kF kN kB kO D TB TI RI
        generalize w8.setCell ⟨X5, 3, none⟩ (.int .i64 qa) = w9 at *
        have kF := kF2.out
        simp at kF
        have kN := kN2.out
        have kB := kB2.out
        have kO := kO2.out
        have D := D2.out
        have TB := TB2.out
        have TI := TI2.out
        have RI := RI2.out
        clear kF2 D2 TB2 TI2 RI2 kN2 kB2 kO2
        clear hTb1 hTb2 hTi1 hTi2 hXN hXB hXO hXw
        have hTb1 : ∀ q, (Value.slice A1 n c).ownBlock = some q → q < w9.heap.size := fun q e => (TB.one.lt q e).2
        have hTb2 : ∀ q, (Value.slice A2 m d).ownBlock = some q → q < w9.heap.size := fun q e => (TB.two.lt q e).2
        have hTi1 : ∀ q, (Value.slice BI N1 bI).ownBlock = some q → q < w9.heap.size := fun q e => (TI.one.lt q e).2
        have hTi2 : ∀ q, (Value.slice CI N2 cI).ownBlock = some q → q < w9.heap.size := fun q e => (TI.two.lt q e).2
        have hXN : X2 < w9.heap.size := heap_lt kN
        have hXB : X1 < w9.heap.size := heap_lt kB
        have hXO : X1 + 1 < w9.heap.size := heap_lt kO
        have hXw : w.heap.size ≤ w9.heap.size := D.size
        have hXF : X5 < w9.heap.size := heap_lt kF
        obtain ⟨o0, o1, o2, o3, -⟩ := ord_cell kO
        have kS := heap_alloc_new w9 (.cells #[.int .i64 oi, .int .i64 oa, .int .i64 op, .int .i64 oq] 28)
        have hba : Below w9.heap.size w9 (w9.alloc (.cells #[.int .i64 oi, .int .i64 oa, .int .i64 op, .int .i64 oq] 28)) := (Below.refl _ _).alloc (Nat.le_refl _) _
        replace D := D.trans (hba.mono D.size)
        replace TB := TB.below hba
        replace kB := (hba.block _ (heap_lt kB)).trans kB
        replace kO := (hba.block _ (heap_lt kO)).trans kO
        replace TI := TI.below hba
        replace RI := own_below RI hba
        replace kN := (hba.block _ (heap_lt kN)).trans kN
        replace kF := (hba.block _ (heap_lt kF)).trans kF
        clear hba
        go_upto_region 11 with fail
        clear o0 o1 o2 o3
        generalize w9.alloc (.cells #[.int .i64 oi, .int .i64 oa, .int .i64 op, .int .i64 oq] 28) = wa at *
        generalize w9.heap.size = X6 at *
        obtain ⟨o0, o1, o2, o3, -⟩ := ord_cell kO
        obtain ⟨e0, e1, e2, e3, -⟩ := ord_cell kF
        have kS2 := Lib.hid (ord_set kS 3 (.int .i64 (oq - qa)))
        have kN2 := Lib.hid (mset_other (i := 3) (u := (.int .i64 (oq - qa))) kN (show X2 ≠ X6 by omega))
        have kB2 := Lib.hid (mset_other (i := 3) (u := (.int .i64 (oq - qa))) kB (show X1 ≠ X6 by omega))
        have kO2 := Lib.hid (mset_other (i := 3) (u := (.int .i64 (oq - qa))) kO (show X1 + 1 ≠ X6 by omega))
        have kF2 := Lib.hid (mset_other (i := 3) (u := (.int .i64 (oq - qa))) kF (show X5 ≠ X6 by omega))
        have D2 := Lib.hid (D.setCell (p := ⟨X6, 3, none⟩) hXw (.int .i64 (oq - qa)))
        have TB2 := Lib.hid (TB.put (set_grown wa X6 3 (.int .i64 (oq - qa))) (fun e => absurd (hTb1 _ e) (by omega)) (fun e => absurd (hTb2 _ e) (by omega)))
        have TI2 := Lib.hid (TI.put (set_grown wa X6 3 (.int .i64 (oq - qa))) (fun e => absurd (hTi1 _ e) (by omega)) (fun e => absurd (hTi2 _ e) (by omega)))
        have RI2 := Lib.hid (own_set_kind (i := 3) (u := (.int .i64 (oq - qa))) RI kS (by decide))
        obtain ⟨y0, y1, y2, y3, f0, f1, f2, f3⟩ := ord_cell kS
        go_upto_region 12 with fail
        clear y0 y1 y2 y3 f0 f1 f2 f3 o0 o1 o2 o3 e0 e1 e2 e3 kS kN kB kO kF D TB TI RI
        generalize wa.setCell ⟨X6, 3, none⟩ (.int .i64 (oq - qa)) = wb at *
        have kS := kS2.out
        simp at kS
        have kN := kN2.out
        have kB := kB2.out
        have kO := kO2.out
        have kF := kF2.out
        have D := D2.out
        have TB := TB2.out
        have TI := TI2.out
        have RI := RI2.out
        clear kS2 D2 TB2 TI2 RI2 kN2 kB2 kO2 kF2
        have htwo := rg_two HRG.out hlA hlB hm3 (q1 := qa) (q2 := oq - qa) (by omega) (by omega) (by omega)
        obtain ⟨hr1, hr2, hy1, hy2, hss⟩ := htwo
        obtain ⟨U1, hU1⟩ : ∃ x, mZ1 true s oi oa op qa md za zb = x := ⟨_, rfl⟩
        obtain ⟨U2, hU2⟩ : ∃ x, mZ2 true s oi oa op qa md za zb = x := ⟨_, rfl⟩
        obtain ⟨RA, hRA⟩ : ∃ x, mRR true s oi oa op qa md za zb = x := ⟨_, rfl⟩
        have hmlen := m_len hlA hlB hr1 hn hm
        rw [hU1, hU2, hRA] at hmlen
        rw [hU1, hU2] at hr2 hy1 hy2 hss
        rw [hRA] at hss
        have hbku := rg_book hr1 hlA hlB
        rw [hU1, hU2] at hbku
        obtain ⟨M1, hM1⟩ : ∃ x, U1.length / 4 = x := ⟨_, rfl⟩
        obtain ⟨M2, hM2⟩ : ∃ x, U2.length / 4 = x := ⟨_, rfl⟩
        obtain ⟨M3, hM3⟩ : ∃ x, RA.length / 8 = x := ⟨_, rfl⟩
        rw [hM1, hM2] at hr2
        rw [hM3] at hss
        rw [hM1, hM2, hM3] at hmlen
        obtain ⟨hM1l, hM2l, hM3l⟩ := hmlen
        rw [HY1.out] at hy1
        rw [HY2.out] at hy2
        rw [HRR.out, HN3.out] at hss
        have hok1 := (rg_sum HRG.out hlA hlB).1
        rw [HRR.out, HN3.out] at hok1
        have hok2 := (rg_sum hr1 hlA hlB).1
        rw [hRA, hM3] at hok2
        obtain ⟨p0, p1⟩ := cell2 kB
        obtain ⟨y0, y1, y2, y3, -⟩ := ord_cell kF
        go_wp2_with fail
        clear p0 p1 y0 y1 y2 y3
        have hcon := (impl_Matched A1 n c A2 m d za zb s oi oa op qa md wb (Lst.of_own TB.one) (Lst.of_own TB.two) (by omega) (by omega)).mono (fun e w' h => (⟨mans_len h.1, h.2⟩ : _ ∧ _))
        rw [hr1, hU1, hU2, hRA, hM1, hM2, hM3] at hcon
        refine hcon.mono ?_
        clear hcon
        rintro e wg ⟨⟨t1, t2, t3, rfl, TG, RG⟩, hbm⟩
        obtain ⟨BG, bG, CG, cG, rfl, rfl⟩ := TG.slices
        obtain ⟨EG, eG, rfl, _, _⟩ := own_slice RG
        replace D := D.trans (hbm.mono D.size)
        replace TB := TB.below hbm
        replace kB := (hbm.block _ (heap_lt kB)).trans kB
        replace kO := (hbm.block _ (heap_lt kO)).trans kO
        replace TI := TI.below hbm
        replace RI := own_below RI hbm
        replace kN := (hbm.block _ (heap_lt kN)).trans kN
        replace kF := (hbm.block _ (heap_lt kF)).trans kF
        replace kS := (hbm.block _ (heap_lt kS)).trans kS
        clear hbm kF hr1 hU1 hU2 hRA
        have hgA : U1.length = M1 * 4 := by have := TG.one.1; rwa [nums_length] at this
        have hgB : U2.length = M2 * 4 := by have := TG.two.1; rwa [nums_length] at this
        have kG := heap_alloc_new wg (.cells #[.slice BG M1 bG, .slice CG M2 cG] 26)
        have hba : Below wg.heap.size wg (wg.alloc (.cells #[.slice BG M1 bG, .slice CG M2 cG] 26)) := (Below.refl _ _).alloc (Nat.le_refl _) _
        replace D := D.trans (hba.mono D.size)
        replace TB := TB.below hba
        replace kB := (hba.block _ (heap_lt kB)).trans kB
        replace kO := (hba.block _ (heap_lt kO)).trans kO
        replace TI := TI.below hba
        replace RI := own_below RI hba
        replace kN := (hba.block _ (heap_lt kN)).trans kN
        replace kS := (hba.block _ (heap_lt kS)).trans kS
        replace TG := TG.below hba
        replace RG := own_below RG hba
        clear hba
        obtain ⟨p0, p1⟩ := cell2 kG
        obtain ⟨y0, y1, y2, y3, -⟩ := ord_cell kS
        go_wp2_with fail
        clear p0 p1 y0 y1 y2 y3
        generalize wg.alloc (.cells #[.slice BG M1 bG, .slice CG M2 cG] 26) = wh at *
        generalize wg.heap.size = X7 at *
        obtain ⟨RB, hRB⟩ : ∃ x, mRR true s oi oa op (oq - qa) md U1 U2 = x := ⟨_, rfl⟩
        obtain ⟨M4, hM4⟩ : ∃ x, RB.length / 8 = x := ⟨_, rfl⟩
        have hmlen := m_len hgA hgB hr2 hM1l hM2l
        rw [hy1, hy2, hRB, hM4] at hmlen
        have hM4l := hmlen.2.2
        have hok3 := (rg_sum hr2 hgA hgB).1
        rw [hRB, hM4] at hok3 hss
        have hcon := (impl_Matched BG M1 bG CG M2 cG U1 U2 s oi oa op (oq - qa) md wh (Lst.of_own TG.one) (Lst.of_own TG.two) (by omega) (by omega)).mono (fun e w' h => (⟨mans_len h.1, h.2⟩ : _ ∧ _))
        rw [hr2, hy1, hy2, HN1.out, HN2.out, hRB, hM4] at hcon
        refine hcon.mono ?_
        clear hcon hr2 hy1 hy2 hRB hM4
        rintro e wi ⟨⟨t1, t2, t3, rfl, TH, RH⟩, hbm⟩
        obtain ⟨BH, bH, CH, cH, rfl, rfl⟩ := TH.slices
        obtain ⟨EH, eH, rfl, _, _⟩ := own_slice RH
        replace D := D.trans (hbm.mono D.size)
        replace TB := TB.below hbm
        replace kB := (hbm.block _ (heap_lt kB)).trans kB
        replace kO := (hbm.block _ (heap_lt kO)).trans kO
        replace TI := TI.below hbm
        replace RI := own_below RI hbm
        replace kN := (hbm.block _ (heap_lt kN)).trans kN
        replace kS := (hbm.block _ (heap_lt kS)).trans kS
        replace TG := TG.below hbm
        replace RG := own_below RG hbm
        replace kG := (hbm.block _ (heap_lt kG)).trans kG
        clear hbm kS kG TG
        have kH := heap_alloc_new wi (.cells #[.slice BH N1 bH, .slice CH N2 cH] 26)
        have hba : Below wi.heap.size wi (wi.alloc (.cells #[.slice BH N1 bH, .slice CH N2 cH] 26)) := (Below.refl _ _).alloc (Nat.le_refl _) _
        replace D := D.trans (hba.mono D.size)
        replace TB := TB.below hba
        replace kB := (hba.block _ (heap_lt kB)).trans kB
        replace kO := (hba.block _ (heap_lt kO)).trans kO
        replace TI := TI.below hba
        replace RI := own_below RI hba
        replace kN := (hba.block _ (heap_lt kN)).trans kN
        replace RG := own_below RG hba
        replace TH := TH.below hba
        replace RH := own_below RH hba
        clear hba
        have HF1 := Lib.hid (filledI_yes (id := oi) hok1)
        have HF2 := Lib.hid (filledI_yes (id := oi) hok2)
        have HF3 := Lib.hid (filledI_yes (id := oi) hok3)
        have hl1 := sumTo_le (id := oi) N3 hok1
        have hl2 := sumTo_le (id := oi) M3 hok2
        have hl3 := sumTo_le (id := oi) M4 hok3
        generalize sumTo RR oi N3 = fs at *
        generalize sumTo RA oi M3 = fa at *
        generalize sumTo RB oi M4 = fb at *
        clear hok1 hok2 hok3
        have hw1 : IntKind.i64.wrap (fa + fb) = fa + fb := by rw [IntKind.wrap_i64]; omega
        have hw2 : (fa + fb == fs) = true := beq_iff_eq.2 hss
        clear hss
        go_upto_region 14 with fail
        generalize wi.alloc (.cells #[.slice BH N1 bH, .slice CH N2 cH] 26) = wj at *
        generalize wi.heap.size = X8 at *
        obtain ⟨p0, p1⟩ := cell2 kH
        obtain ⟨r0, r1⟩ := cell2 kN
        obtain ⟨o0, o1, o2, o3, -⟩ := ord_cell kO
        have hlH := heap_lt kH
        have hlN := heap_lt kN
        have hlO := heap_lt kO
        refine wp_region_held_drew (S := (fun w' => Below wj.heap.size wj w')) (by kernel_rfl) ?hSm1 (fun hHeld => ?restm1)
        case hSm1 => exact (Below.refl _ _).drew
        refine wpAnyH_take (i := 0) (oi := ?oim2) (v := ?vm2) ?him2 (by kernel_rfl) (by kernel_rfl) (by kernel_rfl) ?hQm2 (Or.inl ⟨?hwm2, ?hym2⟩) (by assumption) ?restm2
        case him2 => simp only [List.getElem?_toArray, List.getElem?_cons_succ, List.getElem?_cons_zero]; exact rfl
        case hQm2 => exact fun _ _ _ h => h
        case hwm2 => rfl
        case hym2 => ((intro w hSw; (try dsimp only at hSw); go_simp) <;> with_reducible rfl)
        try simp only [Act.put, List.setIfInBounds_toArray, List.set_cons_zero, List.set_cons_succ]
        refine wpAnyH_take (i := 1) (oi := ?oim3) (v := ?vm3) ?him3 (by kernel_rfl) (by kernel_rfl) (by kernel_rfl) ?hQm3 (Or.inl ⟨?hwm3, ?hym3⟩) (by assumption) ?restm3
        case him3 => simp only [List.getElem?_toArray, List.getElem?_cons_succ, List.getElem?_cons_zero]; exact rfl
        case hQm3 => exact fun _ _ _ h => h
        case hwm3 => rfl
        case hym3 => ((intro w hSw; (try dsimp only at hSw); go_simp) <;> with_reducible rfl)
        try simp only [Act.put, List.setIfInBounds_toArray, List.set_cons_zero, List.set_cons_succ]
        refine wpAnyH_take (i := 2) (oi := ?oim4) (v := ?vm4) ?him4 (by kernel_rfl) (by kernel_rfl) (by kernel_rfl) ?hQm4 (Or.inl ⟨?hwm4, ?hym4⟩) (by assumption) ?restm4
        case him4 => simp only [List.getElem?_toArray, List.getElem?_cons_succ, List.getElem?_cons_zero]; exact rfl
        case hQm4 => exact fun _ _ _ h => h
        case hwm4 => rfl
        case hym4 => ((intro w hSw; (try dsimp only at hSw); go_simp) <;> with_reducible rfl)
        try simp only [Act.put, List.setIfInBounds_toArray, List.set_cons_zero, List.set_cons_succ]
        refine wpAnyH_take (i := 3) (oi := ?oim5) (v := ?vm5) ?him5 (by kernel_rfl) (by kernel_rfl) (by kernel_rfl) ?hQm5 (Or.inl ⟨?hwm5, ?hym5⟩) (by assumption) ?restm5
        case him5 => simp only [List.getElem?_toArray, List.getElem?_cons_succ, List.getElem?_cons_zero]; exact rfl
        case hQm5 => exact fun _ _ _ h => h
        case hwm5 => rfl
        case hym5 => ((intro w hSw; (try dsimp only at hSw); go_simp) <;> with_reducible rfl)
        try simp only [Act.put, List.setIfInBounds_toArray, List.set_cons_zero, List.set_cons_succ]
        refine wpAnyH_take (i := 4) (oi := ?oim6) (v := ?vm6) ?him6 (by kernel_rfl) (by kernel_rfl) (by kernel_rfl) ?hQm6 (Or.inl ⟨?hwm6, ?hym6⟩) (by assumption) ?restm6
        case him6 => simp only [List.getElem?_toArray, List.getElem?_cons_succ, List.getElem?_cons_zero]; exact rfl
        case hQm6 => exact fun _ _ _ h => h
        case hwm6 => rfl
        case hym6 => ((intro w hSw; (try dsimp only at hSw); go_simp) <;> with_reducible rfl)
        try simp only [Act.put, List.setIfInBounds_toArray, List.set_cons_zero, List.set_cons_succ]
        refine wpAnyH_take (i := 5) (oi := ?oim7) (v := ?vm7) ?him7 (by kernel_rfl) (by kernel_rfl) (by kernel_rfl) ?hQm7 (Or.inl ⟨?hwm7, ?hym7⟩) (by assumption) ?restm7
        case him7 => simp only [List.getElem?_toArray, List.getElem?_cons_succ, List.getElem?_cons_zero]; exact rfl
        case hQm7 => exact fun _ _ _ h => h
        case hwm7 => rfl
        case hym7 => ((intro w hSw; have t0 := (hSw.cell (p := ⟨X8, 0, none⟩) hlH).trans p0; have t1 := (hSw.cell (p := ⟨X8, 1, none⟩) hlH).trans p1; go_simp) <;> with_reducible rfl)
        try simp only [Act.put, List.setIfInBounds_toArray, List.set_cons_zero, List.set_cons_succ]
        refine wpAnyH_take (i := 6) (oi := ?oim8) (v := ?vm8) ?him8 (by kernel_rfl) (by kernel_rfl) (by kernel_rfl) ?hQm8 (Or.inl ⟨?hwm8, ?hym8⟩) (by assumption) ?restm8
        case him8 => simp only [List.getElem?_toArray, List.getElem?_cons_succ, List.getElem?_cons_zero]; exact rfl
        case hQm8 => exact fun _ _ _ h => h
        case hwm8 => rfl
        case hym8 => ((intro w hSw; have t0 := (hSw.cell (p := ⟨X2, 0, none⟩) hlN).trans r0; have t1 := (hSw.cell (p := ⟨X2, 1, none⟩) hlN).trans r1; go_simp) <;> with_reducible rfl)
        try simp only [Act.put, List.setIfInBounds_toArray, List.set_cons_zero, List.set_cons_succ]
        refine wpAnyH_ready (rs := [7]) (by kernel_rfl) (by simp) ?_
        refine AllReadyH.cons (o := ?or9_7) ?hor9_7 (fun K hK => ?stepr9_7) (AllReadyH.nil)
        case hor9_7 => simp only [List.getElem?_toArray, List.getElem?_cons_succ, List.getElem?_cons_zero]; exact rfl
        case stepr9_7 =>
          go_simp
          refine (sameBook_same _ _ _ _ N1 N2 _ _ _ _ Y1 Y2 _ (TH.below hHeld).bookIn (TI.below hHeld).bookIn (by omega) (by omega)).mono ?_
          rintro e v1 ⟨rfl, hb1⟩
          have hB1 : Below wj.heap.size wj v1 := Below.trans hHeld (hb1.mono (Below.size hHeld))
          refine hK.out _ _ ?hSr9_7 (fun hHeld => ?restr9_7)
          case hSr9_7 => exact hB1
          clear hK K
          try simp only [Act.put, List.setIfInBounds_toArray, List.set_cons_zero, List.set_cons_succ]
          refine wpAnyH_take (i := 8) (oi := ?oim10) (v := ?vm10) ?him10 (by kernel_rfl) (by kernel_rfl) (by kernel_rfl) ?hQm10 (Or.inl ⟨?hwm10, ?hym10⟩) (by assumption) ?restm10
          case him10 => simp only [List.getElem?_toArray, List.getElem?_cons_succ, List.getElem?_cons_zero]; exact rfl
          case hQm10 => exact fun _ _ _ h => h
          case hwm10 => rfl
          case hym10 => ((intro w hSw; (try dsimp only at hSw); go_simp) <;> with_reducible rfl)
          try simp only [Act.put, List.setIfInBounds_toArray, List.set_cons_zero, List.set_cons_succ]
          refine wpAnyH_take (i := 9) (oi := ?oim11) (v := ?vm11) ?him11 (by kernel_rfl) (by kernel_rfl) (by kernel_rfl) ?hQm11 (Or.inl ⟨?hwm11, ?hym11⟩) (by assumption) ?restm11
          case him11 => simp only [List.getElem?_toArray, List.getElem?_cons_succ, List.getElem?_cons_zero]; exact rfl
          case hQm11 => exact fun _ _ _ h => h
          case hwm11 => rfl
          case hym11 => ((intro w hSw; (try dsimp only at hSw); go_simp) <;> with_reducible rfl)
          try simp only [Act.put, List.setIfInBounds_toArray, List.set_cons_zero, List.set_cons_succ]
          refine wpAnyH_take (i := 10) (oi := ?oim12) (v := ?vm12) ?him12 (by kernel_rfl) (by kernel_rfl) (by kernel_rfl) ?hQm12 (Or.inl ⟨?hwm12, ?hym12⟩) (by assumption) ?restm12
          case him12 => simp only [List.getElem?_toArray, List.getElem?_cons_succ, List.getElem?_cons_zero]; exact rfl
          case hQm12 => exact fun _ _ _ h => h
          case hwm12 => rfl
          case hym12 => ((intro w hSw; (try dsimp only at hSw); go_simp) <;> with_reducible rfl)
          try simp only [Act.put, List.setIfInBounds_toArray, List.set_cons_zero, List.set_cons_succ]
          refine wpAnyH_take (i := 11) (oi := ?oim13) (v := ?vm13) ?him13 (by kernel_rfl) (by kernel_rfl) (by kernel_rfl) ?hQm13 (Or.inl ⟨?hwm13, ?hym13⟩) (by assumption) ?restm13
          case him13 => simp only [List.getElem?_toArray, List.getElem?_cons_succ, List.getElem?_cons_zero]; exact rfl
          case hQm13 => exact fun _ _ _ h => h
          case hwm13 => rfl
          case hym13 => ((intro w hSw; (try dsimp only at hSw); go_simp) <;> with_reducible rfl)
          try simp only [Act.put, List.setIfInBounds_toArray, List.set_cons_zero, List.set_cons_succ]
          refine wpAnyH_take (i := 12) (oi := ?oim14) (v := ?vm14) ?him14 (by kernel_rfl) (by kernel_rfl) (by kernel_rfl) ?hQm14 (Or.inl ⟨?hwm14, ?hym14⟩) (by assumption) ?restm14
          case him14 => simp only [List.getElem?_toArray, List.getElem?_cons_succ, List.getElem?_cons_zero]; exact rfl
          case hQm14 => exact fun _ _ _ h => h
          case hwm14 => rfl
          case hym14 => ((intro w hSw; have t0 := (hSw.cell (p := ⟨X1 + 1, 0, none⟩) hlO).trans o0; go_simp) <;> with_reducible rfl)
          try simp only [Act.put, List.setIfInBounds_toArray, List.set_cons_zero, List.set_cons_succ]
          refine wpAnyH_take (i := 14) (oi := ?oim15) (v := ?vm15) ?him15 (by kernel_rfl) (by kernel_rfl) (by kernel_rfl) ?hQm15 (Or.inl ⟨?hwm15, ?hym15⟩) (by assumption) ?restm15
          case him15 => simp only [List.getElem?_toArray, List.getElem?_cons_succ, List.getElem?_cons_zero]; exact rfl
          case hQm15 => exact fun _ _ _ h => h
          case hwm15 => rfl
          case hym15 => ((intro w hSw; (try dsimp only at hSw); go_simp) <;> with_reducible rfl)
          try simp only [Act.put, List.setIfInBounds_toArray, List.set_cons_zero, List.set_cons_succ]
          refine wpAnyH_take (i := 15) (oi := ?oim16) (v := ?vm16) ?him16 (by kernel_rfl) (by kernel_rfl) (by kernel_rfl) ?hQm16 (Or.inl ⟨?hwm16, ?hym16⟩) (by assumption) ?restm16
          case him16 => simp only [List.getElem?_toArray, List.getElem?_cons_succ, List.getElem?_cons_zero]; exact rfl
          case hQm16 => exact fun _ _ _ h => h
          case hwm16 => rfl
          case hym16 => ((intro w hSw; (try dsimp only at hSw); go_simp) <;> with_reducible rfl)
          try simp only [Act.put, List.setIfInBounds_toArray, List.set_cons_zero, List.set_cons_succ]
          refine wpAnyH_take (i := 16) (oi := ?oim17) (v := ?vm17) ?him17 (by kernel_rfl) (by kernel_rfl) (by kernel_rfl) ?hQm17 (Or.inl ⟨?hwm17, ?hym17⟩) (by assumption) ?restm17
          case him17 => simp only [List.getElem?_toArray, List.getElem?_cons_succ, List.getElem?_cons_zero]; exact rfl
          case hQm17 => exact fun _ _ _ h => h
          case hwm17 => rfl
          case hym17 => ((intro w hSw; have t0 := (hSw.cell (p := ⟨X1 + 1, 0, none⟩) hlO).trans o0; go_simp) <;> with_reducible rfl)
          try simp only [Act.put, List.setIfInBounds_toArray, List.set_cons_zero, List.set_cons_succ]
          refine wpAnyH_take (i := 19) (oi := ?oim18) (v := ?vm18) ?him18 (by kernel_rfl) (by kernel_rfl) (by kernel_rfl) ?hQm18 (Or.inl ⟨?hwm18, ?hym18⟩) (by assumption) ?restm18
          case him18 => simp only [List.getElem?_toArray, List.getElem?_cons_succ, List.getElem?_cons_zero]; exact rfl
          case hQm18 => exact fun _ _ _ h => h
          case hwm18 => rfl
          case hym18 => ((intro w hSw; (try dsimp only at hSw); go_simp) <;> with_reducible rfl)
          try simp only [Act.put, List.setIfInBounds_toArray, List.set_cons_zero, List.set_cons_succ]
          refine wpAnyH_take (i := 20) (oi := ?oim19) (v := ?vm19) ?him19 (by kernel_rfl) (by kernel_rfl) (by kernel_rfl) ?hQm19 (Or.inl ⟨?hwm19, ?hym19⟩) (by assumption) ?restm19
          case him19 => simp only [List.getElem?_toArray, List.getElem?_cons_succ, List.getElem?_cons_zero]; exact rfl
          case hQm19 => exact fun _ _ _ h => h
          case hwm19 => rfl
          case hym19 => ((intro w hSw; (try dsimp only at hSw); go_simp) <;> with_reducible rfl)
          try simp only [Act.put, List.setIfInBounds_toArray, List.set_cons_zero, List.set_cons_succ]
          refine wpAnyH_take (i := 21) (oi := ?oim20) (v := ?vm20) ?him20 (by kernel_rfl) (by kernel_rfl) (by kernel_rfl) ?hQm20 (Or.inl ⟨?hwm20, ?hym20⟩) (by assumption) ?restm20
          case him20 => simp only [List.getElem?_toArray, List.getElem?_cons_succ, List.getElem?_cons_zero]; exact rfl
          case hQm20 => exact fun _ _ _ h => h
          case hwm20 => rfl
          case hym20 => ((intro w hSw; have t0 := (hSw.cell (p := ⟨X1 + 1, 0, none⟩) hlO).trans o0; go_simp) <;> with_reducible rfl)
          try simp only [Act.put, List.setIfInBounds_toArray, List.set_cons_zero, List.set_cons_succ]
          refine wpAnyH_ready (rs := [13]) (by kernel_rfl) (by simp) ?_
          refine AllReadyH.cons (o := ?or21_13) ?hor21_13 (fun K hK => ?stepr21_13) (AllReadyH.nil)
          case hor21_13 => simp only [List.getElem?_toArray, List.getElem?_cons_succ, List.getElem?_cons_zero]; exact rfl
          case stepr21_13 =>
            go_simp
            refine (impl_Filled EG M3 eG RA oi v1 (Lst.of_own (own_below RG hB1)) (by omega)).mono ?_
            rw [HF2.out]
            rintro e v2 ⟨rfl, hb2⟩
            have hB2 := hB1.trans (hb2.mono hB1.size)
            refine hK.out _ _ ?hSr21_13 (fun hHeld => ?restr21_13)
            case hSr21_13 => exact hB2
            clear hK K
            try simp only [Act.put, List.setIfInBounds_toArray, List.set_cons_zero, List.set_cons_succ]
            refine wpAnyH_ready (rs := [17]) (by kernel_rfl) (by simp) ?_
            refine AllReadyH.cons (o := ?or22_17) ?hor22_17 (fun K hK => ?stepr22_17) (AllReadyH.nil)
            case hor22_17 => simp only [List.getElem?_toArray, List.getElem?_cons_succ, List.getElem?_cons_zero]; exact rfl
            case stepr22_17 =>
              go_simp
              refine (impl_Filled EH M4 eH RB oi v2 (Lst.of_own (own_below RH hB2)) (by omega)).mono ?_
              rw [HF3.out]
              rintro e v3 ⟨rfl, hb3⟩
              have hB3 := hB2.trans (hb3.mono hB2.size)
              refine hK.out _ _ ?hSr22_17 (fun hHeld => ?restr22_17)
              case hSr22_17 => exact hB3
              clear hK K
              try simp only [Act.put, List.setIfInBounds_toArray, List.set_cons_zero, List.set_cons_succ]
              refine wpAnyH_take (i := 18) (oi := ?oim23) (v := ?vm23) ?him23 (by kernel_rfl) (by kernel_rfl) (by kernel_rfl) ?hQm23 (Or.inl ⟨?hwm23, ?hym23⟩) (by assumption) ?restm23
              case him23 => simp only [List.getElem?_toArray, List.getElem?_cons_succ, List.getElem?_cons_zero]; exact rfl
              case hQm23 => exact fun _ _ _ h => h
              case hwm23 => rfl
              case hym23 => ((intro w hSw; (try dsimp only at hSw); go_simp) <;> with_reducible rfl)
              try simp only [Act.put, List.setIfInBounds_toArray, List.set_cons_zero, List.set_cons_succ]
              refine wpAnyH_ready (rs := [22]) (by kernel_rfl) (by simp) ?_
              refine AllReadyH.cons (o := ?or24_22) ?hor24_22 (fun K hK => ?stepr24_22) (AllReadyH.nil)
              case hor24_22 => simp only [List.getElem?_toArray, List.getElem?_cons_succ, List.getElem?_cons_zero]; exact rfl
              case stepr24_22 =>
                go_simp
                refine (impl_Filled EI N3 eI RR oi v3 (Lst.of_own (own_below RI hB3)) (by omega)).mono ?_
                rw [HF1.out]
                rintro e v4 ⟨rfl, hb4⟩
                have hB4 := hB3.trans (hb4.mono hB3.size)
                refine hK.out _ _ ?hSr24_22 (fun hHeld => ?restr24_22)
                case hSr24_22 => exact hB4
                clear hK K
                try simp only [Act.put, List.setIfInBounds_toArray, List.set_cons_zero, List.set_cons_succ]
                refine wpAnyH_take (i := 23) (oi := ?oim25) (v := ?vm25) ?him25 (by kernel_rfl) (by kernel_rfl) (by kernel_rfl) ?hQm25 (Or.inl ⟨?hwm25, ?hym25⟩) (by assumption) ?restm25
                case him25 => simp only [List.getElem?_toArray, List.getElem?_cons_succ, List.getElem?_cons_zero]; exact rfl
                case hQm25 => exact fun _ _ _ h => h
                case hwm25 => rfl
                case hym25 => ((intro w hSw; (try dsimp only at hSw); go_simp) <;> with_reducible rfl)
                try simp only [Act.put, List.setIfInBounds_toArray, List.set_cons_zero, List.set_cons_succ]
                refine wpAnyH_take (i := 24) (oi := ?oim26) (v := ?vm26) ?him26 (by kernel_rfl) (by kernel_rfl) (by kernel_rfl) ?hQm26 (Or.inl ⟨?hwm26, ?hym26⟩) (by assumption) ?restm26
                case him26 => simp only [List.getElem?_toArray, List.getElem?_cons_succ, List.getElem?_cons_zero]; exact rfl
                case hQm26 => exact fun _ _ _ h => h
                case hwm26 => rfl
                case hym26 => ((intro w hSw; (try dsimp only at hSw); go_simp) <;> with_reducible rfl)
                try simp only [Act.put, List.setIfInBounds_toArray, List.set_cons_zero, List.set_cons_succ]
                refine wpAnyH_take (i := 25) (oi := ?oim27) (v := ?vm27) ?him27 (by kernel_rfl) (by kernel_rfl) (by kernel_rfl) ?hQm27 (Or.inl ⟨?hwm27, ?hym27⟩) (by assumption) ?restm27
                case him27 => simp only [List.getElem?_toArray, List.getElem?_cons_succ, List.getElem?_cons_zero]; exact rfl
                case hQm27 => exact fun _ _ _ h => h
                case hwm27 => rfl
                case hym27 => ((intro w hSw; (try dsimp only at hSw); go_simp) <;> with_reducible rfl)
                try simp only [Act.put, List.setIfInBounds_toArray, List.set_cons_zero, List.set_cons_succ]
                refine wpAnyH_done (by kernel_rfl) ?_ _
                have hfin := D.trans (hB4.mono D.size)
                clear hHeld
                go_wp2_with fail
                go_ret
                exact ⟨by first | rfl | simp, hfin⟩
end Go.Proofs.Ytdjmejjponlfoab
