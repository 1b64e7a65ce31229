/-
  The drawn law of Matched.
-/
import Derived.Test.YtdjmejjponlfoaaGD
import Derived.Test.YtdjmejjponlfoaaGU
import Derived.Test.YtdjmejjponlfoaaGF
import Derived.Test.YtdjmejjponlfoaaSumO
import Derived.Test.YtdjmejjponlfoaaGS
import Derived.Test.YtdjmejjponlfoaaLawInts
import Derived.Test.YtdjmejjponlfoaaLawCell
namespace Go.Proofs.Ytdjmejjponlfoaa
open Go.RowKit Wire

theorem m_len {za zb : List Int} {n m : Nat} {rg : Bool} {side oi oa op oq mode : Int} (ha : za.length = n * 4) (hb : zb.length = m * 4) (h : rgB za n zb m side oi oa op oq mode = rg) (hn : n ≤ 20) (hm : m ≤ 20) :
    (mZ1 rg side oi oa op oq mode za zb).length / 4 ≤ 20 ∧ (mZ2 rg side oi oa op oq mode za zb).length / 4 ≤ 20 ∧ (mRR rg side oi oa op oq mode za zb).length / 8 ≤ 41 := by
  cases rg
  · simp [mZ1, mZ2, mRR]
  · have R := rg_oth h ha hb
    obtain ⟨M, N, e1, e2, e3, e4⟩ := mtS_len (side := side) (id := oi) (acct := oa) (pr := op) (mode := mode) (othN side n m) (Z := othZ side za zb) (R := []) (q := oq) 0 R.len rfl
    have hle := R.le
    unfold mZ1 mZ2 mRR mtA
    rw [if_pos rfl, if_pos rfl, if_pos rfl]
    unfold othZ at e1 e3
    rw [e3]
    refine ⟨?_, ?_, by omega⟩ <;> split <;> first | omega | (rw [e1]; omega) | simp_all <;> omega
theorem rg_own {za zb : List Int} {n m : Nat} {side oi oa op oq mode : Int} (h : rgB za n zb m side oi oa op oq mode = true) (ha : za.length = n * 4) (hb : zb.length = m * 4) :
    sideN true side ((mZ1 true side oi oa op oq mode za zb).length / 4) ((mZ2 true side oi oa op oq mode za zb).length / 4) = sideN true side n m ∧ sideZ true side (mZ1 true side oi oa op oq mode za zb) (mZ2 true side oi oa op oq mode za zb) = sideZ true side za zb := by
  have hs := (rg_parts h).2.1
  rcases side_cases side with ⟨rfl, -⟩ | ⟨rfl, -⟩ | ⟨-, -, hno⟩
  · simp only [sideN, sideZ, mZ1, if_pos, and_self]
    exact ⟨by omega, trivial⟩
  · simp only [sideN, sideZ, mZ2, if_pos, and_self, show ((2 : Int) = 1) = False by simp, and_false, if_false]
    exact ⟨by omega, trivial⟩
  · rw [hno] at hs
    exact absurd hs (by decide)
set_option linter.unusedSimpArgs false in
set_option linter.unusedVariables false in
set_option maxHeartbeats 6400000 in
set_option maxRecDepth 100000 in
theorem law_MatchD (A : Option Addr) (len cap : Nat) (ys : List Int) (w : World) (hrow : IsRow .u8 w A len cap ys) :
    Calls Try.prog 3 #[.slice A len cap] w fun e w' => e = .returned (.bool true) ∧ Below w.heap.size w w' := by
  have hs := src_of_row hrow
  have hl := row_len hrow
  clear hrow
  have hsrc : ∀ w', Below w.heap.size w w' → Src w' w'.heap.size A len := fun w' hb i hi => by
    obtain ⟨b, o, n, h1, h2, h3, h4, h5⟩ := hs i hi
    exact ⟨b, o, n, h1, Nat.lt_of_lt_of_le h2 hb.size, h3, h4, (hb.cell (p := ⟨b, o + i, none⟩) h2).trans h5⟩
  by_cases hbig : 1048576 < len
  · go_enter Try.func3, Try.ntmps3
    go_wp2_with (go_at_call 9; go_in)
    go_ret
    exact ⟨rfl, Below.refl _ _⟩
  go_enter Try.func3, Try.ntmps3
  go_wp2_with (go_at_call 9; go_in)
  refine (DrawMatched_any A len cap _ hs hl).mono ?_
  rintro e w1 ⟨v1, n, za, v2, m, zb, s, oi, oa, op, oq, md, rfl, hn, hm, TB, D⟩
  obtain ⟨A1, c, A2, d, rfl, rfl⟩ := TB.slices
  have hlA : za.length = n * 4 := by have := TB.one.1; rwa [nums_length] at this
  have hlB : zb.length = m * 4 := by have := TB.two.1; rwa [nums_length] at this
  obtain ⟨kB, kO⟩ := two_blocks w1 (.cells #[.slice A1 n c, .slice A2 m d] 26) (.cells #[.int .i64 oi, .int .i64 oa, .int .i64 op, .int .i64 oq] 28)
  have hba : Below w1.heap.size w1 ((w1.alloc (.cells #[.slice A1 n c, .slice A2 m d] 26)).alloc (.cells #[.int .i64 oi, .int .i64 oa, .int .i64 op, .int .i64 oq] 28)) := ((Below.refl _ _).alloc (Nat.le_refl _) _).alloc (by simp) _
  replace D := D.trans (hba.mono D.size)
  replace TB := TB.below hba
  clear hba
  obtain ⟨p0, p1⟩ := cell2 kB
  obtain ⟨o0, o1, o2, o3, -⟩ := ord_cell kO
  go_wp2_with fail
  clear p0 p1 o0 o1 o2 o3
  generalize ((w1.alloc (.cells #[.slice A1 n c, .slice A2 m d] 26)).alloc (.cells #[.int .i64 oi, .int .i64 oa, .int .i64 op, .int .i64 oq] 28)) = w2 at *
  generalize w1.heap.size = X1 at *
  obtain ⟨rg, hrg⟩ : ∃ x, rgB za n zb m s oi oa op oq md = x := ⟨_, rfl⟩
  have HRG := Lib.hid hrg
  have hLN := m_len hlA hlB hrg hn hm
  obtain ⟨Y1, hsY1⟩ : ∃ x, mZ1 rg s oi oa op oq md za zb = x := ⟨_, rfl⟩
  obtain ⟨Y2, hsY2⟩ : ∃ x, mZ2 rg s oi oa op oq md za zb = x := ⟨_, rfl⟩
  obtain ⟨RR, hsRR⟩ : ∃ x, mRR rg s oi oa op oq md za zb = x := ⟨_, rfl⟩
  obtain ⟨lf, hslf⟩ : ∃ x, mLL rg s oi oa op oq md za zb = x := ⟨_, rfl⟩
  rw [hsY1, hsY2, hsRR] at hLN
  obtain ⟨N1, hsN1⟩ : ∃ x, Y1.length / 4 = x := ⟨_, rfl⟩
  obtain ⟨N2, hsN2⟩ : ∃ x, Y2.length / 4 = x := ⟨_, rfl⟩
  obtain ⟨N3, hsN3⟩ : ∃ x, RR.length / 8 = x := ⟨_, rfl⟩
  rw [hsN1, hsN2, hsN3] at hLN
  obtain ⟨hN1, hN2, hN3⟩ := hLN
  have HY1 := Lib.hid hsY1
  have HY2 := Lib.hid hsY2
  have HRR := Lib.hid hsRR
  have Hlf := Lib.hid hslf
  have HN1 := Lib.hid hsN1
  have HN2 := Lib.hid hsN2
  have HN3 := Lib.hid hsN3
  have hcon := (impl_Matched A1 n c A2 m d za zb s oi oa op oq md w2 (Lst.of_own TB.one) (Lst.of_own TB.two) (by omega) (by omega)).mono (fun e w' h => (⟨mans_len h.1, h.2⟩ : _ ∧ _))
  rw [hrg, hsY1, hsY2, hsRR, hslf, hsN1, hsN2, hsN3] at hcon
  refine hcon.mono ?_
  clear hcon
  rintro e w3 ⟨⟨t1, t2, t3, rfl, TI, RI⟩, hbm⟩
  obtain ⟨BI, bI, CI, cI, rfl, rfl⟩ := TI.slices
  obtain ⟨EI, eI, rfl, _, _⟩ := own_slice RI
  replace D := D.trans (hbm.mono D.size)
  replace TB := TB.below hbm
  replace kB := (hbm.block _ (heap_lt kB)).trans kB
  replace kO := (hbm.block _ (heap_lt kO)).trans kO
  clear hbm
  have kN := heap_alloc_new w3 (.cells #[.slice BI N1 bI, .slice CI N2 cI] 26)
  have hba : Below w3.heap.size w3 (w3.alloc (.cells #[.slice BI N1 bI, .slice CI N2 cI] 26)) := (Below.refl _ _).alloc (Nat.le_refl _) _
  replace D := D.trans (hba.mono D.size)
  replace TB := TB.below hba
  replace kB := (hba.block _ (heap_lt kB)).trans kB
  replace kO := (hba.block _ (heap_lt kO)).trans kO
  replace TI := TI.below hba
  replace RI := own_below RI hba
  clear hba
  obtain ⟨p0, p1⟩ := cell2 kB
  obtain ⟨o0, o1, o2, o3, -⟩ := ord_cell kO
  go_wp2_with fail
  clear p0 p1 o0 o1 o2 o3
  generalize w3.alloc (.cells #[.slice BI N1 bI, .slice CI N2 cI] 26) = w4 at *
  generalize w3.heap.size = X2 at *
  have hcon := (spec_Matched A1 n c A2 m d za zb s oi oa op oq md w4 (Lst.of_own TB.one) (Lst.of_own TB.two) (by omega) (by omega) (own_nil TB.one) (own_nil TB.two)).mono (fun e w' h => (⟨mans_len h.1, h.2⟩ : _ ∧ _))
  rw [hrg, hsY1, hsY2, hsRR, hslf, hsN1, hsN2, hsN3] at hcon
  refine hcon.mono ?_
  clear hcon
  rintro e w5 ⟨⟨t1, t2, t3, rfl, TS, RS⟩, hbm⟩
  obtain ⟨BS, bS, CS, cS, rfl, rfl⟩ := TS.slices
  obtain ⟨ES, eS, rfl, _, _⟩ := own_slice RS
  replace D := D.trans (hbm.mono D.size)
  replace TB := TB.below hbm
  replace kB := (hbm.block _ (heap_lt kB)).trans kB
  replace kO := (hbm.block _ (heap_lt kO)).trans kO
  replace TI := TI.below hbm
  replace RI := own_below RI hbm
  replace kN := (hbm.block _ (heap_lt kN)).trans kN
  clear hbm
  clear hsY1 hsY2 hsRR hslf hsN1 hsN2 hsN3 hrg
  have kM := heap_alloc_new w5 (.cells #[.slice BS N1 bS, .slice CS N2 cS] 26)
  have hba : Below w5.heap.size w5 (w5.alloc (.cells #[.slice BS N1 bS, .slice CS N2 cS] 26)) := (Below.refl _ _).alloc (Nat.le_refl _) _
  replace D := D.trans (hba.mono D.size)
  replace TB := TB.below hba
  replace kB := (hba.block _ (heap_lt kB)).trans kB
  replace kO := (hba.block _ (heap_lt kO)).trans kO
  replace TI := TI.below hba
  replace RI := own_below RI hba
  replace kN := (hba.block _ (heap_lt kN)).trans kN
  replace TS := TS.below hba
  replace RS := own_below RS hba
  clear hba
  have hll : (lf != lf) = false := by simp
  have hll2 : (lf == lf) = true := by simp
  go_upto_region 6 with fail
  generalize w5.alloc (.cells #[.slice BS N1 bS, .slice CS N2 cS] 26) = w6 at *
  generalize w5.heap.size = X3 at *
  cases rg
  · skip
    obtain ⟨p0, p1⟩ := cell2 kN
    obtain ⟨r0, r1⟩ := cell2 kM
    go_wp2_with fail
    clear p0 p1 r0 r1
    refine (sameBook_same _ _ _ _ N1 N2 _ _ _ _ Y1 Y2 w6 TI.bookIn TS.bookIn (by omega) (by omega)).mono ?_
    rintro e w7 ⟨rfl, hbs⟩
    replace D := D.trans (hbs.mono D.size)
    replace TB := TB.below hbs
    replace kB := (hbs.block _ (heap_lt kB)).trans kB
    replace kO := (hbs.block _ (heap_lt kO)).trans kO
    replace TI := TI.below hbs
    replace RI := own_below RI hbs
    replace kN := (hbs.block _ (heap_lt kN)).trans kN
    replace TS := TS.below hbs
    replace RS := own_below RS hbs
    replace kM := (hbs.block _ (heap_lt kM)).trans kM
    clear hbs
    go_wp2_with fail
    refine (sameRecs_same EI ES N3 eI eS RR w7 (Lst.of_own RI) (Lst.of_own RS) (by omega)).mono ?_
    rintro e w8 ⟨rfl, hbs⟩
    replace D := D.trans (hbs.mono D.size)
    replace TB := TB.below hbs
    replace kB := (hbs.block _ (heap_lt kB)).trans kB
    replace kO := (hbs.block _ (heap_lt kO)).trans kO
    replace TI := TI.below hbs
    replace RI := own_below RI hbs
    replace kN := (hbs.block _ (heap_lt kN)).trans kN
    replace TS := TS.below hbs
    replace RS := own_below RS hbs
    replace kM := (hbs.block _ (heap_lt kM)).trans kM
    clear hbs
    obtain ⟨p0, p1⟩ := cell2 kN
    obtain ⟨r0, r1⟩ := cell2 kM
    go_wp2_with fail
    clear p0 p1 r0 r1
    refine (sameBook_same _ _ _ _ N1 N2 _ _ _ _ Y1 Y2 w8 TI.bookIn TS.bookIn (by omega) (by omega)).mono ?_
    rintro e w9 ⟨rfl, hbs⟩
    replace D := D.trans (hbs.mono D.size)
    replace TB := TB.below hbs
    replace kB := (hbs.block _ (heap_lt kB)).trans kB
    replace kO := (hbs.block _ (heap_lt kO)).trans kO
    replace TI := TI.below hbs
    replace RI := own_below RI hbs
    replace kN := (hbs.block _ (heap_lt kN)).trans kN
    replace TS := TS.below hbs
    replace RS := own_below RS hbs
    replace kM := (hbs.block _ (heap_lt kM)).trans kM
    clear hbs
    go_wp2_with fail
    refine (sameRecs_same EI ES N3 eI eS RR w9 (Lst.of_own RI) (Lst.of_own RS) (by omega)).mono ?_
    rintro e w10 ⟨rfl, hbs⟩
    replace D := D.trans (hbs.mono D.size)
    replace TB := TB.below hbs
    replace kB := (hbs.block _ (heap_lt kB)).trans kB
    replace kO := (hbs.block _ (heap_lt kO)).trans kO
    replace TI := TI.below hbs
    replace RI := own_below RI hbs
    replace kN := (hbs.block _ (heap_lt kN)).trans kN
    replace TS := TS.below hbs
    replace RS := own_below RS hbs
    replace kM := (hbs.block _ (heap_lt kM)).trans kM
    clear hbs
    go_wp2_with fail
    go_ret
    exact ⟨by first | rfl | simp, D⟩
  · skip
    obtain ⟨p0, p1⟩ := cell2 kN
    obtain ⟨r0, r1⟩ := cell2 kM
    go_wp2_with fail
    clear p0 p1 r0 r1
    refine (sameBook_same _ _ _ _ N1 N2 _ _ _ _ Y1 Y2 w6 TI.bookIn TS.bookIn (by omega) (by omega)).mono ?_
    rintro e w7 ⟨rfl, hbs⟩
    replace D := D.trans (hbs.mono D.size)
    replace TB := TB.below hbs
    replace kB := (hbs.block _ (heap_lt kB)).trans kB
    replace kO := (hbs.block _ (heap_lt kO)).trans kO
    replace TI := TI.below hbs
    replace RI := own_below RI hbs
    replace kN := (hbs.block _ (heap_lt kN)).trans kN
    replace TS := TS.below hbs
    replace RS := own_below RS hbs
    replace kM := (hbs.block _ (heap_lt kM)).trans kM
    clear hbs
    go_wp2_with fail
    refine (sameRecs_same EI ES N3 eI eS RR w7 (Lst.of_own RI) (Lst.of_own RS) (by omega)).mono ?_
    rintro e w8 ⟨rfl, hbs⟩
    replace D := D.trans (hbs.mono D.size)
    replace TB := TB.below hbs
    replace kB := (hbs.block _ (heap_lt kB)).trans kB
    replace kO := (hbs.block _ (heap_lt kO)).trans kO
    replace TI := TI.below hbs
    replace RI := own_below RI hbs
    replace kN := (hbs.block _ (heap_lt kN)).trans kN
    replace TS := TS.below hbs
    replace RS := own_below RS hbs
    replace kM := (hbs.block _ (heap_lt kM)).trans kM
    clear hbs
    clear kM TS RS
    have hbk := rg_book HRG.out hlA hlB
    have hown := rg_own HRG.out hlA hlB
    have hsum := rg_sum HRG.out hlA hlB
    rw [HY1.out, HY2.out, HN1.out, HN2.out] at hbk hown
    rw [HRR.out, HN3.out, Hlf.out] at hsum
    have hbk0 := (rg_parts HRG.out).1
    have hq6 := (rg_parts HRG.out).2.2.2.2.2.2.2.2.2.2
    have HBK := Lib.hid hbk
    have HB0 := Lib.hid hbk0
    have HOWN := Lib.hid hown
    obtain ⟨hok, hsm, hk0, hl0⟩ := hsum
    have HOKR := Lib.hid hok
    have hs0 := (sumTo_le (id := oi) N3 hok).1
    clear hbk hbk0 hown hok
    have HF := Lib.hid (filledI_yes (id := oi) HOKR.out)
    generalize sumTo RR oi N3 = fs at *
    generalize hks : kindTo RR 4 oi N3 = ks at *
    have HKS := Lib.hid hks
    clear hks
    have hw1 : IntKind.i64.wrap (fs + ks) = fs + ks := by rw [IntKind.wrap_i64]; omega
    have hw2 : IntKind.i64.wrap (fs + ks + lf) = fs + ks + lf := by rw [IntKind.wrap_i64]; omega
    have hw3 : (fs + ks + lf == oq) = true := beq_iff_eq.2 hsm
    generalize hK : sideN true s n m = KO at *
    generalize hT : sideZ true s za zb = ZO at *
    have hK20 : KO ≤ 20 := by rw [← hK]; unfold sideN; split; exact hn; split; exact hm; omega
    have HK := Lib.hid hK
    have HT := Lib.hid hT
    clear hK hT hsm
    go_upto_region 8 with fail
    obtain ⟨p0, p1⟩ := cell2 kN
    obtain ⟨r0, r1⟩ := cell2 kB
    have hlN := heap_lt kN
    have hlBx := heap_lt kB
    refine wp_region_held_drew (S := (fun w' => Below w8.heap.size w8 w')) (by kernel_rfl) ?hSm1 (fun hHeld => ?restm1)
    case hSm1 => exact (Below.refl _ _).drew
    refine wpAnyH_take (i := 0) (oi := ?oim2) (v := ?vm2) ?him2 (by kernel_rfl) (by kernel_rfl) (by kernel_rfl) ?hQm2 (Or.inl ⟨?hwm2, ?hym2⟩) (by assumption) ?restm2
    case him2 => simp only [List.getElem?_toArray, List.getElem?_cons_succ, List.getElem?_cons_zero]; exact rfl
    case hQm2 => exact fun _ _ _ h => h
    case hwm2 => rfl
    case hym2 => ((intro w hSw; have t0 := (hSw.cell (p := ⟨X2, 0, none⟩) hlN).trans p0; have t1 := (hSw.cell (p := ⟨X2, 1, none⟩) hlN).trans p1; go_simp) <;> with_reducible rfl)
    try simp only [Act.put, List.setIfInBounds_toArray, List.set_cons_zero, List.set_cons_succ]
    refine wpAnyH_ready (rs := [1]) (by kernel_rfl) (by simp) ?_
    refine AllReadyH.cons (o := ?or3_1) ?hor3_1 (fun K hK => ?stepr3_1) (AllReadyH.nil)
    case hor3_1 => simp only [List.getElem?_toArray, List.getElem?_cons_succ, List.getElem?_cons_zero]; exact rfl
    case stepr3_1 =>
      go_simp
      refine (impl_BookOk BI N1 bI CI N2 cI Y1 Y2 _ (Lst.of_own (TI.below hHeld).one) (Lst.of_own (TI.below hHeld).two) (by omega) (by omega)).mono ?_
      rw [HBK.out]
      rintro e v1 ⟨rfl, hb1⟩
      have hB1 : Below w8.heap.size w8 v1 := Below.trans hHeld (hb1.mono (Below.size hHeld))
      refine hK.out _ _ ?hSr3_1 (fun hHeld => ?restr3_1)
      case hSr3_1 => exact hB1
      clear hK K
      try simp only [Act.put, List.setIfInBounds_toArray, List.set_cons_zero, List.set_cons_succ]
      refine wpAnyH_take (i := 2) (oi := ?oim4) (v := ?vm4) ?him4 (by kernel_rfl) (by kernel_rfl) (by kernel_rfl) ?hQm4 (Or.inl ⟨?hwm4, ?hym4⟩) (by assumption) ?restm4
      case him4 => simp only [List.getElem?_toArray, List.getElem?_cons_succ, List.getElem?_cons_zero]; exact rfl
      case hQm4 => exact fun _ _ _ h => h
      case hwm4 => rfl
      case hym4 => ((intro w hSw; (try dsimp only at hSw); go_simp) <;> with_reducible rfl)
      try simp only [Act.put, List.setIfInBounds_toArray, List.set_cons_zero, List.set_cons_succ]
      refine wpAnyH_take (i := 3) (oi := ?oim5) (v := ?vm5) ?him5 (by kernel_rfl) (by kernel_rfl) (by kernel_rfl) ?hQm5 (Or.inl ⟨?hwm5, ?hym5⟩) (by assumption) ?restm5
      case him5 => simp only [List.getElem?_toArray, List.getElem?_cons_succ, List.getElem?_cons_zero]; exact rfl
      case hQm5 => exact fun _ _ _ h => h
      case hwm5 => rfl
      case hym5 => ((intro w hSw; (try dsimp only at hSw); go_simp) <;> with_reducible rfl)
      try simp only [Act.put, List.setIfInBounds_toArray, List.set_cons_zero, List.set_cons_succ]
      refine wpAnyH_take (i := 4) (oi := ?oim6) (v := ?vm6) ?him6 (by kernel_rfl) (by kernel_rfl) (by kernel_rfl) ?hQm6 (Or.inl ⟨?hwm6, ?hym6⟩) (by assumption) ?restm6
      case him6 => simp only [List.getElem?_toArray, List.getElem?_cons_succ, List.getElem?_cons_zero]; exact rfl
      case hQm6 => exact fun _ _ _ h => h
      case hwm6 => rfl
      case hym6 => ((intro w hSw; have t0 := (hSw.cell (p := ⟨X2, 0, none⟩) hlN).trans p0; have t1 := (hSw.cell (p := ⟨X2, 1, none⟩) hlN).trans p1; go_simp) <;> with_reducible rfl)
      try simp only [Act.put, List.setIfInBounds_toArray, List.set_cons_zero, List.set_cons_succ]
      refine wpAnyH_take (i := 5) (oi := ?oim7) (v := ?vm7) ?him7 (by kernel_rfl) (by kernel_rfl) (by kernel_rfl) ?hQm7 (Or.inl ⟨?hwm7, ?hym7⟩) (by assumption) ?restm7
      case him7 => simp only [List.getElem?_toArray, List.getElem?_cons_succ, List.getElem?_cons_zero]; exact rfl
      case hQm7 => exact fun _ _ _ h => h
      case hwm7 => rfl
      case hym7 => ((intro w hSw; (try dsimp only at hSw); go_simp) <;> with_reducible rfl)
      try simp only [Act.put, List.setIfInBounds_toArray, List.set_cons_zero, List.set_cons_succ]
      refine wpAnyH_take (i := 7) (oi := ?oim8) (v := ?vm8) ?him8 (by kernel_rfl) (by kernel_rfl) (by kernel_rfl) ?hQm8 (Or.inl ⟨?hwm8, ?hym8⟩) (by assumption) ?restm8
      case him8 => simp only [List.getElem?_toArray, List.getElem?_cons_succ, List.getElem?_cons_zero]; exact rfl
      case hQm8 => exact fun _ _ _ h => h
      case hwm8 => rfl
      case hym8 => ((intro w hSw; have t0 := (hSw.cell (p := ⟨X1, 0, none⟩) hlBx).trans r0; have t1 := (hSw.cell (p := ⟨X1, 1, none⟩) hlBx).trans r1; go_simp) <;> with_reducible rfl)
      try simp only [Act.put, List.setIfInBounds_toArray, List.set_cons_zero, List.set_cons_succ]
      refine wpAnyH_take (i := 8) (oi := ?oim9) (v := ?vm9) ?him9 (by kernel_rfl) (by kernel_rfl) (by kernel_rfl) ?hQm9 (Or.inl ⟨?hwm9, ?hym9⟩) (by assumption) ?restm9
      case him9 => simp only [List.getElem?_toArray, List.getElem?_cons_succ, List.getElem?_cons_zero]; exact rfl
      case hQm9 => exact fun _ _ _ h => h
      case hwm9 => rfl
      case hym9 => ((intro w hSw; (try dsimp only at hSw); go_simp) <;> with_reducible rfl)
      try simp only [Act.put, List.setIfInBounds_toArray, List.set_cons_zero, List.set_cons_succ]
      refine wpAnyH_ready (rs := [6]) (by kernel_rfl) (by simp) ?_
      refine AllReadyH.cons (o := ?or10_6) ?hor10_6 (fun K hK => ?stepr10_6) (AllReadyH.nil)
      case hor10_6 => simp only [List.getElem?_toArray, List.getElem?_cons_succ, List.getElem?_cons_zero]; exact rfl
      case stepr10_6 =>
        go_simp
        refine (impl_Side BI N1 bI CI N2 cI Y1 Y2 s v1 (Lst.of_own (TI.below hB1).one) (Lst.of_own (TI.below hB1).two) (by omega) (by omega)).mono ?_
        rw [HBK.out, HOWN.out.1, HOWN.out.2]
        rintro e v2 ⟨⟨r, rfl, hown2⟩, hb2⟩
        obtain ⟨AP, cP, rfl, _, _⟩ := own_slice hown2
        have hB2 := hB1.trans (hb2.mono hB1.size)
        refine hK.out _ _ ?hSr10_6 (fun hHeld => ?restr10_6)
        case hSr10_6 => exact hB2
        clear hK K
        try simp only [Act.put, List.setIfInBounds_toArray, List.set_cons_zero, List.set_cons_succ]
        refine wpAnyH_ready (rs := [9]) (by kernel_rfl) (by simp) ?_
        refine AllReadyH.cons (o := ?or11_9) ?hor11_9 (fun K hK => ?stepr11_9) (AllReadyH.nil)
        case hor11_9 => simp only [List.getElem?_toArray, List.getElem?_cons_succ, List.getElem?_cons_zero]; exact rfl
        case stepr11_9 =>
          go_simp
          refine (impl_Side A1 n c A2 m d za zb s v2 (Lst.of_own (TB.below hB2).one) (Lst.of_own (TB.below hB2).two) (by omega) (by omega)).mono ?_
          rw [HB0.out, HK.out, HT.out]
          rintro e v3 ⟨⟨r, rfl, hown3⟩, hb3⟩
          obtain ⟨AQ, cQ, rfl, _, _⟩ := own_slice hown3
          have hB3 := hB2.trans (hb3.mono hB2.size)
          refine hK.out _ _ ?hSr11_9 (fun hHeld => ?restr11_9)
          case hSr11_9 => exact hB3
          clear hK K
          try simp only [Act.put, List.setIfInBounds_toArray, List.set_cons_zero, List.set_cons_succ]
          refine wpAnyH_ready (rs := [10]) (by kernel_rfl) (by simp) ?_
          refine AllReadyH.cons (o := ?or12_10) ?hor12_10 (fun K hK => ?stepr12_10) (AllReadyH.nil)
          case hor12_10 => simp only [List.getElem?_toArray, List.getElem?_cons_succ, List.getElem?_cons_zero]; exact rfl
          case stepr12_10 =>
            go_simp
            refine (sameOrders_same AP AQ KO cP cQ ZO v3 (Lst.of_own (own_below hown2 hb3)) (Lst.of_own hown3) (by omega)).mono ?_
            rintro e v4 ⟨rfl, hb4⟩
            have hB4 := hB3.trans (hb4.mono hB3.size)
            refine hK.out _ _ ?hSr12_10 (fun hHeld => ?restr12_10)
            case hSr12_10 => exact hB4
            clear hK K
            try simp only [Act.put, List.setIfInBounds_toArray, List.set_cons_zero, List.set_cons_succ]
            refine wpAnyH_take (i := 11) (oi := ?oim13) (v := ?vm13) ?him13 (by kernel_rfl) (by kernel_rfl) (by kernel_rfl) ?hQm13 (Or.inl ⟨?hwm13, ?hym13⟩) (by assumption) ?restm13
            case him13 => simp only [List.getElem?_toArray, List.getElem?_cons_succ, List.getElem?_cons_zero]; exact rfl
            case hQm13 => exact fun _ _ _ h => h
            case hwm13 => rfl
            case hym13 => ((intro w hSw; (try dsimp only at hSw); go_simp) <;> with_reducible rfl)
            try simp only [Act.put, List.setIfInBounds_toArray, List.set_cons_zero, List.set_cons_succ]
            refine wpAnyH_take (i := 12) (oi := ?oim14) (v := ?vm14) ?him14 (by kernel_rfl) (by kernel_rfl) (by kernel_rfl) ?hQm14 (Or.inl ⟨?hwm14, ?hym14⟩) (by assumption) ?restm14
            case him14 => simp only [List.getElem?_toArray, List.getElem?_cons_succ, List.getElem?_cons_zero]; exact rfl
            case hQm14 => exact fun _ _ _ h => h
            case hwm14 => rfl
            case hym14 => ((intro w hSw; (try dsimp only at hSw); go_simp) <;> with_reducible rfl)
            try simp only [Act.put, List.setIfInBounds_toArray, List.set_cons_zero, List.set_cons_succ]
            refine wpAnyH_done (by kernel_rfl) ?_ _
            clear hHeld p0 p1 r0 r1 kN TI kB TB hown2 hown3 hlN hlBx
            replace D := D.trans (hB4.mono D.size)
            replace kO := (hB4.block _ (heap_lt kO)).trans kO
            replace RI := own_below RI hB4
            clear hB1 hB2 hB3 hB4 hb1 hb2 hb3 hb4
            obtain ⟨o0, o1, o2, o3, -⟩ := ord_cell kO
            have hlO := heap_lt kO
            go_upto_region 10 with fail
            refine wp_region_held_drew (S := (fun w' => Below v4.heap.size v4 w')) (by kernel_rfl) ?hSm15 (fun hHeld => ?restm15)
            case hSm15 => exact (Below.refl _ _).drew
            refine wpAnyH_take (i := 0) (oi := ?oim16) (v := ?vm16) ?him16 (by kernel_rfl) (by kernel_rfl) (by kernel_rfl) ?hQm16 (Or.inl ⟨?hwm16, ?hym16⟩) (by assumption) ?restm16
            case him16 => simp only [List.getElem?_toArray, List.getElem?_cons_succ, List.getElem?_cons_zero]; exact rfl
            case hQm16 => exact fun _ _ _ h => h
            case hwm16 => rfl
            case hym16 => ((intro w hSw; (try dsimp only at hSw); go_simp) <;> with_reducible rfl)
            try simp only [Act.put, List.setIfInBounds_toArray, List.set_cons_zero, List.set_cons_succ]
            refine wpAnyH_take (i := 1) (oi := ?oim17) (v := ?vm17) ?him17 (by kernel_rfl) (by kernel_rfl) (by kernel_rfl) ?hQm17 (Or.inl ⟨?hwm17, ?hym17⟩) (by assumption) ?restm17
            case him17 => simp only [List.getElem?_toArray, List.getElem?_cons_succ, List.getElem?_cons_zero]; exact rfl
            case hQm17 => exact fun _ _ _ h => h
            case hwm17 => rfl
            case hym17 => ((intro w hSw; (try dsimp only at hSw); go_simp) <;> with_reducible rfl)
            try simp only [Act.put, List.setIfInBounds_toArray, List.set_cons_zero, List.set_cons_succ]
            refine wpAnyH_take (i := 2) (oi := ?oim18) (v := ?vm18) ?him18 (by kernel_rfl) (by kernel_rfl) (by kernel_rfl) ?hQm18 (Or.inl ⟨?hwm18, ?hym18⟩) (by assumption) ?restm18
            case him18 => simp only [List.getElem?_toArray, List.getElem?_cons_succ, List.getElem?_cons_zero]; exact rfl
            case hQm18 => exact fun _ _ _ h => h
            case hwm18 => rfl
            case hym18 => ((intro w hSw; have t0 := (hSw.cell (p := ⟨X1 + 1, 0, none⟩) hlO).trans o0; have t3 := (hSw.cell (p := ⟨X1 + 1, 3, none⟩) hlO).trans o3; go_simp) <;> with_reducible rfl)
            try simp only [Act.put, List.setIfInBounds_toArray, List.set_cons_zero, List.set_cons_succ]
            refine wpAnyH_take (i := 4) (oi := ?oim19) (v := ?vm19) ?him19 (by kernel_rfl) (by kernel_rfl) (by kernel_rfl) ?hQm19 (Or.inl ⟨?hwm19, ?hym19⟩) (by assumption) ?restm19
            case him19 => simp only [List.getElem?_toArray, List.getElem?_cons_succ, List.getElem?_cons_zero]; exact rfl
            case hQm19 => exact fun _ _ _ h => h
            case hwm19 => rfl
            case hym19 => ((intro w hSw; (try dsimp only at hSw); go_simp) <;> with_reducible rfl)
            try simp only [Act.put, List.setIfInBounds_toArray, List.set_cons_zero, List.set_cons_succ]
            refine wpAnyH_take (i := 5) (oi := ?oim20) (v := ?vm20) ?him20 (by kernel_rfl) (by kernel_rfl) (by kernel_rfl) ?hQm20 (Or.inl ⟨?hwm20, ?hym20⟩) (by assumption) ?restm20
            case him20 => simp only [List.getElem?_toArray, List.getElem?_cons_succ, List.getElem?_cons_zero]; exact rfl
            case hQm20 => exact fun _ _ _ h => h
            case hwm20 => rfl
            case hym20 => ((intro w hSw; (try dsimp only at hSw); go_simp) <;> with_reducible rfl)
            try simp only [Act.put, List.setIfInBounds_toArray, List.set_cons_zero, List.set_cons_succ]
            refine wpAnyH_take (i := 6) (oi := ?oim21) (v := ?vm21) ?him21 (by kernel_rfl) (by kernel_rfl) (by kernel_rfl) ?hQm21 (Or.inl ⟨?hwm21, ?hym21⟩) (by assumption) ?restm21
            case him21 => simp only [List.getElem?_toArray, List.getElem?_cons_succ, List.getElem?_cons_zero]; exact rfl
            case hQm21 => exact fun _ _ _ h => h
            case hwm21 => rfl
            case hym21 => ((intro w hSw; have t0 := (hSw.cell (p := ⟨X1 + 1, 0, none⟩) hlO).trans o0; have t3 := (hSw.cell (p := ⟨X1 + 1, 3, none⟩) hlO).trans o3; go_simp) <;> with_reducible rfl)
            try simp only [Act.put, List.setIfInBounds_toArray, List.set_cons_zero, List.set_cons_succ]
            refine wpAnyH_take (i := 9) (oi := ?oim22) (v := ?vm22) ?him22 (by kernel_rfl) (by kernel_rfl) (by kernel_rfl) ?hQm22 (Or.inl ⟨?hwm22, ?hym22⟩) (by assumption) ?restm22
            case him22 => simp only [List.getElem?_toArray, List.getElem?_cons_succ, List.getElem?_cons_zero]; exact rfl
            case hQm22 => exact fun _ _ _ h => h
            case hwm22 => rfl
            case hym22 => ((intro w hSw; (try dsimp only at hSw); go_simp) <;> with_reducible rfl)
            try simp only [Act.put, List.setIfInBounds_toArray, List.set_cons_zero, List.set_cons_succ]
            refine wpAnyH_take (i := 11) (oi := ?oim23) (v := ?vm23) ?him23 (by kernel_rfl) (by kernel_rfl) (by kernel_rfl) ?hQm23 (Or.inl ⟨?hwm23, ?hym23⟩) (by assumption) ?restm23
            case him23 => simp only [List.getElem?_toArray, List.getElem?_cons_succ, List.getElem?_cons_zero]; exact rfl
            case hQm23 => exact fun _ _ _ h => h
            case hwm23 => rfl
            case hym23 => ((intro w hSw; (try dsimp only at hSw); go_simp) <;> with_reducible rfl)
            try simp only [Act.put, List.setIfInBounds_toArray, List.set_cons_zero, List.set_cons_succ]
            refine wpAnyH_take (i := 12) (oi := ?oim24) (v := ?vm24) ?him24 (by kernel_rfl) (by kernel_rfl) (by kernel_rfl) ?hQm24 (Or.inl ⟨?hwm24, ?hym24⟩) (by assumption) ?restm24
            case him24 => simp only [List.getElem?_toArray, List.getElem?_cons_succ, List.getElem?_cons_zero]; exact rfl
            case hQm24 => exact fun _ _ _ h => h
            case hwm24 => rfl
            case hym24 => ((intro w hSw; have t0 := (hSw.cell (p := ⟨X1 + 1, 0, none⟩) hlO).trans o0; have t3 := (hSw.cell (p := ⟨X1 + 1, 3, none⟩) hlO).trans o3; go_simp) <;> with_reducible rfl)
            try simp only [Act.put, List.setIfInBounds_toArray, List.set_cons_zero, List.set_cons_succ]
            refine wpAnyH_ready (rs := [3]) (by kernel_rfl) (by simp) ?_
            refine AllReadyH.cons (o := ?or25_3) ?hor25_3 (fun K hK => ?stepr25_3) (AllReadyH.nil)
            case hor25_3 => simp only [List.getElem?_toArray, List.getElem?_cons_succ, List.getElem?_cons_zero]; exact rfl
            case stepr25_3 =>
              go_simp
              refine (impl_Filled EI N3 eI RR oi _ (Lst.of_own (own_below RI hHeld)) (by omega)).mono ?_
              rw [HF.out]
              rintro e v5 ⟨rfl, hb5⟩
              have hB5 : Below v4.heap.size v4 v5 := Below.trans hHeld (hb5.mono (Below.size hHeld))
              refine hK.out _ _ ?hSr25_3 (fun hHeld => ?restr25_3)
              case hSr25_3 => exact hB5
              clear hK K
              try simp only [Act.put, List.setIfInBounds_toArray, List.set_cons_zero, List.set_cons_succ]
              refine wpAnyH_ready (rs := [7]) (by kernel_rfl) (by simp) ?_
              refine AllReadyH.cons (o := ?or26_7) ?hor26_7 (fun K hK => ?stepr26_7) (AllReadyH.nil)
              case hor26_7 => simp only [List.getElem?_toArray, List.getElem?_cons_succ, List.getElem?_cons_zero]; exact rfl
              case stepr26_7 =>
                go_simp
                refine (sumOf_any EI N3 eI RR 4 oi v5 (Lst.of_own (own_below RI hB5)) (by omega) HOKR.out).mono ?_
                rw [HKS.out]
                rintro e v6 ⟨rfl, hb6⟩
                have hB6 := hB5.trans (hb6.mono hB5.size)
                refine hK.out _ _ ?hSr26_7 (fun hHeld => ?restr26_7)
                case hSr26_7 => exact hB6
                clear hK K
                try simp only [Act.put, List.setIfInBounds_toArray, List.set_cons_zero, List.set_cons_succ]
                refine wpAnyH_take (i := 8) (oi := ?oim27) (v := ?vm27) ?him27 (by kernel_rfl) (by kernel_rfl) (by kernel_rfl) ?hQm27 (Or.inl ⟨?hwm27, ?hym27⟩) (by assumption) ?restm27
                case him27 => simp only [List.getElem?_toArray, List.getElem?_cons_succ, List.getElem?_cons_zero]; exact rfl
                case hQm27 => exact fun _ _ _ h => h
                case hwm27 => rfl
                case hym27 => ((intro w hSw; (try dsimp only at hSw); go_simp) <;> with_reducible rfl)
                try simp only [Act.put, List.setIfInBounds_toArray, List.set_cons_zero, List.set_cons_succ]
                refine wpAnyH_take (i := 10) (oi := ?oim28) (v := ?vm28) ?him28 (by kernel_rfl) (by kernel_rfl) (by kernel_rfl) ?hQm28 (Or.inl ⟨?hwm28, ?hym28⟩) (by assumption) ?restm28
                case him28 => simp only [List.getElem?_toArray, List.getElem?_cons_succ, List.getElem?_cons_zero]; exact rfl
                case hQm28 => exact fun _ _ _ h => h
                case hwm28 => rfl
                case hym28 => ((intro w hSw; (try dsimp only at hSw); go_simp) <;> with_reducible rfl)
                try simp only [Act.put, List.setIfInBounds_toArray, List.set_cons_zero, List.set_cons_succ]
                refine wpAnyH_take (i := 13) (oi := ?oim29) (v := ?vm29) ?him29 (by kernel_rfl) (by kernel_rfl) (by kernel_rfl) ?hQm29 (Or.inl ⟨?hwm29, ?hym29⟩) (by assumption) ?restm29
                case him29 => simp only [List.getElem?_toArray, List.getElem?_cons_succ, List.getElem?_cons_zero]; exact rfl
                case hQm29 => exact fun _ _ _ h => h
                case hwm29 => rfl
                case hym29 => ((intro w hSw; (try dsimp only at hSw); go_simp) <;> with_reducible rfl)
                try simp only [Act.put, List.setIfInBounds_toArray, List.set_cons_zero, List.set_cons_succ]
                refine wpAnyH_take (i := 14) (oi := ?oim30) (v := ?vm30) ?him30 (by kernel_rfl) (by kernel_rfl) (by kernel_rfl) ?hQm30 (Or.inl ⟨?hwm30, ?hym30⟩) (by assumption) ?restm30
                case him30 => simp only [List.getElem?_toArray, List.getElem?_cons_succ, List.getElem?_cons_zero]; exact rfl
                case hQm30 => exact fun _ _ _ h => h
                case hwm30 => rfl
                case hym30 => ((intro w hSw; (try dsimp only at hSw); go_simp) <;> with_reducible rfl)
                try simp only [Act.put, List.setIfInBounds_toArray, List.set_cons_zero, List.set_cons_succ]
                refine wpAnyH_done (by kernel_rfl) ?_ _
                have hfin := D.trans (hB6.mono D.size)
                clear hHeld
                go_wp2_with fail
                go_ret
                exact ⟨by first | rfl | simp, hfin⟩
end Go.Proofs.Ytdjmejjponlfoaa
