/-
  The drawn law of Rested.
-/
import Derived.Test.YtnldfbcelakimaaGD
import Derived.Test.YtnldfbcelakimaaOptS
import Derived.Test.YtnldfbcelakimaaGS
import Derived.Test.YtnldfbcelakimaaRsP
import Derived.Test.YtnldfbcelakimaaLawInts
import Derived.Test.YtnldfbcelakimaaLawCell
namespace Go.Proofs.Ytnldfbcelakimaa
open Go.RowKit Wire

set_option linter.unusedSimpArgs false in
set_option linter.unusedVariables false in
set_option maxHeartbeats 6400000 in
set_option maxRecDepth 100000 in
theorem law_RestedD (A : Option Addr) (len cap : Nat) (ys : List Int) (w : World) (hrow : IsRow .u8 w A len cap ys) :
    Calls Try.prog 4 #[.slice A len cap] w fun e w' => e = .returned (.bool true) ∧ Below w.heap.size w w' := by
  have hs := src_of_row hrow
  have hl := row_len hrow
  clear hrow
  have hsrc : ∀ w', Below w.heap.size w w' → Src w' w'.heap.size A len := fun w' hb i hi => by
    obtain ⟨b, o, n, h1, h2, h3, h4, h5⟩ := hs i hi
    exact ⟨b, o, n, h1, Nat.lt_of_lt_of_le h2 hb.size, h3, h4, (hb.cell (p := ⟨b, o + i, none⟩) h2).trans h5⟩
  by_cases hbig : 1048576 < len
  · go_enter Try.func4, Try.ntmps4
    go_wp2_with (go_at_call 9; go_in)
    go_ret
    exact ⟨rfl, Below.refl _ _⟩
  go_enter Try.func4, Try.ntmps4
  go_wp2_with (go_at_call 9; go_in)
  refine (DrawRested_any A len cap _ hs hl).mono ?_
  rintro e w1 ⟨v1, n, za, v2, m, zb, s, oi, oa, op, oq, rfl, -, hn, hm, TB, D⟩
  obtain ⟨A1, c, A2, d, rfl, rfl⟩ := TB.slices
  have hlA : za.length = n * 4 := by have := TB.one.1; rwa [nums_length] at this
  have hlB : zb.length = m * 4 := by have := TB.two.1; rwa [nums_length] at this
  obtain ⟨kB, kO⟩ := two_blocks w1 (.cells #[.slice A1 n c, .slice A2 m d] 26) (.cells #[.int .i64 oi, .int .i64 oa, .int .i64 op, .int .i64 oq] 36)
  have hba : Below w1.heap.size w1 ((w1.alloc (.cells #[.slice A1 n c, .slice A2 m d] 26)).alloc (.cells #[.int .i64 oi, .int .i64 oa, .int .i64 op, .int .i64 oq] 36)) := ((Below.refl _ _).alloc (Nat.le_refl _) _).alloc (by simp) _
  replace D := D.trans (hba.mono D.size)
  replace TB := TB.below hba
  clear hba
  obtain ⟨p0, p1⟩ := cell2 kB
  obtain ⟨o0, o1, o2, o3, -⟩ := ord_cell kO
  go_wp2_with fail
  clear p0 p1 o0 o1 o2 o3
  generalize ((w1.alloc (.cells #[.slice A1 n c, .slice A2 m d] 26)).alloc (.cells #[.int .i64 oi, .int .i64 oa, .int .i64 op, .int .i64 oq] 36)) = w2 at *
  generalize w1.heap.size = X1 at *
  refine (impl_Rested A1 n c A2 m d za zb s oi oa op oq w2 (Lst.of_own TB.one) (Lst.of_own TB.two) (by omega) (by omega)).mono ?_
  have HR := Lib.hid (rs_all (side := s) (a := oi) (b := oa) (c := op) (d := oq) hlA hlB)
  generalize hok : restOk s oi oa op oq za n zb m = ok at *
  generalize hsN1 : restN1 s n = R1 at *
  generalize hsN2 : restN2 s m = R2 at *
  generalize hsZ1 : rest1 s op za n [oi, oa, op, oq] = Y1 at *
  generalize hsZ2 : rest2 s op zb m [oi, oa, op, oq] = Y2 at *
  have HOK := Lib.hid hok
  have HN1 := Lib.hid hsN1
  have HN2 := Lib.hid hsN2
  have HZ1 := Lib.hid hsZ1
  have HZ2 := Lib.hid hsZ2
  clear hok hsN1 hsN2 hsZ1 hsZ2
  have hr1 : R1 ≤ n + 1 := by rw [← HN1.out]; unfold restN1; split <;> omega
  have hr2 : R2 ≤ m + 1 := by rw [← HN2.out]; unfold restN2; split <;> omega
  have hq1 : onN ok R1 ≤ 21 := by unfold onN; split <;> omega
  have hq2 : onN ok R2 ≤ 21 := by unfold onN; split <;> omega
  rintro e w3 ⟨⟨t1, t2, rfl, TN⟩, hb3⟩
  obtain ⟨B1, e1, B2, e2, rfl, rfl⟩ := TN.slices
  replace D := D.trans (hb3.mono D.size)
  replace TB := TB.below hb3
  replace kB := (hb3.block _ (heap_lt kB)).trans kB
  replace kO := (hb3.block _ (heap_lt kO)).trans kO
  clear hb3
  have kN := heap_alloc_new w3 (.cells #[.slice B1 (onN ok R1) e1, .slice B2 (onN ok R2) e2] 26)
  have hba : Below w3.heap.size w3 (w3.alloc (.cells #[.slice B1 (onN ok R1) e1, .slice B2 (onN ok R2) e2] 26)) := (Below.refl _ _).alloc (Nat.le_refl _) _
  replace D := D.trans (hba.mono D.size)
  replace TB := TB.below hba
  replace kB := (hba.block _ (heap_lt kB)).trans kB
  replace kO := (hba.block _ (heap_lt kO)).trans kO
  replace TN := TN.below hba
  clear hba
  obtain ⟨p0, p1⟩ := cell2 kB
  obtain ⟨o0, o1, o2, o3, -⟩ := ord_cell kO
  go_wp2_with fail
  clear p0 p1 o0 o1 o2 o3
  generalize w3.alloc (.cells #[.slice B1 (onN ok R1) e1, .slice B2 (onN ok R2) e2] 26) = w4 at *
  generalize w3.heap.size = X2 at *
  refine (spec_RestedO A1 n c A2 m d za zb s oi oa op oq w4 (Lst.of_own TB.one) (Lst.of_own TB.two) (by omega) (by omega) (own_nil TB.one) (own_nil TB.two) (own_cap TB.one) (own_cap TB.two)).mono ?_
  rw [HOK.out, HN1.out, HN2.out, HZ1.out, HZ2.out]
  rintro e w5 ⟨⟨t1, t2, rfl, TM⟩, hb5⟩
  obtain ⟨C1, g1, C2, g2, rfl, rfl⟩ := TM.slices
  replace D := D.trans (hb5.mono D.size)
  replace TB := TB.below hb5
  replace kB := (hb5.block _ (heap_lt kB)).trans kB
  replace kO := (hb5.block _ (heap_lt kO)).trans kO
  replace TN := TN.below hb5
  replace kN := (hb5.block _ (heap_lt kN)).trans kN
  clear hb5
  have kM := heap_alloc_new w5 (.cells #[.slice C1 (onN ok R1) g1, .slice C2 (onN ok R2) g2] 26)
  have hba : Below w5.heap.size w5 (w5.alloc (.cells #[.slice C1 (onN ok R1) g1, .slice C2 (onN ok R2) g2] 26)) := (Below.refl _ _).alloc (Nat.le_refl _) _
  replace D := D.trans (hba.mono D.size)
  replace TB := TB.below hba
  replace kB := (hba.block _ (heap_lt kB)).trans kB
  replace kO := (hba.block _ (heap_lt kO)).trans kO
  replace TN := TN.below hba
  replace kN := (hba.block _ (heap_lt kN)).trans kN
  replace TM := TM.below hba
  clear hba
  go_upto_region 6 with fail
  generalize w5.alloc (.cells #[.slice C1 (onN ok R1) g1, .slice C2 (onN ok R2) g2] 26) = w6 at *
  generalize w5.heap.size = X3 at *
  cases ok
  · skip
    obtain ⟨p0, p1⟩ := cell2 kN
    obtain ⟨r0, r1⟩ := cell2 kM
    go_wp2_with fail
    clear p0 p1 r0 r1
    refine (sameBook_same _ _ _ _ _ _ _ _ _ _ _ _ w6 TN.bookIn TM.bookIn (by omega) (by omega)).mono ?_
    rintro e w7 ⟨rfl, hbs⟩
    replace D := D.trans (hbs.mono D.size)
    replace TB := TB.below hbs
    replace kB := (hbs.block _ (heap_lt kB)).trans kB
    replace kO := (hbs.block _ (heap_lt kO)).trans kO
    replace TN := TN.below hbs
    replace kN := (hbs.block _ (heap_lt kN)).trans kN
    replace TM := TM.below hbs
    replace kM := (hbs.block _ (heap_lt kM)).trans kM
    clear hbs
    obtain ⟨p0, p1⟩ := cell2 kN
    obtain ⟨r0, r1⟩ := cell2 kM
    go_wp2_with fail
    clear p0 p1 r0 r1
    refine (sameBook_same _ _ _ _ _ _ _ _ _ _ _ _ w7 TN.bookIn TM.bookIn (by omega) (by omega)).mono ?_
    rintro e w8 ⟨rfl, hbs⟩
    replace D := D.trans (hbs.mono D.size)
    replace TB := TB.below hbs
    replace kB := (hbs.block _ (heap_lt kB)).trans kB
    replace kO := (hbs.block _ (heap_lt kO)).trans kO
    replace TN := TN.below hbs
    replace kN := (hbs.block _ (heap_lt kN)).trans kN
    replace TM := TM.below hbs
    replace kM := (hbs.block _ (heap_lt kM)).trans kM
    clear hbs
    go_wp2_with fail
    go_ret
    exact ⟨by first | rfl | simp, D⟩
  · skip
    obtain ⟨hbk, ⟨ht1, hn1⟩, ⟨ht2, hn2⟩, T, K, p, hT, hK, hK21, R, hfind⟩ := HR.out rfl
    have HBK := Lib.hid hbk
    have HT1 := Lib.hid ht1
    have HT2 := Lib.hid ht2
    have HM1 := Lib.hid hn1
    have HM2 := Lib.hid hn2
    have HT := Lib.hid hT
    have HK := Lib.hid hK
    have HF := Lib.hid hfind
    clear hbk ht1 hn1 ht2 hn2 hT hK hfind HR
    have hpK := R.lt
    have HRR := Lib.hid R
    clear R
    obtain ⟨p0, p1⟩ := cell2 kN
    obtain ⟨r0, r1⟩ := cell2 kM
    go_wp2_with fail
    clear p0 p1 r0 r1
    refine (sameBook_same _ _ _ _ _ _ _ _ _ _ _ _ w6 TN.bookIn TM.bookIn (by omega) (by omega)).mono ?_
    rintro e w7 ⟨rfl, hbs⟩
    replace D := D.trans (hbs.mono D.size)
    replace TB := TB.below hbs
    replace kB := (hbs.block _ (heap_lt kB)).trans kB
    replace kO := (hbs.block _ (heap_lt kO)).trans kO
    replace TN := TN.below hbs
    replace kN := (hbs.block _ (heap_lt kN)).trans kN
    replace TM := TM.below hbs
    replace kM := (hbs.block _ (heap_lt kM)).trans kM
    clear hbs
    clear kM TM
    obtain ⟨p0, p1⟩ := cell2 kN
    go_wp2_with fail
    clear p0 p1
    refine (impl_Side B1 R1 e1 B2 R2 e2 Y1 Y2 s w7 (Lst.of_own TN.one) (Lst.of_own TN.two) (by omega) (by omega)).mono ?_
    rw [HBK.out, HT.out, HK.out]
    rintro e w8 ⟨⟨r, rfl, TL⟩, hb8⟩
    replace D := D.trans (hb8.mono D.size)
    replace TB := TB.below hb8
    replace kB := (hb8.block _ (heap_lt kB)).trans kB
    replace kO := (hb8.block _ (heap_lt kO)).trans kO
    replace TN := TN.below hb8
    replace kN := (hb8.block _ (heap_lt kN)).trans kN
    clear hb8
    obtain ⟨AL, cL, rfl, hLc, hLm⟩ := own_slice TL
    go_wp2_with fail
    go_loopw [11] (fun i wr => ∃ k : Nat, k ≤ p ∧ i = .int .i64 (k : Int) ∧ Below w8.heap.size w8 wr) (fun i _ => p + 1 - (intOf i).toNat)
    case atStart => exact ⟨0, Nat.zero_le _, rfl, Below.refl _ _⟩
    case round =>
      obtain ⟨k, hk, rfl, hbr⟩ := hrel
      replace D := D.trans (hbr.mono D.size)
      replace TB := TB.below hbr
      replace kB := (hbr.block _ (heap_lt kB)).trans kB
      replace kO := (hbr.block _ (heap_lt kO)).trans kO
      replace TN := TN.below hbr
      replace kN := (hbr.block _ (heap_lt kN)).trans kN
      replace TL := own_below TL hbr
      obtain ⟨o0, o1, o2, o3, -⟩ := ord_cell kO
      obtain ⟨b, o, hax, hbo, c0, c1, c2, c3⟩ := (Lst.of_own TL).row4 (k := k) (by omega)
      subst hax
      have hkK : (k : Int) < (K : Int) := by omega
      by_cases hlt : k < p
      · have hne : ¬ num T (k * 4) = oi := HRR.out.other k (by omega) (by omega)
        have hne2 : (num T (k * 4) != oi) = true := by simp [hne]
        clear c1 c2 c3 o1 o2 o3
        go_upto_region 10 with fail
        go_region
        all_goals go_wp2_with fail
        all_goals go_roundw
        case rel => exact ⟨k + 1, by omega, by go_num, hbr.drew⟩
        case measure => simp [intOf]; omega
      · obtain rfl : p = k := by omega
        rw [HRR.out.v0] at c0
        rw [HRR.out.v1] at c1
        rw [HRR.out.v2] at c2
        rw [HRR.out.v3] at c3
        have hne2 : (oi != oi) = false := by simp
        go_upto_region 10 with fail
        go_region
        all_goals go_upto_region 12 with fail
        have hwr : IntKind.i64.wrap ((p : Int) + 1) = (p : Int) + 1 := by rw [IntKind.wrap_i64]; omega
        have hpe : ((p : Int) == (K : Int)) = false := beq_eq_false_iff_ne.2 (by omega)
        by_cases hp1 : p + 1 < K
        · obtain ⟨b', o', hax, -, -, -, d2, -⟩ := (Lst.of_own TL).row4 (k := p + 1) hp1
          injection hax with hax
          injection hax with q1 q2 _
          subst q1 q2
          have hnx : (num T ((p + 1) * 4 + 2) == op) = false := beq_eq_false_iff_ne.2 (HRR.out.next hp1)
          have hp2 : (p : Int) + 1 < (K : Int) := by omega
          go_region
          clear c0 c1 c2 c3 hne2 hpe hp2 o1 o2 o3
          have hdr : Below wr.heap.size wr wr.drew.drew := ((Below.refl _ _).drew).drew
          replace D := D.trans (hdr.mono D.size)
          replace TB := TB.below hdr
          replace kB := (hdr.block _ (heap_lt kB)).trans kB
          replace kO := (hdr.block _ (heap_lt kO)).trans kO
          replace TN := TN.below hdr
          replace kN := (hdr.block _ (heap_lt kN)).trans kN
          replace TL := own_below TL hdr
          obtain ⟨o0, o1, o2, o3, -⟩ := ord_cell kO
          clear hdr hbr
          generalize wr.drew.drew = wz at *
          obtain ⟨p0, p1⟩ := cell2 kN
          go_wp2_with fail
          clear p0 p1 o0 o1 o2 o3
          refine (impl_Taken B1 R1 e1 B2 R2 e2 Y1 Y2 oi wz (Lst.of_own TN.one) (Lst.of_own TN.two) (by omega) (by omega)).mono ?_
          rintro e w9 ⟨⟨s', f', ok', t1, t2, hrel', rfl, ho1, ho2, hne⟩, hb9⟩
          rw [HBK.out] at hrel'
          obtain rfl := HF.out _ _ _ hrel'
          simp only [if_true] at ho1 ho2
          rw [HT1.out, HM1.out] at ho1
          rw [HT2.out, HM2.out] at ho2
          have TK := TwoRows.mk ho1 ho2 hne
          obtain ⟨F1, h1, F2, h2, rfl, rfl⟩ := TK.slices
          replace D := D.trans (hb9.mono D.size)
          replace TB := TB.below hb9
          replace kB := (hb9.block _ (heap_lt kB)).trans kB
          replace kO := (hb9.block _ (heap_lt kO)).trans kO
          replace TN := TN.below hb9
          replace kN := (hb9.block _ (heap_lt kN)).trans kN
          replace TL := own_below TL hb9
          clear hb9 hrel' ho1 ho2 hne
          have kK := heap_alloc_new w9 (.cells #[.slice F1 n h1, .slice F2 m h2] 26)
          have hba : Below w9.heap.size w9 (w9.alloc (.cells #[.slice F1 n h1, .slice F2 m h2] 26)) := (Below.refl _ _).alloc (Nat.le_refl _) _
          replace D := D.trans (hba.mono D.size)
          replace TB := TB.below hba
          replace kB := (hba.block _ (heap_lt kB)).trans kB
          replace kO := (hba.block _ (heap_lt kO)).trans kO
          replace TN := TN.below hba
          replace kN := (hba.block _ (heap_lt kN)).trans kN
          replace TL := own_below TL hba
          replace TK := TK.below hba
          clear hba
          obtain ⟨p0, p1⟩ := cell2 kN
          go_wp2_with fail
          clear p0 p1
          generalize w9.alloc (.cells #[.slice F1 n h1, .slice F2 m h2] 26) = w10 at *
          generalize w9.heap.size = X5 at *
          refine (impl_BookOk B1 R1 e1 B2 R2 e2 Y1 Y2 w10 (Lst.of_own TN.one) (Lst.of_own TN.two) (by omega) (by omega)).mono ?_
          rw [HBK.out]
          rintro e w11 ⟨rfl, hb11⟩
          replace D := D.trans (hb11.mono D.size)
          replace TB := TB.below hb11
          replace kB := (hb11.block _ (heap_lt kB)).trans kB
          replace kO := (hb11.block _ (heap_lt kO)).trans kO
          replace TN := TN.below hb11
          replace kN := (hb11.block _ (heap_lt kN)).trans kN
          replace TL := own_below TL hb11
          replace TK := TK.below hb11
          replace kK := (hb11.block _ (heap_lt kK)).trans kK
          clear hb11
          obtain ⟨p0, p1⟩ := cell2 kK
          obtain ⟨r0, r1⟩ := cell2 kB
          go_wp2_with fail
          refine (sameBook_same _ _ _ _ n m _ _ _ _ za zb w11 TK.bookIn TB.bookIn (by omega) (by omega)).mono ?_
          rintro e w12 ⟨rfl, hb12⟩
          go_wp2_with fail
          go_ret
          exact ⟨by first | rfl | simp, D.trans (hb12.mono D.size)⟩
        · have hp2 : ¬ (p : Int) + 1 < (K : Int) := by omega
          go_region
          clear c0 c1 c2 c3 hne2 hpe hp2 o1 o2 o3
          have hdr : Below wr.heap.size wr wr.drew.drew := ((Below.refl _ _).drew).drew
          replace D := D.trans (hdr.mono D.size)
          replace TB := TB.below hdr
          replace kB := (hdr.block _ (heap_lt kB)).trans kB
          replace kO := (hdr.block _ (heap_lt kO)).trans kO
          replace TN := TN.below hdr
          replace kN := (hdr.block _ (heap_lt kN)).trans kN
          replace TL := own_below TL hdr
          obtain ⟨o0, o1, o2, o3, -⟩ := ord_cell kO
          clear hdr hbr
          generalize wr.drew.drew = wz at *
          obtain ⟨p0, p1⟩ := cell2 kN
          go_wp2_with fail
          clear p0 p1 o0 o1 o2 o3
          refine (impl_Taken B1 R1 e1 B2 R2 e2 Y1 Y2 oi wz (Lst.of_own TN.one) (Lst.of_own TN.two) (by omega) (by omega)).mono ?_
          rintro e w9 ⟨⟨s', f', ok', t1, t2, hrel', rfl, ho1, ho2, hne⟩, hb9⟩
          rw [HBK.out] at hrel'
          obtain rfl := HF.out _ _ _ hrel'
          simp only [if_true] at ho1 ho2
          rw [HT1.out, HM1.out] at ho1
          rw [HT2.out, HM2.out] at ho2
          have TK := TwoRows.mk ho1 ho2 hne
          obtain ⟨F1, h1, F2, h2, rfl, rfl⟩ := TK.slices
          replace D := D.trans (hb9.mono D.size)
          replace TB := TB.below hb9
          replace kB := (hb9.block _ (heap_lt kB)).trans kB
          replace kO := (hb9.block _ (heap_lt kO)).trans kO
          replace TN := TN.below hb9
          replace kN := (hb9.block _ (heap_lt kN)).trans kN
          replace TL := own_below TL hb9
          clear hb9 hrel' ho1 ho2 hne
          have kK := heap_alloc_new w9 (.cells #[.slice F1 n h1, .slice F2 m h2] 26)
          have hba : Below w9.heap.size w9 (w9.alloc (.cells #[.slice F1 n h1, .slice F2 m h2] 26)) := (Below.refl _ _).alloc (Nat.le_refl _) _
          replace D := D.trans (hba.mono D.size)
          replace TB := TB.below hba
          replace kB := (hba.block _ (heap_lt kB)).trans kB
          replace kO := (hba.block _ (heap_lt kO)).trans kO
          replace TN := TN.below hba
          replace kN := (hba.block _ (heap_lt kN)).trans kN
          replace TL := own_below TL hba
          replace TK := TK.below hba
          clear hba
          obtain ⟨p0, p1⟩ := cell2 kN
          go_wp2_with fail
          clear p0 p1
          generalize w9.alloc (.cells #[.slice F1 n h1, .slice F2 m h2] 26) = w10 at *
          generalize w9.heap.size = X5 at *
          refine (impl_BookOk B1 R1 e1 B2 R2 e2 Y1 Y2 w10 (Lst.of_own TN.one) (Lst.of_own TN.two) (by omega) (by omega)).mono ?_
          rw [HBK.out]
          rintro e w11 ⟨rfl, hb11⟩
          replace D := D.trans (hb11.mono D.size)
          replace TB := TB.below hb11
          replace kB := (hb11.block _ (heap_lt kB)).trans kB
          replace kO := (hb11.block _ (heap_lt kO)).trans kO
          replace TN := TN.below hb11
          replace kN := (hb11.block _ (heap_lt kN)).trans kN
          replace TL := own_below TL hb11
          replace TK := TK.below hb11
          replace kK := (hb11.block _ (heap_lt kK)).trans kK
          clear hb11
          obtain ⟨p0, p1⟩ := cell2 kK
          obtain ⟨r0, r1⟩ := cell2 kB
          go_wp2_with fail
          refine (sameBook_same _ _ _ _ n m _ _ _ _ za zb w11 TK.bookIn TB.bookIn (by omega) (by omega)).mono ?_
          rintro e w12 ⟨rfl, hb12⟩
          go_wp2_with fail
          go_ret
          exact ⟨by first | rfl | simp, D.trans (hb12.mono D.size)⟩
end Go.Proofs.Ytnldfbcelakimaa
