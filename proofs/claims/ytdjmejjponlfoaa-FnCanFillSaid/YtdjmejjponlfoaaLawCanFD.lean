/-
  The drawn law of CanFill.
-/
import Derived.Test.YtdjmejjponlfoaaGD
import Derived.Test.YtdjmejjponlfoaaGU
import Derived.Test.YtdjmejjponlfoaaGF
import Derived.Test.YtdjmejjponlfoaaLawInts
import Derived.Test.YtdjmejjponlfoaaLawCell
namespace Go.Proofs.Ytdjmejjponlfoaa
open Go.RowKit Wire

theorem m_len {za zb : List Int} {n m : Nat} {rg : Bool} {side oi oa op oq mode : Int} (ha : za.length = n * 4) (hb : zb.length = m * 4) (h : rgB za n zb m side oi oa op oq mode = rg) (hn : n ≤ 20) (hm : m ≤ 20) :
    (mZ1 rg side oi oa op oq mode za zb).length / 4 ≤ 20 ∧ (mZ2 rg side oi oa op oq mode za zb).length / 4 ≤ 20 ∧ (mRR rg side oi oa op oq mode za zb).length / 8 ≤ 41 := by
  cases rg
  · simp [mZ1, mZ2, mRR]
  · have R := rg_oth h ha hb
    obtain ⟨M, N, e1, e2, e3, e4⟩ := mtS_len (side := side) (id := oi) (acct := oa) (pr := op) (mode := mode) (othN side n m) (Z := othZ side za zb) (R := []) (q := oq) 0 R.len rfl
    have hle := R.le
    unfold mZ1 mZ2 mRR mtA
    rw [if_pos rfl, if_pos rfl, if_pos rfl]
    unfold othZ at e1 e3
    rw [e3]
    refine ⟨?_, ?_, by omega⟩ <;> split <;> first | omega | (rw [e1]; omega) | simp_all <;> omega
theorem can_half {za zb : List Int} {n m : Nat} {s oi oa op oq md : Int} (ha : za.length = n * 4) (hb : zb.length = m * 4) (h : canB (rgB za n zb m s oi oa op oq md) s oi oa op oq md za zb = true) :
    canB (rgB za n zb m s oi oa op ((oq + 1) / 2) md) s oi oa op ((oq + 1) / 2) md za zb = true := by
  unfold canB at h ⊢
  rw [Bool.and_eq_true, beq_iff_eq] at h ⊢
  obtain ⟨hr, hs⟩ := h
  obtain ⟨h1, h2, h3, h4, h5, -, -, -, -, hq1, hq2⟩ := rg_parts hr
  have hr2 : rgB za n zb m s oi oa op ((oq + 1) / 2) md = true := by
    unfold rgB
    unfold incB at h3 ⊢
    simp only [Bool.and_eq_true] at h3 ⊢
    refine ⟨h1, h2, ⟨h3.1, h3.2.1, h3.2.2.1, ?_⟩, h4, by rw [h5]; rfl⟩
    simp only [inB, Bool.and_eq_true, decide_eq_true_eq]
    omega
  refine ⟨hr2, ?_⟩
  have R := rg_oth hr ha hb
  have e : ∀ q, mRR true s oi oa op q md za zb = (mtS s oi oa op md (othZ s za zb) [] q).2.1 := fun q => by unfold mRR mtA othZ; rw [if_pos rfl]
  rw [e] at hs ⊢
  have := mt_less (othN s n m) (Z := othZ s za zb) (R := []) (R2 := []) (q := oq) (q2 := (oq + 1) / 2) 0 0 R.len rfl rfl R.qty R.no (by omega) (by omega) (by rw [hs]; simp [sumTo])
  rw [this]
  simp [sumTo]
set_option linter.unusedSimpArgs false in
set_option linter.unusedVariables false in
set_option maxHeartbeats 6400000 in
set_option maxRecDepth 100000 in
theorem DrawCanFill_any (A : Option Addr) (len cap : Nat) (w : World) (hs : Src w w.heap.size A len) (hl : len ≤ 9223372036854775807) :
    Calls Try.prog 22 #[.slice A len cap] w fun e w' => ∃ v1 n1 z1 v2 n2 z2 s oi oa op oq md, e = .returned (.tuple #[.agg #[v1, v2], .int .i64 s, .agg #[.int .i64 oi, .int .i64 oa, .int .i64 op, .int .i64 oq], .int .i64 md]) ∧ n1 ≤ 20 ∧ n2 ≤ 20 ∧ TwoRows w' w.heap.size v1 n1 z1 v2 n2 z2 ∧ Below w.heap.size w w' := by
  obtain ⟨b0, b1⟩ := two_blocks w (.cells #[.slice none 0 0, .slice none 0 0] 26) (.cells #[.int .i64 0, .int .i64 0, .int .i64 0, .int .i64 0] 28)
  have hbw : Below w.heap.size w ((w.alloc (.cells #[.slice none 0 0, .slice none 0 0] 26)).alloc (.cells #[.int .i64 0, .int .i64 0, .int .i64 0, .int .i64 0] 28)) := ((Below.refl _ _).alloc (Nat.le_refl _) _).alloc (by simp) _
  have hsw : ((w.alloc (.cells #[.slice none 0 0, .slice none 0 0] 26)).alloc (.cells #[.int .i64 0, .int .i64 0, .int .i64 0, .int .i64 0] 28)).heap.size = w.heap.size + 2 := by simp
  have hs' : Src ((w.alloc (.cells #[.slice none 0 0, .slice none 0 0] 26)).alloc (.cells #[.int .i64 0, .int .i64 0, .int .i64 0, .int .i64 0] 28)) ((w.alloc (.cells #[.slice none 0 0, .slice none 0 0] 26)).alloc (.cells #[.int .i64 0, .int .i64 0, .int .i64 0, .int .i64 0] 28)).heap.size A len := fun i hi => by
    obtain ⟨b, o, n, h1, h2, h3, h4, h5⟩ := hs i hi
    exact ⟨b, o, n, h1, by omega, h3, h4, (hbw.cell (p := ⟨b, o + i, none⟩) h2).trans h5⟩
  go_enter Try.func22, Try.ntmps22
  go_wp2_with fail
  generalize ((w.alloc (.cells #[.slice none 0 0, .slice none 0 0] 26)).alloc (.cells #[.int .i64 0, .int .i64 0, .int .i64 0, .int .i64 0] 28)) = ww at *
  refine (DrawMatched_any A len cap ww hs' hl).mono ?_
  rintro e w2 ⟨v1, n1, z1, v2, n2, z2, s, oi, oa, op, oq, md, rfl, hn1, hn2, TR, hb2⟩
  obtain ⟨A1, c1, A2, c2, rfl, rfl⟩ := TR.slices
  have r2 := (hb2.block w.heap.size (by omega)).trans b0
  have o2 := (hb2.block (w.heap.size + 1) (by omega)).trans b1
  have hB2 := hbw.trans (hb2.mono hbw.size)
  have hsz : w.heap.size + 2 ≤ ww.heap.size := by omega
  clear b0 b1 hbw hsw hs'
  obtain ⟨b0, b1⟩ := cell2 r2
  have f0 := mfree r2 0
  have f1 := mfree r2 1
  have o3 := mset2_other (u := (.slice A1 n1 c1)) (v := (.slice A2 n2 c2)) (S := w.heap.size) o2 (by omega)
  obtain ⟨y0, y1, y2, y3, g0, g1, g2, g3⟩ := ord_cell o2
  have HG := Lib.hid (mset2 (u := (.slice A1 n1 c1)) (v := (.slice A2 n2 c2)) r2)
  have HO := Lib.hid (ord_put (u0 := .int .i64 oi) (u1 := .int .i64 oa) (u2 := .int .i64 op) (u3 := .int .i64 oq) o3)
  have HT := Lib.hid (((((TR.kept (set_grown w2 w.heap.size 0 (.slice A1 n1 c1)) (by omega)).kept (set_grown _ w.heap.size 1 (.slice A2 n2 c2)) (by omega)).kept (set_grown _ (w.heap.size + 1) 0 (.int .i64 oi)) (by omega)).kept (set_grown _ (w.heap.size + 1) 1 (.int .i64 oa)) (by omega)).kept (set_grown _ (w.heap.size + 1) 2 (.int .i64 op)) (by omega) |>.kept (set_grown _ (w.heap.size + 1) 3 (.int .i64 oq)) (by omega))
  have HB := Lib.hid ((((((hB2.setCell (p := ⟨w.heap.size, 0, none⟩) (Nat.le_refl _) (.slice A1 n1 c1)).setCell (p := ⟨w.heap.size, 1, none⟩) (Nat.le_refl _) (.slice A2 n2 c2)).setCell (p := ⟨w.heap.size + 1, 0, none⟩) (show w.heap.size ≤ w.heap.size + 1 by omega) (.int .i64 oi)).setCell (p := ⟨w.heap.size + 1, 1, none⟩) (show w.heap.size ≤ w.heap.size + 1 by omega) (.int .i64 oa)).setCell (p := ⟨w.heap.size + 1, 2, none⟩) (show w.heap.size ≤ w.heap.size + 1 by omega) (.int .i64 op)).setCell (p := ⟨w.heap.size + 1, 3, none⟩) (show w.heap.size ≤ w.heap.size + 1 by omega) (.int .i64 oq))
  have HG2 := Lib.hid (ord_put_other (u0 := .int .i64 oi) (u1 := .int .i64 oa) (u2 := .int .i64 op) (u3 := .int .i64 oq) (S := w.heap.size + 1) HG.out (by omega))
  clear o3 hB2
  go_wp2_with fail
  obtain ⟨e0, e1⟩ := cell2 HG2.out
  obtain ⟨e2, e3, e4, e5, -⟩ := ord_cell HO.out
  exact bodyPost_ret (v := .tuple #[.agg #[(.slice A1 n1 c1), (.slice A2 n2 c2)], .int .i64 s, .agg #[.int .i64 oi, .int .i64 oa, .int .i64 op, .int .i64 oq], .int .i64 md]) (by simp [results, Try.results22, go_sem, e0, e1, e2, e3, e4, e5]) rfl ⟨_, _, _, _, _, _, _, _, _, _, _, _, rfl, hn1, hn2, HT.out.mono (by omega), HB.out⟩
set_option linter.unusedSimpArgs false in
set_option linter.unusedVariables false in
set_option maxHeartbeats 6400000 in
set_option maxRecDepth 100000 in
theorem law_CanFD (A : Option Addr) (len cap : Nat) (ys : List Int) (w : World) (hrow : IsRow .u8 w A len cap ys) :
    Calls Try.prog 8 #[.slice A len cap] w fun e w' => e = .returned (.bool true) ∧ Below w.heap.size w w' := by
  have hs := src_of_row hrow
  have hl := row_len hrow
  clear hrow
  have hsrc : ∀ w', Below w.heap.size w w' → Src w' w'.heap.size A len := fun w' hb i hi => by
    obtain ⟨b, o, n, h1, h2, h3, h4, h5⟩ := hs i hi
    exact ⟨b, o, n, h1, Nat.lt_of_lt_of_le h2 hb.size, h3, h4, (hb.cell (p := ⟨b, o + i, none⟩) h2).trans h5⟩
  by_cases hbig : 1048576 < len
  · go_enter Try.func8, Try.ntmps8
    go_wp2_with (go_at_call 9; go_in)
    go_ret
    exact ⟨rfl, Below.refl _ _⟩
  go_enter Try.func8, Try.ntmps8
  go_wp2_with (go_at_call 9; go_in)
  refine (DrawCanFill_any A len cap _ hs hl).mono ?_
  rintro e w1 ⟨v1, n, za, v2, m, zb, s, oi, oa, op, oq, md, rfl, hn, hm, TB, D⟩
  obtain ⟨A1, c, A2, d, rfl, rfl⟩ := TB.slices
  have hlA : za.length = n * 4 := by have := TB.one.1; rwa [nums_length] at this
  have hlB : zb.length = m * 4 := by have := TB.two.1; rwa [nums_length] at this
  obtain ⟨kB, kO⟩ := two_blocks w1 (.cells #[.slice A1 n c, .slice A2 m d] 26) (.cells #[.int .i64 oi, .int .i64 oa, .int .i64 op, .int .i64 oq] 28)
  have hba : Below w1.heap.size w1 ((w1.alloc (.cells #[.slice A1 n c, .slice A2 m d] 26)).alloc (.cells #[.int .i64 oi, .int .i64 oa, .int .i64 op, .int .i64 oq] 28)) := ((Below.refl _ _).alloc (Nat.le_refl _) _).alloc (by simp) _
  replace D := D.trans (hba.mono D.size)
  replace TB := TB.below hba
  clear hba
  obtain ⟨p0, p1⟩ := cell2 kB
  obtain ⟨o0, o1, o2, o3, -⟩ := ord_cell kO
  go_wp2_with fail
  clear p0 p1 o0 o1 o2 o3
  generalize ((w1.alloc (.cells #[.slice A1 n c, .slice A2 m d] 26)).alloc (.cells #[.int .i64 oi, .int .i64 oa, .int .i64 op, .int .i64 oq] 28)) = w2 at *
  generalize w1.heap.size = X1 at *
  have HCF1 := Lib.hid (impl_CanFill A1 n c A2 m d za zb s oi oa op oq md w2 (Lst.of_own TB.one) (Lst.of_own TB.two) (by omega) (by omega))
  obtain ⟨cf, hcf⟩ : ∃ x, canB (rgB za n zb m s oi oa op oq md) s oi oa op oq md za zb = x := ⟨_, rfl⟩
  have HCF := Lib.hid hcf
  clear hcf
  refine (HCF1.out).mono ?_
  rw [HCF.out]
  rintro e w3 ⟨rfl, hb3⟩
  replace D := D.trans (hb3.mono D.size)
  replace TB := TB.below hb3
  replace kB := (hb3.block _ (heap_lt kB)).trans kB
  replace kO := (hb3.block _ (heap_lt kO)).trans kO
  clear hb3 HCF1
  obtain ⟨p0, p1⟩ := cell2 kB
  obtain ⟨o0, o1, o2, o3, -⟩ := ord_cell kO
  go_wp2_with fail
  clear p0 p1 o0 o1 o2 o3
  refine (spec_CanFill A1 n c A2 m d za zb s oi oa op oq md w3 (Lst.of_own TB.one) (Lst.of_own TB.two) (by omega) (by omega) (own_nil TB.one) (own_nil TB.two)).mono ?_
  rw [HCF.out]
  rintro e w4 ⟨rfl, hb4⟩
  replace D := D.trans (hb4.mono D.size)
  replace TB := TB.below hb4
  replace kB := (hb4.block _ (heap_lt kB)).trans kB
  replace kO := (hb4.block _ (heap_lt kO)).trans kO
  clear hb4
  have hcc : (cf != cf) = false := by simp
  obtain ⟨p0, p1⟩ := cell2 kB
  obtain ⟨o0, o1, o2, o3, -⟩ := ord_cell kO
  go_wp2_with fail
  clear p0 p1 o0 o1 o2 o3
  obtain ⟨rg, hrg⟩ : ∃ x, rgB za n zb m s oi oa op oq md = x := ⟨_, rfl⟩
  have HRG := Lib.hid hrg
  have hLN := m_len hlA hlB hrg hn hm
  obtain ⟨Y1, hsY1⟩ : ∃ x, mZ1 rg s oi oa op oq md za zb = x := ⟨_, rfl⟩
  obtain ⟨Y2, hsY2⟩ : ∃ x, mZ2 rg s oi oa op oq md za zb = x := ⟨_, rfl⟩
  obtain ⟨RR, hsRR⟩ : ∃ x, mRR rg s oi oa op oq md za zb = x := ⟨_, rfl⟩
  obtain ⟨lf, hslf⟩ : ∃ x, mLL rg s oi oa op oq md za zb = x := ⟨_, rfl⟩
  rw [hsY1, hsY2, hsRR] at hLN
  obtain ⟨N1, hsN1⟩ : ∃ x, Y1.length / 4 = x := ⟨_, rfl⟩
  obtain ⟨N2, hsN2⟩ : ∃ x, Y2.length / 4 = x := ⟨_, rfl⟩
  obtain ⟨N3, hsN3⟩ : ∃ x, RR.length / 8 = x := ⟨_, rfl⟩
  rw [hsN1, hsN2, hsN3] at hLN
  obtain ⟨hN1, hN2, hN3⟩ := hLN
  have HY1 := Lib.hid hsY1
  have HY2 := Lib.hid hsY2
  have HRR := Lib.hid hsRR
  have Hlf := Lib.hid hslf
  have HN1 := Lib.hid hsN1
  have HN2 := Lib.hid hsN2
  have HN3 := Lib.hid hsN3
  have hcon := (impl_Matched A1 n c A2 m d za zb s oi oa op oq md w4 (Lst.of_own TB.one) (Lst.of_own TB.two) (by omega) (by omega)).mono (fun e w' h => (⟨mans_len h.1, h.2⟩ : _ ∧ _))
  rw [hrg, hsY1, hsY2, hsRR, hslf, hsN1, hsN2, hsN3] at hcon
  refine hcon.mono ?_
  clear hcon
  rintro e w5 ⟨⟨t1, t2, t3, rfl, TI, RI⟩, hbm⟩
  obtain ⟨BI, bI, CI, cI, rfl, rfl⟩ := TI.slices
  obtain ⟨EI, eI, rfl, _, _⟩ := own_slice RI
  replace D := D.trans (hbm.mono D.size)
  replace TB := TB.below hbm
  replace kB := (hbm.block _ (heap_lt kB)).trans kB
  replace kO := (hbm.block _ (heap_lt kO)).trans kO
  clear hbm
  clear hsY1 hsY2 hsRR hslf hsN1 hsN2 hsN3 hrg
  have hba : Below w5.heap.size w5 (w5.alloc (.cells #[.slice BI N1 bI, .slice CI N2 cI] 26)) := (Below.refl _ _).alloc (Nat.le_refl _) _
  replace D := D.trans (hba.mono D.size)
  replace TB := TB.below hba
  replace kB := (hba.block _ (heap_lt kB)).trans kB
  replace kO := (hba.block _ (heap_lt kO)).trans kO
  replace RI := own_below RI hba
  clear hba TI
  go_upto_region 8 with fail
  generalize w5.alloc (.cells #[.slice BI N1 bI, .slice CI N2 cI] 26) = w6 at *
  obtain ⟨o0, o1, o2, o3, -⟩ := ord_cell kO
  have hlO := heap_lt kO
  cases rg
  · have hcf0 : cf = false := by rw [← HCF.out, HRG.out]; rfl
    subst hcf0
    have hlf0 : True := trivial
    refine wp_region_held_drew (S := (fun w' => Below w6.heap.size w6 w')) (by kernel_rfl) ?hSm1 (fun hHeld => ?restm1)
    case hSm1 => exact (Below.refl _ _).drew
    refine wpAnyH_take (i := 0) (oi := ?oim2) (v := ?vm2) ?him2 (by kernel_rfl) (by kernel_rfl) (by kernel_rfl) ?hQm2 (Or.inl ⟨?hwm2, ?hym2⟩) (by assumption) ?restm2
    case him2 => simp only [List.getElem?_toArray, List.getElem?_cons_succ, List.getElem?_cons_zero]; exact rfl
    case hQm2 => exact fun _ _ _ h => h
    case hwm2 => rfl
    case hym2 => ((intro w hSw; (try dsimp only at hSw); go_simp) <;> with_reducible rfl)
    try simp only [Act.put, List.setIfInBounds_toArray, List.set_cons_zero, List.set_cons_succ]
    refine wpAnyH_take (i := 1) (oi := ?oim3) (v := ?vm3) ?him3 (by kernel_rfl) (by kernel_rfl) (by kernel_rfl) ?hQm3 (Or.inl ⟨?hwm3, ?hym3⟩) (by assumption) ?restm3
    case him3 => simp only [List.getElem?_toArray, List.getElem?_cons_succ, List.getElem?_cons_zero]; exact rfl
    case hQm3 => exact fun _ _ _ h => h
    case hwm3 => rfl
    case hym3 => ((intro w hSw; (try dsimp only at hSw); go_simp) <;> with_reducible rfl)
    try simp only [Act.put, List.setIfInBounds_toArray, List.set_cons_zero, List.set_cons_succ]
    refine wpAnyH_take (i := 2) (oi := ?oim4) (v := ?vm4) ?him4 (by kernel_rfl) (by kernel_rfl) (by kernel_rfl) ?hQm4 (Or.inl ⟨?hwm4, ?hym4⟩) (by assumption) ?restm4
    case him4 => simp only [List.getElem?_toArray, List.getElem?_cons_succ, List.getElem?_cons_zero]; exact rfl
    case hQm4 => exact fun _ _ _ h => h
    case hwm4 => rfl
    case hym4 => ((intro w hSw; (try dsimp only at hSw); go_simp) <;> with_reducible rfl)
    try simp only [Act.put, List.setIfInBounds_toArray, List.set_cons_zero, List.set_cons_succ]
    refine wpAnyH_take (i := 3) (oi := ?oim5) (v := _) ?him5 (by kernel_rfl) (by kernel_rfl) (by kernel_rfl) ?hQm5 (Or.inr ⟨?hwm5, rfl⟩) (by assumption) ?restm5
    case him5 => simp only [List.getElem?_toArray, List.getElem?_cons_succ, List.getElem?_cons_zero]; exact rfl
    case hQm5 => exact fun _ _ _ h => h
    case hwm5 => rfl
    try simp only [Act.put, List.setIfInBounds_toArray, List.set_cons_zero, List.set_cons_succ]
    refine wpAnyH_take (i := 4) (oi := ?oim6) (v := _) ?him6 (by kernel_rfl) (by kernel_rfl) (by kernel_rfl) ?hQm6 (Or.inr ⟨?hwm6, rfl⟩) (by assumption) ?restm6
    case him6 => simp only [List.getElem?_toArray, List.getElem?_cons_succ, List.getElem?_cons_zero]; exact rfl
    case hQm6 => exact fun _ _ _ h => h
    case hwm6 => rfl
    try simp only [Act.put, List.setIfInBounds_toArray, List.set_cons_zero, List.set_cons_succ]
    refine wpAnyH_take (i := 5) (oi := ?oim7) (v := ?vm7) ?him7 (by kernel_rfl) (by kernel_rfl) (by kernel_rfl) ?hQm7 (Or.inl ⟨?hwm7, ?hym7⟩) (by assumption) ?restm7
    case him7 => simp only [List.getElem?_toArray, List.getElem?_cons_succ, List.getElem?_cons_zero]; exact rfl
    case hQm7 => exact fun _ _ _ h => h
    case hwm7 => rfl
    case hym7 => ((intro w hSw; (try dsimp only at hSw); go_simp) <;> with_reducible rfl)
    try simp only [Act.put, List.setIfInBounds_toArray, List.set_cons_zero, List.set_cons_succ]
    refine wpAnyH_take (i := 6) (oi := ?oim8) (v := ?vm8) ?him8 (by kernel_rfl) (by kernel_rfl) (by kernel_rfl) ?hQm8 (Or.inl ⟨?hwm8, ?hym8⟩) (by assumption) ?restm8
    case him8 => simp only [List.getElem?_toArray, List.getElem?_cons_succ, List.getElem?_cons_zero]; exact rfl
    case hQm8 => exact fun _ _ _ h => h
    case hwm8 => rfl
    case hym8 => ((intro w hSw; (try dsimp only at hSw); go_simp) <;> with_reducible rfl)
    try simp only [Act.put, List.setIfInBounds_toArray, List.set_cons_zero, List.set_cons_succ]
    refine wpAnyH_take (i := 7) (oi := ?oim9) (v := _) ?him9 (by kernel_rfl) (by kernel_rfl) (by kernel_rfl) ?hQm9 (Or.inr ⟨?hwm9, rfl⟩) (by assumption) ?restm9
    case him9 => simp only [List.getElem?_toArray, List.getElem?_cons_succ, List.getElem?_cons_zero]; exact rfl
    case hQm9 => exact fun _ _ _ h => h
    case hwm9 => rfl
    try simp only [Act.put, List.setIfInBounds_toArray, List.set_cons_zero, List.set_cons_succ]
    refine wpAnyH_take (i := 8) (oi := ?oim10) (v := _) ?him10 (by kernel_rfl) (by kernel_rfl) (by kernel_rfl) ?hQm10 (Or.inr ⟨?hwm10, rfl⟩) (by assumption) ?restm10
    case him10 => simp only [List.getElem?_toArray, List.getElem?_cons_succ, List.getElem?_cons_zero]; exact rfl
    case hQm10 => exact fun _ _ _ h => h
    case hwm10 => rfl
    try simp only [Act.put, List.setIfInBounds_toArray, List.set_cons_zero, List.set_cons_succ]
    refine wpAnyH_take (i := 9) (oi := ?oim11) (v := _) ?him11 (by kernel_rfl) (by kernel_rfl) (by kernel_rfl) ?hQm11 (Or.inr ⟨?hwm11, rfl⟩) (by assumption) ?restm11
    case him11 => simp only [List.getElem?_toArray, List.getElem?_cons_succ, List.getElem?_cons_zero]; exact rfl
    case hQm11 => exact fun _ _ _ h => h
    case hwm11 => rfl
    try simp only [Act.put, List.setIfInBounds_toArray, List.set_cons_zero, List.set_cons_succ]
    refine wpAnyH_take (i := 11) (oi := ?oim12) (v := _) ?him12 (by kernel_rfl) (by kernel_rfl) (by kernel_rfl) ?hQm12 (Or.inr ⟨?hwm12, rfl⟩) (by assumption) ?restm12
    case him12 => simp only [List.getElem?_toArray, List.getElem?_cons_succ, List.getElem?_cons_zero]; exact rfl
    case hQm12 => exact fun _ _ _ h => h
    case hwm12 => rfl
    try simp only [Act.put, List.setIfInBounds_toArray, List.set_cons_zero, List.set_cons_succ]
    refine wpAnyH_take (i := 12) (oi := ?oim13) (v := _) ?him13 (by kernel_rfl) (by kernel_rfl) (by kernel_rfl) ?hQm13 (Or.inr ⟨?hwm13, rfl⟩) (by assumption) ?restm13
    case him13 => simp only [List.getElem?_toArray, List.getElem?_cons_succ, List.getElem?_cons_zero]; exact rfl
    case hQm13 => exact fun _ _ _ h => h
    case hwm13 => rfl
    try simp only [Act.put, List.setIfInBounds_toArray, List.set_cons_zero, List.set_cons_succ]
    refine wpAnyH_ready (rs := [10]) (by kernel_rfl) (by simp) ?_
    refine AllReadyH.cons (o := ?or14_10) ?hor14_10 (fun K hK => ?stepr14_10) (AllReadyH.nil)
    case hor14_10 => simp only [List.getElem?_toArray, List.getElem?_cons_succ, List.getElem?_cons_zero]; exact rfl
    case stepr14_10 =>
      go_simp
      refine hK.out _ _ ?hSr14_10 (fun hHeld => ?restr14_10)
      case hSr14_10 => exact hHeld
      clear hK K
      try simp only [Act.put, List.setIfInBounds_toArray, List.set_cons_zero, List.set_cons_succ]
      refine wpAnyH_take (i := 13) (oi := ?oim15) (v := _) ?him15 (by kernel_rfl) (by kernel_rfl) (by kernel_rfl) ?hQm15 (Or.inr ⟨?hwm15, rfl⟩) (by assumption) ?restm15
      case him15 => simp only [List.getElem?_toArray, List.getElem?_cons_succ, List.getElem?_cons_zero]; exact rfl
      case hQm15 => exact fun _ _ _ h => h
      case hwm15 => rfl
      try simp only [Act.put, List.setIfInBounds_toArray, List.set_cons_zero, List.set_cons_succ]
      refine wpAnyH_take (i := 14) (oi := ?oim16) (v := ?vm16) ?him16 (by kernel_rfl) (by kernel_rfl) (by kernel_rfl) ?hQm16 (Or.inl ⟨?hwm16, ?hym16⟩) (by assumption) ?restm16
      case him16 => simp only [List.getElem?_toArray, List.getElem?_cons_succ, List.getElem?_cons_zero]; exact rfl
      case hQm16 => exact fun _ _ _ h => h
      case hwm16 => rfl
      case hym16 => ((intro w hSw; (try dsimp only at hSw); go_simp) <;> with_reducible rfl)
      try simp only [Act.put, List.setIfInBounds_toArray, List.set_cons_zero, List.set_cons_succ]
      refine wpAnyH_take (i := 15) (oi := ?oim17) (v := ?vm17) ?him17 (by kernel_rfl) (by kernel_rfl) (by kernel_rfl) ?hQm17 (Or.inl ⟨?hwm17, ?hym17⟩) (by assumption) ?restm17
      case him17 => simp only [List.getElem?_toArray, List.getElem?_cons_succ, List.getElem?_cons_zero]; exact rfl
      case hQm17 => exact fun _ _ _ h => h
      case hwm17 => rfl
      case hym17 => ((intro w hSw; (try dsimp only at hSw); go_simp) <;> with_reducible rfl)
      try simp only [Act.put, List.setIfInBounds_toArray, List.set_cons_zero, List.set_cons_succ]
      refine wpAnyH_done (by kernel_rfl) ?_ _
      have hBz : Below w6.heap.size w6 w6.drew := hHeld
      replace D := D.trans (hBz.mono D.size)
      replace TB := TB.below hBz
      replace kB := (hBz.block _ (heap_lt kB)).trans kB
      replace kO := (hBz.block _ (heap_lt kO)).trans kO
      replace RI := own_below RI hBz
      clear hHeld hBz o0 o1 o2 o3 hlO
      generalize w6.drew = wz at *
      obtain ⟨o0, o1, o2, o3, -⟩ := ord_cell kO
      have kH := heap_alloc_new wz (.cells #[.int .i64 oi, .int .i64 oa, .int .i64 op, .int .i64 oq] 28)
      have hba : Below wz.heap.size wz (wz.alloc (.cells #[.int .i64 oi, .int .i64 oa, .int .i64 op, .int .i64 oq] 28)) := (Below.refl _ _).alloc (Nat.le_refl _) _
      have hX7 : w.heap.size ≤ wz.heap.size := D.size
      have hX8 : X1 + 1 < wz.heap.size := heap_lt kO
      have hX9 : X1 < wz.heap.size := heap_lt kB
      replace D := D.trans (hba.mono D.size)
      replace TB := TB.below hba
      replace kB := (hba.block _ (heap_lt kB)).trans kB
      replace kO := (hba.block _ (heap_lt kO)).trans kO
      replace RI := own_below RI hba
      clear hba
      go_upto_region 11 with fail
      clear o0 o1 o2 o3
      generalize wz.alloc (.cells #[.int .i64 oi, .int .i64 oa, .int .i64 op, .int .i64 oq] 28) = wy at *
      skip
      generalize wz.heap.size = X7 at *
      obtain ⟨o0, o1, o2, o3, -⟩ := ord_cell kO
      obtain ⟨y0, y1, y2, y3, f0, f1, f2, f3⟩ := ord_cell kH
      go_wp2_with fail
      go_ret
      exact ⟨by first | rfl | simp, D.setCell (p := ⟨X7, 3, none⟩) hX7 _⟩
  · have hsum := rg_sum HRG.out hlA hlB
    rw [HRR.out, HN3.out, Hlf.out] at hsum
    have hq6 := (rg_parts HRG.out).2.2.2.2.2.2.2.2.2
    have hcb : (sumTo RR oi N3 == oq) = cf := by rw [← HCF.out, HRG.out]; unfold canB; rw [HRR.out, HN3.out]; rfl
    obtain ⟨hok, hsm, hk0, hl0⟩ := hsum
    have HF := Lib.hid (filledI_yes (id := oi) hok)
    clear hok
    generalize sumTo RR oi N3 = fs at *
    generalize kindTo RR 4 oi N3 = ks at *
    by_cases hz : lf = 0
    rotate_left
    · have hcf0 : cf = false := by rw [← hcb]; exact beq_eq_false_iff_ne.2 (by omega)
      subst hcf0
      have hz2 : (lf == 0) = false := beq_eq_false_iff_ne.2 hz
      clear hcb hsm hk0
      refine wp_region_held_drew (S := (fun w' => Below w6.heap.size w6 w')) (by kernel_rfl) ?hSm18 (fun hHeld => ?restm18)
      case hSm18 => exact (Below.refl _ _).drew
      refine wpAnyH_take (i := 0) (oi := ?oim19) (v := ?vm19) ?him19 (by kernel_rfl) (by kernel_rfl) (by kernel_rfl) ?hQm19 (Or.inl ⟨?hwm19, ?hym19⟩) (by assumption) ?restm19
      case him19 => simp only [List.getElem?_toArray, List.getElem?_cons_succ, List.getElem?_cons_zero]; exact rfl
      case hQm19 => exact fun _ _ _ h => h
      case hwm19 => rfl
      case hym19 => ((intro w hSw; (try dsimp only at hSw); go_simp) <;> with_reducible rfl)
      try simp only [Act.put, List.setIfInBounds_toArray, List.set_cons_zero, List.set_cons_succ]
      refine wpAnyH_take (i := 1) (oi := ?oim20) (v := ?vm20) ?him20 (by kernel_rfl) (by kernel_rfl) (by kernel_rfl) ?hQm20 (Or.inl ⟨?hwm20, ?hym20⟩) (by assumption) ?restm20
      case him20 => simp only [List.getElem?_toArray, List.getElem?_cons_succ, List.getElem?_cons_zero]; exact rfl
      case hQm20 => exact fun _ _ _ h => h
      case hwm20 => rfl
      case hym20 => ((intro w hSw; (try dsimp only at hSw); go_simp) <;> with_reducible rfl)
      try simp only [Act.put, List.setIfInBounds_toArray, List.set_cons_zero, List.set_cons_succ]
      refine wpAnyH_take (i := 2) (oi := ?oim21) (v := ?vm21) ?him21 (by kernel_rfl) (by kernel_rfl) (by kernel_rfl) ?hQm21 (Or.inl ⟨?hwm21, ?hym21⟩) (by assumption) ?restm21
      case him21 => simp only [List.getElem?_toArray, List.getElem?_cons_succ, List.getElem?_cons_zero]; exact rfl
      case hQm21 => exact fun _ _ _ h => h
      case hwm21 => rfl
      case hym21 => ((intro w hSw; (try dsimp only at hSw); go_simp) <;> with_reducible rfl)
      try simp only [Act.put, List.setIfInBounds_toArray, List.set_cons_zero, List.set_cons_succ]
      refine wpAnyH_take (i := 3) (oi := ?oim22) (v := ?vm22) ?him22 (by kernel_rfl) (by kernel_rfl) (by kernel_rfl) ?hQm22 (Or.inl ⟨?hwm22, ?hym22⟩) (by assumption) ?restm22
      case him22 => simp only [List.getElem?_toArray, List.getElem?_cons_succ, List.getElem?_cons_zero]; exact rfl
      case hQm22 => exact fun _ _ _ h => h
      case hwm22 => rfl
      case hym22 => ((intro w hSw; (try dsimp only at hSw); go_simp) <;> with_reducible rfl)
      try simp only [Act.put, List.setIfInBounds_toArray, List.set_cons_zero, List.set_cons_succ]
      refine wpAnyH_take (i := 4) (oi := ?oim23) (v := ?vm23) ?him23 (by kernel_rfl) (by kernel_rfl) (by kernel_rfl) ?hQm23 (Or.inl ⟨?hwm23, ?hym23⟩) (by assumption) ?restm23
      case him23 => simp only [List.getElem?_toArray, List.getElem?_cons_succ, List.getElem?_cons_zero]; exact rfl
      case hQm23 => exact fun _ _ _ h => h
      case hwm23 => rfl
      case hym23 => ((intro w hSw; (try dsimp only at hSw); go_simp) <;> with_reducible rfl)
      try simp only [Act.put, List.setIfInBounds_toArray, List.set_cons_zero, List.set_cons_succ]
      refine wpAnyH_take (i := 5) (oi := ?oim24) (v := ?vm24) ?him24 (by kernel_rfl) (by kernel_rfl) (by kernel_rfl) ?hQm24 (Or.inl ⟨?hwm24, ?hym24⟩) (by assumption) ?restm24
      case him24 => simp only [List.getElem?_toArray, List.getElem?_cons_succ, List.getElem?_cons_zero]; exact rfl
      case hQm24 => exact fun _ _ _ h => h
      case hwm24 => rfl
      case hym24 => ((intro w hSw; (try dsimp only at hSw); go_simp) <;> with_reducible rfl)
      try simp only [Act.put, List.setIfInBounds_toArray, List.set_cons_zero, List.set_cons_succ]
      refine wpAnyH_take (i := 6) (oi := ?oim25) (v := ?vm25) ?him25 (by kernel_rfl) (by kernel_rfl) (by kernel_rfl) ?hQm25 (Or.inl ⟨?hwm25, ?hym25⟩) (by assumption) ?restm25
      case him25 => simp only [List.getElem?_toArray, List.getElem?_cons_succ, List.getElem?_cons_zero]; exact rfl
      case hQm25 => exact fun _ _ _ h => h
      case hwm25 => rfl
      case hym25 => ((intro w hSw; (try dsimp only at hSw); go_simp) <;> with_reducible rfl)
      try simp only [Act.put, List.setIfInBounds_toArray, List.set_cons_zero, List.set_cons_succ]
      refine wpAnyH_take (i := 7) (oi := ?oim26) (v := _) ?him26 (by kernel_rfl) (by kernel_rfl) (by kernel_rfl) ?hQm26 (Or.inr ⟨?hwm26, rfl⟩) (by assumption) ?restm26
      case him26 => simp only [List.getElem?_toArray, List.getElem?_cons_succ, List.getElem?_cons_zero]; exact rfl
      case hQm26 => exact fun _ _ _ h => h
      case hwm26 => rfl
      try simp only [Act.put, List.setIfInBounds_toArray, List.set_cons_zero, List.set_cons_succ]
      refine wpAnyH_take (i := 8) (oi := ?oim27) (v := _) ?him27 (by kernel_rfl) (by kernel_rfl) (by kernel_rfl) ?hQm27 (Or.inr ⟨?hwm27, rfl⟩) (by assumption) ?restm27
      case him27 => simp only [List.getElem?_toArray, List.getElem?_cons_succ, List.getElem?_cons_zero]; exact rfl
      case hQm27 => exact fun _ _ _ h => h
      case hwm27 => rfl
      try simp only [Act.put, List.setIfInBounds_toArray, List.set_cons_zero, List.set_cons_succ]
      refine wpAnyH_take (i := 9) (oi := ?oim28) (v := _) ?him28 (by kernel_rfl) (by kernel_rfl) (by kernel_rfl) ?hQm28 (Or.inr ⟨?hwm28, rfl⟩) (by assumption) ?restm28
      case him28 => simp only [List.getElem?_toArray, List.getElem?_cons_succ, List.getElem?_cons_zero]; exact rfl
      case hQm28 => exact fun _ _ _ h => h
      case hwm28 => rfl
      try simp only [Act.put, List.setIfInBounds_toArray, List.set_cons_zero, List.set_cons_succ]
      refine wpAnyH_take (i := 11) (oi := ?oim29) (v := _) ?him29 (by kernel_rfl) (by kernel_rfl) (by kernel_rfl) ?hQm29 (Or.inr ⟨?hwm29, rfl⟩) (by assumption) ?restm29
      case him29 => simp only [List.getElem?_toArray, List.getElem?_cons_succ, List.getElem?_cons_zero]; exact rfl
      case hQm29 => exact fun _ _ _ h => h
      case hwm29 => rfl
      try simp only [Act.put, List.setIfInBounds_toArray, List.set_cons_zero, List.set_cons_succ]
      refine wpAnyH_take (i := 12) (oi := ?oim30) (v := _) ?him30 (by kernel_rfl) (by kernel_rfl) (by kernel_rfl) ?hQm30 (Or.inr ⟨?hwm30, rfl⟩) (by assumption) ?restm30
      case him30 => simp only [List.getElem?_toArray, List.getElem?_cons_succ, List.getElem?_cons_zero]; exact rfl
      case hQm30 => exact fun _ _ _ h => h
      case hwm30 => rfl
      try simp only [Act.put, List.setIfInBounds_toArray, List.set_cons_zero, List.set_cons_succ]
      refine wpAnyH_ready (rs := [10]) (by kernel_rfl) (by simp) ?_
      refine AllReadyH.cons (o := ?or31_10) ?hor31_10 (fun K hK => ?stepr31_10) (AllReadyH.nil)
      case hor31_10 => simp only [List.getElem?_toArray, List.getElem?_cons_succ, List.getElem?_cons_zero]; exact rfl
      case stepr31_10 =>
        go_simp
        refine hK.out _ _ ?hSr31_10 (fun hHeld => ?restr31_10)
        case hSr31_10 => exact hHeld
        clear hK K
        try simp only [Act.put, List.setIfInBounds_toArray, List.set_cons_zero, List.set_cons_succ]
        refine wpAnyH_take (i := 13) (oi := ?oim32) (v := _) ?him32 (by kernel_rfl) (by kernel_rfl) (by kernel_rfl) ?hQm32 (Or.inr ⟨?hwm32, rfl⟩) (by assumption) ?restm32
        case him32 => simp only [List.getElem?_toArray, List.getElem?_cons_succ, List.getElem?_cons_zero]; exact rfl
        case hQm32 => exact fun _ _ _ h => h
        case hwm32 => rfl
        try simp only [Act.put, List.setIfInBounds_toArray, List.set_cons_zero, List.set_cons_succ]
        refine wpAnyH_take (i := 14) (oi := ?oim33) (v := ?vm33) ?him33 (by kernel_rfl) (by kernel_rfl) (by kernel_rfl) ?hQm33 (Or.inl ⟨?hwm33, ?hym33⟩) (by assumption) ?restm33
        case him33 => simp only [List.getElem?_toArray, List.getElem?_cons_succ, List.getElem?_cons_zero]; exact rfl
        case hQm33 => exact fun _ _ _ h => h
        case hwm33 => rfl
        case hym33 => ((intro w hSw; (try dsimp only at hSw); go_simp) <;> with_reducible rfl)
        try simp only [Act.put, List.setIfInBounds_toArray, List.set_cons_zero, List.set_cons_succ]
        refine wpAnyH_take (i := 15) (oi := ?oim34) (v := ?vm34) ?him34 (by kernel_rfl) (by kernel_rfl) (by kernel_rfl) ?hQm34 (Or.inl ⟨?hwm34, ?hym34⟩) (by assumption) ?restm34
        case him34 => simp only [List.getElem?_toArray, List.getElem?_cons_succ, List.getElem?_cons_zero]; exact rfl
        case hQm34 => exact fun _ _ _ h => h
        case hwm34 => rfl
        case hym34 => ((intro w hSw; (try dsimp only at hSw); go_simp) <;> with_reducible rfl)
        try simp only [Act.put, List.setIfInBounds_toArray, List.set_cons_zero, List.set_cons_succ]
        refine wpAnyH_done (by kernel_rfl) ?_ _
        have hBz : Below w6.heap.size w6 w6.drew := hHeld
        replace D := D.trans (hBz.mono D.size)
        replace TB := TB.below hBz
        replace kB := (hBz.block _ (heap_lt kB)).trans kB
        replace kO := (hBz.block _ (heap_lt kO)).trans kO
        replace RI := own_below RI hBz
        clear hHeld hBz o0 o1 o2 o3 hlO
        generalize w6.drew = wz at *
        obtain ⟨o0, o1, o2, o3, -⟩ := ord_cell kO
        have kH := heap_alloc_new wz (.cells #[.int .i64 oi, .int .i64 oa, .int .i64 op, .int .i64 oq] 28)
        have hba : Below wz.heap.size wz (wz.alloc (.cells #[.int .i64 oi, .int .i64 oa, .int .i64 op, .int .i64 oq] 28)) := (Below.refl _ _).alloc (Nat.le_refl _) _
        have hX7 : w.heap.size ≤ wz.heap.size := D.size
        have hX8 : X1 + 1 < wz.heap.size := heap_lt kO
        have hX9 : X1 < wz.heap.size := heap_lt kB
        replace D := D.trans (hba.mono D.size)
        replace TB := TB.below hba
        replace kB := (hba.block _ (heap_lt kB)).trans kB
        replace kO := (hba.block _ (heap_lt kO)).trans kO
        replace RI := own_below RI hba
        clear hba
        go_upto_region 11 with fail
        clear o0 o1 o2 o3
        generalize wz.alloc (.cells #[.int .i64 oi, .int .i64 oa, .int .i64 op, .int .i64 oq] 28) = wy at *
        skip
        generalize wz.heap.size = X7 at *
        obtain ⟨o0, o1, o2, o3, -⟩ := ord_cell kO
        obtain ⟨y0, y1, y2, y3, f0, f1, f2, f3⟩ := ord_cell kH
        have hwr : IntKind.i64.wrap (oq + 1) = oq + 1 := by rw [IntKind.wrap_i64]; omega
        have hdv : Int.tdiv (oq + 1) 2 = (oq + 1) / 2 := Int.tdiv_eq_ediv_of_nonneg (by omega)
        have hwr2 : IntKind.i64.wrap ((oq + 1) / 2) = (oq + 1) / 2 := by rw [IntKind.wrap_i64]; omega
        go_wp2_with fail
        go_ret
        exact ⟨by first | rfl | simp, D.setCell (p := ⟨X7, 3, none⟩) hX7 _⟩
    · subst hz
      cases cf
      · clear hsm hk0
        refine wp_region_held_drew (S := (fun w' => Below w6.heap.size w6 w')) (by kernel_rfl) ?hSm35 (fun hHeld => ?restm35)
        case hSm35 => exact (Below.refl _ _).drew
        refine wpAnyH_take (i := 0) (oi := ?oim36) (v := ?vm36) ?him36 (by kernel_rfl) (by kernel_rfl) (by kernel_rfl) ?hQm36 (Or.inl ⟨?hwm36, ?hym36⟩) (by assumption) ?restm36
        case him36 => simp only [List.getElem?_toArray, List.getElem?_cons_succ, List.getElem?_cons_zero]; exact rfl
        case hQm36 => exact fun _ _ _ h => h
        case hwm36 => rfl
        case hym36 => ((intro w hSw; (try dsimp only at hSw); go_simp) <;> with_reducible rfl)
        try simp only [Act.put, List.setIfInBounds_toArray, List.set_cons_zero, List.set_cons_succ]
        refine wpAnyH_take (i := 1) (oi := ?oim37) (v := ?vm37) ?him37 (by kernel_rfl) (by kernel_rfl) (by kernel_rfl) ?hQm37 (Or.inl ⟨?hwm37, ?hym37⟩) (by assumption) ?restm37
        case him37 => simp only [List.getElem?_toArray, List.getElem?_cons_succ, List.getElem?_cons_zero]; exact rfl
        case hQm37 => exact fun _ _ _ h => h
        case hwm37 => rfl
        case hym37 => ((intro w hSw; (try dsimp only at hSw); go_simp) <;> with_reducible rfl)
        try simp only [Act.put, List.setIfInBounds_toArray, List.set_cons_zero, List.set_cons_succ]
        refine wpAnyH_take (i := 2) (oi := ?oim38) (v := ?vm38) ?him38 (by kernel_rfl) (by kernel_rfl) (by kernel_rfl) ?hQm38 (Or.inl ⟨?hwm38, ?hym38⟩) (by assumption) ?restm38
        case him38 => simp only [List.getElem?_toArray, List.getElem?_cons_succ, List.getElem?_cons_zero]; exact rfl
        case hQm38 => exact fun _ _ _ h => h
        case hwm38 => rfl
        case hym38 => ((intro w hSw; (try dsimp only at hSw); go_simp) <;> with_reducible rfl)
        try simp only [Act.put, List.setIfInBounds_toArray, List.set_cons_zero, List.set_cons_succ]
        refine wpAnyH_take (i := 3) (oi := ?oim39) (v := ?vm39) ?him39 (by kernel_rfl) (by kernel_rfl) (by kernel_rfl) ?hQm39 (Or.inl ⟨?hwm39, ?hym39⟩) (by assumption) ?restm39
        case him39 => simp only [List.getElem?_toArray, List.getElem?_cons_succ, List.getElem?_cons_zero]; exact rfl
        case hQm39 => exact fun _ _ _ h => h
        case hwm39 => rfl
        case hym39 => ((intro w hSw; (try dsimp only at hSw); go_simp) <;> with_reducible rfl)
        try simp only [Act.put, List.setIfInBounds_toArray, List.set_cons_zero, List.set_cons_succ]
        refine wpAnyH_take (i := 4) (oi := ?oim40) (v := ?vm40) ?him40 (by kernel_rfl) (by kernel_rfl) (by kernel_rfl) ?hQm40 (Or.inl ⟨?hwm40, ?hym40⟩) (by assumption) ?restm40
        case him40 => simp only [List.getElem?_toArray, List.getElem?_cons_succ, List.getElem?_cons_zero]; exact rfl
        case hQm40 => exact fun _ _ _ h => h
        case hwm40 => rfl
        case hym40 => ((intro w hSw; (try dsimp only at hSw); go_simp) <;> with_reducible rfl)
        try simp only [Act.put, List.setIfInBounds_toArray, List.set_cons_zero, List.set_cons_succ]
        refine wpAnyH_take (i := 5) (oi := ?oim41) (v := ?vm41) ?him41 (by kernel_rfl) (by kernel_rfl) (by kernel_rfl) ?hQm41 (Or.inl ⟨?hwm41, ?hym41⟩) (by assumption) ?restm41
        case him41 => simp only [List.getElem?_toArray, List.getElem?_cons_succ, List.getElem?_cons_zero]; exact rfl
        case hQm41 => exact fun _ _ _ h => h
        case hwm41 => rfl
        case hym41 => ((intro w hSw; (try dsimp only at hSw); go_simp) <;> with_reducible rfl)
        try simp only [Act.put, List.setIfInBounds_toArray, List.set_cons_zero, List.set_cons_succ]
        refine wpAnyH_take (i := 6) (oi := ?oim42) (v := ?vm42) ?him42 (by kernel_rfl) (by kernel_rfl) (by kernel_rfl) ?hQm42 (Or.inl ⟨?hwm42, ?hym42⟩) (by assumption) ?restm42
        case him42 => simp only [List.getElem?_toArray, List.getElem?_cons_succ, List.getElem?_cons_zero]; exact rfl
        case hQm42 => exact fun _ _ _ h => h
        case hwm42 => rfl
        case hym42 => ((intro w hSw; (try dsimp only at hSw); go_simp) <;> with_reducible rfl)
        try simp only [Act.put, List.setIfInBounds_toArray, List.set_cons_zero, List.set_cons_succ]
        refine wpAnyH_take (i := 7) (oi := ?oim43) (v := ?vm43) ?him43 (by kernel_rfl) (by kernel_rfl) (by kernel_rfl) ?hQm43 (Or.inl ⟨?hwm43, ?hym43⟩) (by assumption) ?restm43
        case him43 => simp only [List.getElem?_toArray, List.getElem?_cons_succ, List.getElem?_cons_zero]; exact rfl
        case hQm43 => exact fun _ _ _ h => h
        case hwm43 => rfl
        case hym43 => ((intro w hSw; (try dsimp only at hSw); go_simp) <;> with_reducible rfl)
        try simp only [Act.put, List.setIfInBounds_toArray, List.set_cons_zero, List.set_cons_succ]
        refine wpAnyH_take (i := 8) (oi := ?oim44) (v := ?vm44) ?him44 (by kernel_rfl) (by kernel_rfl) (by kernel_rfl) ?hQm44 (Or.inl ⟨?hwm44, ?hym44⟩) (by assumption) ?restm44
        case him44 => simp only [List.getElem?_toArray, List.getElem?_cons_succ, List.getElem?_cons_zero]; exact rfl
        case hQm44 => exact fun _ _ _ h => h
        case hwm44 => rfl
        case hym44 => ((intro w hSw; (try dsimp only at hSw); go_simp) <;> with_reducible rfl)
        try simp only [Act.put, List.setIfInBounds_toArray, List.set_cons_zero, List.set_cons_succ]
        refine wpAnyH_take (i := 9) (oi := ?oim45) (v := ?vm45) ?him45 (by kernel_rfl) (by kernel_rfl) (by kernel_rfl) ?hQm45 (Or.inl ⟨?hwm45, ?hym45⟩) (by assumption) ?restm45
        case him45 => simp only [List.getElem?_toArray, List.getElem?_cons_succ, List.getElem?_cons_zero]; exact rfl
        case hQm45 => exact fun _ _ _ h => h
        case hwm45 => rfl
        case hym45 => ((intro w hSw; have t0 := (hSw.cell (p := ⟨X1 + 1, 0, none⟩) hlO).trans o0; have t3 := (hSw.cell (p := ⟨X1 + 1, 3, none⟩) hlO).trans o3; go_simp) <;> with_reducible rfl)
        try simp only [Act.put, List.setIfInBounds_toArray, List.set_cons_zero, List.set_cons_succ]
        refine wpAnyH_take (i := 11) (oi := ?oim46) (v := ?vm46) ?him46 (by kernel_rfl) (by kernel_rfl) (by kernel_rfl) ?hQm46 (Or.inl ⟨?hwm46, ?hym46⟩) (by assumption) ?restm46
        case him46 => simp only [List.getElem?_toArray, List.getElem?_cons_succ, List.getElem?_cons_zero]; exact rfl
        case hQm46 => exact fun _ _ _ h => h
        case hwm46 => rfl
        case hym46 => ((intro w hSw; (try dsimp only at hSw); go_simp) <;> with_reducible rfl)
        try simp only [Act.put, List.setIfInBounds_toArray, List.set_cons_zero, List.set_cons_succ]
        refine wpAnyH_take (i := 12) (oi := ?oim47) (v := ?vm47) ?him47 (by kernel_rfl) (by kernel_rfl) (by kernel_rfl) ?hQm47 (Or.inl ⟨?hwm47, ?hym47⟩) (by assumption) ?restm47
        case him47 => simp only [List.getElem?_toArray, List.getElem?_cons_succ, List.getElem?_cons_zero]; exact rfl
        case hQm47 => exact fun _ _ _ h => h
        case hwm47 => rfl
        case hym47 => ((intro w hSw; have t0 := (hSw.cell (p := ⟨X1 + 1, 0, none⟩) hlO).trans o0; have t3 := (hSw.cell (p := ⟨X1 + 1, 3, none⟩) hlO).trans o3; go_simp) <;> with_reducible rfl)
        try simp only [Act.put, List.setIfInBounds_toArray, List.set_cons_zero, List.set_cons_succ]
        refine wpAnyH_ready (rs := [10]) (by kernel_rfl) (by simp) ?_
        refine AllReadyH.cons (o := ?or48_10) ?hor48_10 (fun K hK => ?stepr48_10) (AllReadyH.nil)
        case hor48_10 => simp only [List.getElem?_toArray, List.getElem?_cons_succ, List.getElem?_cons_zero]; exact rfl
        case stepr48_10 =>
          go_simp
          refine (impl_Filled EI N3 eI RR oi _ (Lst.of_own (own_below RI hHeld)) (by omega)).mono ?_
          rw [HF.out]
          rintro e v5 ⟨rfl, hb5⟩
          have hB5 : Below w6.heap.size w6 v5 := Below.trans hHeld (hb5.mono (Below.size hHeld))
          refine hK.out _ _ ?hSr48_10 (fun hHeld => ?restr48_10)
          case hSr48_10 => exact hB5
          clear hK K
          try simp only [Act.put, List.setIfInBounds_toArray, List.set_cons_zero, List.set_cons_succ]
          refine wpAnyH_take (i := 13) (oi := ?oim49) (v := ?vm49) ?him49 (by kernel_rfl) (by kernel_rfl) (by kernel_rfl) ?hQm49 (Or.inl ⟨?hwm49, ?hym49⟩) (by assumption) ?restm49
          case him49 => simp only [List.getElem?_toArray, List.getElem?_cons_succ, List.getElem?_cons_zero]; exact rfl
          case hQm49 => exact fun _ _ _ h => h
          case hwm49 => rfl
          case hym49 => ((intro w hSw; (try dsimp only at hSw); go_simp) <;> with_reducible rfl)
          try simp only [Act.put, List.setIfInBounds_toArray, List.set_cons_zero, List.set_cons_succ]
          refine wpAnyH_take (i := 14) (oi := ?oim50) (v := ?vm50) ?him50 (by kernel_rfl) (by kernel_rfl) (by kernel_rfl) ?hQm50 (Or.inl ⟨?hwm50, ?hym50⟩) (by assumption) ?restm50
          case him50 => simp only [List.getElem?_toArray, List.getElem?_cons_succ, List.getElem?_cons_zero]; exact rfl
          case hQm50 => exact fun _ _ _ h => h
          case hwm50 => rfl
          case hym50 => ((intro w hSw; (try dsimp only at hSw); go_simp) <;> with_reducible rfl)
          try simp only [Act.put, List.setIfInBounds_toArray, List.set_cons_zero, List.set_cons_succ]
          refine wpAnyH_take (i := 15) (oi := ?oim51) (v := ?vm51) ?him51 (by kernel_rfl) (by kernel_rfl) (by kernel_rfl) ?hQm51 (Or.inl ⟨?hwm51, ?hym51⟩) (by assumption) ?restm51
          case him51 => simp only [List.getElem?_toArray, List.getElem?_cons_succ, List.getElem?_cons_zero]; exact rfl
          case hQm51 => exact fun _ _ _ h => h
          case hwm51 => rfl
          case hym51 => ((intro w hSw; (try dsimp only at hSw); go_simp) <;> with_reducible rfl)
          try simp only [Act.put, List.setIfInBounds_toArray, List.set_cons_zero, List.set_cons_succ]
          refine wpAnyH_done (by kernel_rfl) ?_ _
          have hBz : Below w6.heap.size w6 v5 := hB5
          replace D := D.trans (hBz.mono D.size)
          replace TB := TB.below hBz
          replace kB := (hBz.block _ (heap_lt kB)).trans kB
          replace kO := (hBz.block _ (heap_lt kO)).trans kO
          replace RI := own_below RI hBz
          clear hHeld hBz o0 o1 o2 o3 hlO
          clear hB5 hb5
          generalize v5 = wz at *
          obtain ⟨o0, o1, o2, o3, -⟩ := ord_cell kO
          have kH := heap_alloc_new wz (.cells #[.int .i64 oi, .int .i64 oa, .int .i64 op, .int .i64 oq] 28)
          have hba : Below wz.heap.size wz (wz.alloc (.cells #[.int .i64 oi, .int .i64 oa, .int .i64 op, .int .i64 oq] 28)) := (Below.refl _ _).alloc (Nat.le_refl _) _
          have hX7 : w.heap.size ≤ wz.heap.size := D.size
          have hX8 : X1 + 1 < wz.heap.size := heap_lt kO
          have hX9 : X1 < wz.heap.size := heap_lt kB
          replace D := D.trans (hba.mono D.size)
          replace TB := TB.below hba
          replace kB := (hba.block _ (heap_lt kB)).trans kB
          replace kO := (hba.block _ (heap_lt kO)).trans kO
          replace RI := own_below RI hba
          clear hba
          go_upto_region 11 with fail
          clear o0 o1 o2 o3
          generalize wz.alloc (.cells #[.int .i64 oi, .int .i64 oa, .int .i64 op, .int .i64 oq] 28) = wy at *
          skip
          generalize wz.heap.size = X7 at *
          obtain ⟨o0, o1, o2, o3, -⟩ := ord_cell kO
          obtain ⟨y0, y1, y2, y3, f0, f1, f2, f3⟩ := ord_cell kH
          have hwr : IntKind.i64.wrap (oq + 1) = oq + 1 := by rw [IntKind.wrap_i64]; omega
          have hdv : Int.tdiv (oq + 1) 2 = (oq + 1) / 2 := Int.tdiv_eq_ediv_of_nonneg (by omega)
          have hwr2 : IntKind.i64.wrap ((oq + 1) / 2) = (oq + 1) / 2 := by rw [IntKind.wrap_i64]; omega
          go_wp2_with fail
          go_ret
          exact ⟨by first | rfl | simp, D.setCell (p := ⟨X7, 3, none⟩) hX7 _⟩
      · clear hsm hk0
        have hTo1 : ∀ q, (Value.slice A1 n c).ownBlock = some q → q < w6.heap.size := fun q e => (TB.one.lt q e).2
        have hTo2 : ∀ q, (Value.slice A2 m d).ownBlock = some q → q < w6.heap.size := fun q e => (TB.two.lt q e).2
        refine wp_region_held_drew (S := (fun w' => Below w6.heap.size w6 w')) (by kernel_rfl) ?hSm52 (fun hHeld => ?restm52)
        case hSm52 => exact (Below.refl _ _).drew
        refine wpAnyH_take (i := 0) (oi := ?oim53) (v := ?vm53) ?him53 (by kernel_rfl) (by kernel_rfl) (by kernel_rfl) ?hQm53 (Or.inl ⟨?hwm53, ?hym53⟩) (by assumption) ?restm53
        case him53 => simp only [List.getElem?_toArray, List.getElem?_cons_succ, List.getElem?_cons_zero]; exact rfl
        case hQm53 => exact fun _ _ _ h => h
        case hwm53 => rfl
        case hym53 => ((intro w hSw; (try dsimp only at hSw); go_simp) <;> with_reducible rfl)
        try simp only [Act.put, List.setIfInBounds_toArray, List.set_cons_zero, List.set_cons_succ]
        refine wpAnyH_take (i := 1) (oi := ?oim54) (v := ?vm54) ?him54 (by kernel_rfl) (by kernel_rfl) (by kernel_rfl) ?hQm54 (Or.inl ⟨?hwm54, ?hym54⟩) (by assumption) ?restm54
        case him54 => simp only [List.getElem?_toArray, List.getElem?_cons_succ, List.getElem?_cons_zero]; exact rfl
        case hQm54 => exact fun _ _ _ h => h
        case hwm54 => rfl
        case hym54 => ((intro w hSw; (try dsimp only at hSw); go_simp) <;> with_reducible rfl)
        try simp only [Act.put, List.setIfInBounds_toArray, List.set_cons_zero, List.set_cons_succ]
        refine wpAnyH_take (i := 2) (oi := ?oim55) (v := ?vm55) ?him55 (by kernel_rfl) (by kernel_rfl) (by kernel_rfl) ?hQm55 (Or.inl ⟨?hwm55, ?hym55⟩) (by assumption) ?restm55
        case him55 => simp only [List.getElem?_toArray, List.getElem?_cons_succ, List.getElem?_cons_zero]; exact rfl
        case hQm55 => exact fun _ _ _ h => h
        case hwm55 => rfl
        case hym55 => ((intro w hSw; (try dsimp only at hSw); go_simp) <;> with_reducible rfl)
        try simp only [Act.put, List.setIfInBounds_toArray, List.set_cons_zero, List.set_cons_succ]
        refine wpAnyH_take (i := 3) (oi := ?oim56) (v := ?vm56) ?him56 (by kernel_rfl) (by kernel_rfl) (by kernel_rfl) ?hQm56 (Or.inl ⟨?hwm56, ?hym56⟩) (by assumption) ?restm56
        case him56 => simp only [List.getElem?_toArray, List.getElem?_cons_succ, List.getElem?_cons_zero]; exact rfl
        case hQm56 => exact fun _ _ _ h => h
        case hwm56 => rfl
        case hym56 => ((intro w hSw; (try dsimp only at hSw); go_simp) <;> with_reducible rfl)
        try simp only [Act.put, List.setIfInBounds_toArray, List.set_cons_zero, List.set_cons_succ]
        refine wpAnyH_take (i := 4) (oi := ?oim57) (v := ?vm57) ?him57 (by kernel_rfl) (by kernel_rfl) (by kernel_rfl) ?hQm57 (Or.inl ⟨?hwm57, ?hym57⟩) (by assumption) ?restm57
        case him57 => simp only [List.getElem?_toArray, List.getElem?_cons_succ, List.getElem?_cons_zero]; exact rfl
        case hQm57 => exact fun _ _ _ h => h
        case hwm57 => rfl
        case hym57 => ((intro w hSw; (try dsimp only at hSw); go_simp) <;> with_reducible rfl)
        try simp only [Act.put, List.setIfInBounds_toArray, List.set_cons_zero, List.set_cons_succ]
        refine wpAnyH_take (i := 5) (oi := ?oim58) (v := ?vm58) ?him58 (by kernel_rfl) (by kernel_rfl) (by kernel_rfl) ?hQm58 (Or.inl ⟨?hwm58, ?hym58⟩) (by assumption) ?restm58
        case him58 => simp only [List.getElem?_toArray, List.getElem?_cons_succ, List.getElem?_cons_zero]; exact rfl
        case hQm58 => exact fun _ _ _ h => h
        case hwm58 => rfl
        case hym58 => ((intro w hSw; (try dsimp only at hSw); go_simp) <;> with_reducible rfl)
        try simp only [Act.put, List.setIfInBounds_toArray, List.set_cons_zero, List.set_cons_succ]
        refine wpAnyH_take (i := 6) (oi := ?oim59) (v := ?vm59) ?him59 (by kernel_rfl) (by kernel_rfl) (by kernel_rfl) ?hQm59 (Or.inl ⟨?hwm59, ?hym59⟩) (by assumption) ?restm59
        case him59 => simp only [List.getElem?_toArray, List.getElem?_cons_succ, List.getElem?_cons_zero]; exact rfl
        case hQm59 => exact fun _ _ _ h => h
        case hwm59 => rfl
        case hym59 => ((intro w hSw; (try dsimp only at hSw); go_simp) <;> with_reducible rfl)
        try simp only [Act.put, List.setIfInBounds_toArray, List.set_cons_zero, List.set_cons_succ]
        refine wpAnyH_take (i := 7) (oi := ?oim60) (v := ?vm60) ?him60 (by kernel_rfl) (by kernel_rfl) (by kernel_rfl) ?hQm60 (Or.inl ⟨?hwm60, ?hym60⟩) (by assumption) ?restm60
        case him60 => simp only [List.getElem?_toArray, List.getElem?_cons_succ, List.getElem?_cons_zero]; exact rfl
        case hQm60 => exact fun _ _ _ h => h
        case hwm60 => rfl
        case hym60 => ((intro w hSw; (try dsimp only at hSw); go_simp) <;> with_reducible rfl)
        try simp only [Act.put, List.setIfInBounds_toArray, List.set_cons_zero, List.set_cons_succ]
        refine wpAnyH_take (i := 8) (oi := ?oim61) (v := ?vm61) ?him61 (by kernel_rfl) (by kernel_rfl) (by kernel_rfl) ?hQm61 (Or.inl ⟨?hwm61, ?hym61⟩) (by assumption) ?restm61
        case him61 => simp only [List.getElem?_toArray, List.getElem?_cons_succ, List.getElem?_cons_zero]; exact rfl
        case hQm61 => exact fun _ _ _ h => h
        case hwm61 => rfl
        case hym61 => ((intro w hSw; (try dsimp only at hSw); go_simp) <;> with_reducible rfl)
        try simp only [Act.put, List.setIfInBounds_toArray, List.set_cons_zero, List.set_cons_succ]
        refine wpAnyH_take (i := 9) (oi := ?oim62) (v := ?vm62) ?him62 (by kernel_rfl) (by kernel_rfl) (by kernel_rfl) ?hQm62 (Or.inl ⟨?hwm62, ?hym62⟩) (by assumption) ?restm62
        case him62 => simp only [List.getElem?_toArray, List.getElem?_cons_succ, List.getElem?_cons_zero]; exact rfl
        case hQm62 => exact fun _ _ _ h => h
        case hwm62 => rfl
        case hym62 => ((intro w hSw; have t0 := (hSw.cell (p := ⟨X1 + 1, 0, none⟩) hlO).trans o0; have t3 := (hSw.cell (p := ⟨X1 + 1, 3, none⟩) hlO).trans o3; go_simp) <;> with_reducible rfl)
        try simp only [Act.put, List.setIfInBounds_toArray, List.set_cons_zero, List.set_cons_succ]
        refine wpAnyH_take (i := 11) (oi := ?oim63) (v := ?vm63) ?him63 (by kernel_rfl) (by kernel_rfl) (by kernel_rfl) ?hQm63 (Or.inl ⟨?hwm63, ?hym63⟩) (by assumption) ?restm63
        case him63 => simp only [List.getElem?_toArray, List.getElem?_cons_succ, List.getElem?_cons_zero]; exact rfl
        case hQm63 => exact fun _ _ _ h => h
        case hwm63 => rfl
        case hym63 => ((intro w hSw; (try dsimp only at hSw); go_simp) <;> with_reducible rfl)
        try simp only [Act.put, List.setIfInBounds_toArray, List.set_cons_zero, List.set_cons_succ]
        refine wpAnyH_take (i := 12) (oi := ?oim64) (v := ?vm64) ?him64 (by kernel_rfl) (by kernel_rfl) (by kernel_rfl) ?hQm64 (Or.inl ⟨?hwm64, ?hym64⟩) (by assumption) ?restm64
        case him64 => simp only [List.getElem?_toArray, List.getElem?_cons_succ, List.getElem?_cons_zero]; exact rfl
        case hQm64 => exact fun _ _ _ h => h
        case hwm64 => rfl
        case hym64 => ((intro w hSw; have t0 := (hSw.cell (p := ⟨X1 + 1, 0, none⟩) hlO).trans o0; have t3 := (hSw.cell (p := ⟨X1 + 1, 3, none⟩) hlO).trans o3; go_simp) <;> with_reducible rfl)
        try simp only [Act.put, List.setIfInBounds_toArray, List.set_cons_zero, List.set_cons_succ]
        refine wpAnyH_ready (rs := [10]) (by kernel_rfl) (by simp) ?_
        refine AllReadyH.cons (o := ?or65_10) ?hor65_10 (fun K hK => ?stepr65_10) (AllReadyH.nil)
        case hor65_10 => simp only [List.getElem?_toArray, List.getElem?_cons_succ, List.getElem?_cons_zero]; exact rfl
        case stepr65_10 =>
          go_simp
          refine (impl_Filled EI N3 eI RR oi _ (Lst.of_own (own_below RI hHeld)) (by omega)).mono ?_
          rw [HF.out]
          rintro e v5 ⟨rfl, hb5⟩
          have hB5 : Below w6.heap.size w6 v5 := Below.trans hHeld (hb5.mono (Below.size hHeld))
          refine hK.out _ _ ?hSr65_10 (fun hHeld => ?restr65_10)
          case hSr65_10 => exact hB5
          clear hK K
          try simp only [Act.put, List.setIfInBounds_toArray, List.set_cons_zero, List.set_cons_succ]
          refine wpAnyH_take (i := 13) (oi := ?oim66) (v := ?vm66) ?him66 (by kernel_rfl) (by kernel_rfl) (by kernel_rfl) ?hQm66 (Or.inl ⟨?hwm66, ?hym66⟩) (by assumption) ?restm66
          case him66 => simp only [List.getElem?_toArray, List.getElem?_cons_succ, List.getElem?_cons_zero]; exact rfl
          case hQm66 => exact fun _ _ _ h => h
          case hwm66 => rfl
          case hym66 => ((intro w hSw; (try dsimp only at hSw); go_simp) <;> with_reducible rfl)
          try simp only [Act.put, List.setIfInBounds_toArray, List.set_cons_zero, List.set_cons_succ]
          refine wpAnyH_take (i := 14) (oi := ?oim67) (v := ?vm67) ?him67 (by kernel_rfl) (by kernel_rfl) (by kernel_rfl) ?hQm67 (Or.inl ⟨?hwm67, ?hym67⟩) (by assumption) ?restm67
          case him67 => simp only [List.getElem?_toArray, List.getElem?_cons_succ, List.getElem?_cons_zero]; exact rfl
          case hQm67 => exact fun _ _ _ h => h
          case hwm67 => rfl
          case hym67 => ((intro w hSw; (try dsimp only at hSw); go_simp) <;> with_reducible rfl)
          try simp only [Act.put, List.setIfInBounds_toArray, List.set_cons_zero, List.set_cons_succ]
          refine wpAnyH_take (i := 15) (oi := ?oim68) (v := ?vm68) ?him68 (by kernel_rfl) (by kernel_rfl) (by kernel_rfl) ?hQm68 (Or.inl ⟨?hwm68, ?hym68⟩) (by assumption) ?restm68
          case him68 => simp only [List.getElem?_toArray, List.getElem?_cons_succ, List.getElem?_cons_zero]; exact rfl
          case hQm68 => exact fun _ _ _ h => h
          case hwm68 => rfl
          case hym68 => ((intro w hSw; (try dsimp only at hSw); go_simp) <;> with_reducible rfl)
          try simp only [Act.put, List.setIfInBounds_toArray, List.set_cons_zero, List.set_cons_succ]
          refine wpAnyH_done (by kernel_rfl) ?_ _
          have hBz : Below w6.heap.size w6 v5 := hB5
          have hX6 := hBz.size
          replace D := D.trans (hBz.mono D.size)
          replace TB := TB.below hBz
          replace kB := (hBz.block _ (heap_lt kB)).trans kB
          replace kO := (hBz.block _ (heap_lt kO)).trans kO
          replace RI := own_below RI hBz
          clear hHeld hBz o0 o1 o2 o3 hlO
          clear hB5 hb5
          generalize v5 = wz at *
          obtain ⟨o0, o1, o2, o3, -⟩ := ord_cell kO
          have kH := heap_alloc_new wz (.cells #[.int .i64 oi, .int .i64 oa, .int .i64 op, .int .i64 oq] 28)
          have hba : Below wz.heap.size wz (wz.alloc (.cells #[.int .i64 oi, .int .i64 oa, .int .i64 op, .int .i64 oq] 28)) := (Below.refl _ _).alloc (Nat.le_refl _) _
          have hX7 : w.heap.size ≤ wz.heap.size := D.size
          have hX8 : X1 + 1 < wz.heap.size := heap_lt kO
          have hX9 : X1 < wz.heap.size := heap_lt kB
          replace D := D.trans (hba.mono D.size)
          replace TB := TB.below hba
          replace kB := (hba.block _ (heap_lt kB)).trans kB
          replace kO := (hba.block _ (heap_lt kO)).trans kO
          replace RI := own_below RI hba
          clear hba
          go_upto_region 11 with fail
          clear o0 o1 o2 o3
          generalize wz.alloc (.cells #[.int .i64 oi, .int .i64 oa, .int .i64 op, .int .i64 oq] 28) = wy at *
          skip
          generalize wz.heap.size = X7 at *
          obtain ⟨o0, o1, o2, o3, -⟩ := ord_cell kO
          obtain ⟨y0, y1, y2, y3, f0, f1, f2, f3⟩ := ord_cell kH
          have hwr : IntKind.i64.wrap (oq + 1) = oq + 1 := by rw [IntKind.wrap_i64]; omega
          have hdv : Int.tdiv (oq + 1) 2 = (oq + 1) / 2 := Int.tdiv_eq_ediv_of_nonneg (by omega)
          have hwr2 : IntKind.i64.wrap ((oq + 1) / 2) = (oq + 1) / 2 := by rw [IntKind.wrap_i64]; omega
          have kH2 := Lib.hid (ord_set kH 3 (.int .i64 ((oq + 1) / 2)))
          have kB2 := Lib.hid (mset_other (i := 3) (u := .int .i64 ((oq + 1) / 2)) kB (show X1 ≠ X7 by omega))
          have D2 := Lib.hid (D.setCell (p := ⟨X7, 3, none⟩) hX7 (.int .i64 ((oq + 1) / 2)))
          have TB2 := Lib.hid (TB.put (set_grown wy X7 3 (.int .i64 ((oq + 1) / 2))) (fun e => absurd (hTo1 _ e) (by omega)) (fun e => absurd (hTo2 _ e) (by omega)))
          go_upto_region 12 with fail
          clear o0 o1 o2 o3 y0 y1 y2 y3 f0 f1 f2 f3
          generalize wy.setCell ⟨X7, 3, none⟩ (.int .i64 ((oq + 1) / 2)) = wx at *
          have kH3 := kH2.out
          simp at kH3
          obtain ⟨y0, y1, y2, y3, -⟩ := ord_cell kH3
          obtain ⟨p0, p1⟩ := cell2 kB2.out
          have TB3 := TB2.out
          go_wp2_with fail
          refine (impl_CanFill A1 n c A2 m d za zb s oi oa op ((oq + 1) / 2) md wx (Lst.of_own TB3.one) (Lst.of_own TB3.two) (by omega) (by omega)).mono ?_
          rw [can_half hlA hlB HCF.out]
          rintro e wv ⟨rfl, hbv⟩
          go_wp2_with fail
          go_ret
          exact ⟨by first | rfl | simp, D2.out.trans (hbv.mono D2.out.size)⟩
end Go.Proofs.Ytdjmejjponlfoaa
