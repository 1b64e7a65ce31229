/-
  The drawn law of the orders that rest.
-/
import Derived.Test.YtdjmejjponlfoaaGD
import Derived.Test.YtdjmejjponlfoaaGU
import Derived.Test.YtdjmejjponlfoaaGF
import Derived.Test.YtdjmejjponlfoaaSumO
import Derived.Test.YtdjmejjponlfoaaGS
import Derived.Test.YtdjmejjponlfoaaLawInts
import Derived.Test.YtdjmejjponlfoaaLawCell
namespace Go.Proofs.Ytdjmejjponlfoaa
open Go.RowKit Wire

theorem m_len {za zb : List Int} {n m : Nat} {rg : Bool} {side oi oa op oq mode : Int} (ha : za.length = n * 4) (hb : zb.length = m * 4) (h : rgB za n zb m side oi oa op oq mode = rg) (hn : n ≤ 20) (hm : m ≤ 20) :
    (mZ1 rg side oi oa op oq mode za zb).length / 4 ≤ 20 ∧ (mZ2 rg side oi oa op oq mode za zb).length / 4 ≤ 20 ∧ (mRR rg side oi oa op oq mode za zb).length / 8 ≤ 41 := by
  cases rg
  · simp [mZ1, mZ2, mRR]
  · have R := rg_oth h ha hb
    obtain ⟨M, N, e1, e2, e3, e4⟩ := mtS_len (side := side) (id := oi) (acct := oa) (pr := op) (mode := mode) (othN side n m) (Z := othZ side za zb) (R := []) (q := oq) 0 R.len rfl
    have hle := R.le
    unfold mZ1 mZ2 mRR mtA
    rw [if_pos rfl, if_pos rfl, if_pos rfl]
    unfold othZ at e1 e3
    rw [e3]
    refine ⟨?_, ?_, by omega⟩ <;> split <;> first | omega | (rw [e1]; omega) | simp_all <;> omega
theorem rg_side {za zb : List Int} {n m : Nat} {side oi oa op oq mode : Int} (h : rgB za n zb m side oi oa op oq mode = true) : side = 1 ∨ side = 2 := by
  have hs := (rg_parts h).2.1
  rcases side_cases side with ⟨rfl, -⟩ | ⟨rfl, -⟩ | ⟨-, -, hno⟩
  · exact .inl rfl
  · exact .inr rfl
  · rw [hno] at hs
    exact absurd hs (by decide)
theorem oth_side {za zb : List Int} {n m : Nat} {side : Int} (h : side = 1 ∨ side = 2) : sideN true (3 - side) n m = othN side n m ∧ sideZ true (3 - side) za zb = othZ side za zb := by
  unfold sideN sideZ othN othZ
  rcases h with rfl | rfl <;> simp
set_option linter.unusedSimpArgs false in
set_option linter.unusedVariables false in
set_option maxHeartbeats 6400000 in
set_option maxRecDepth 100000 in
theorem law_RestsD (A : Option Addr) (len cap : Nat) (ys : List Int) (w : World) (hrow : IsRow .u8 w A len cap ys) :
    Calls Try.prog 4 #[.slice A len cap] w fun e w' => e = .returned (.bool true) ∧ Below w.heap.size w w' := by
  have hs := src_of_row hrow
  have hl := row_len hrow
  clear hrow
  have hsrc : ∀ w', Below w.heap.size w w' → Src w' w'.heap.size A len := fun w' hb i hi => by
    obtain ⟨b, o, n, h1, h2, h3, h4, h5⟩ := hs i hi
    exact ⟨b, o, n, h1, Nat.lt_of_lt_of_le h2 hb.size, h3, h4, (hb.cell (p := ⟨b, o + i, none⟩) h2).trans h5⟩
  by_cases hbig : 1048576 < len
  · go_enter Try.func4, Try.ntmps4
    go_wp2_with (go_at_call 9; go_in)
    go_ret
    exact ⟨rfl, Below.refl _ _⟩
  go_enter Try.func4, Try.ntmps4
  go_wp2_with (go_at_call 9; go_in)
  refine (DrawMatched_any A len cap _ hs hl).mono ?_
  rintro e w1 ⟨v1, n, za, v2, m, zb, s, oi, oa, op, oq, md, rfl, hn, hm, TB, D⟩
  obtain ⟨A1, c, A2, d, rfl, rfl⟩ := TB.slices
  have hlA : za.length = n * 4 := by have := TB.one.1; rwa [nums_length] at this
  have hlB : zb.length = m * 4 := by have := TB.two.1; rwa [nums_length] at this
  obtain ⟨kB, kO⟩ := two_blocks w1 (.cells #[.slice A1 n c, .slice A2 m d] 26) (.cells #[.int .i64 oi, .int .i64 oa, .int .i64 op, .int .i64 oq] 28)
  have hba : Below w1.heap.size w1 ((w1.alloc (.cells #[.slice A1 n c, .slice A2 m d] 26)).alloc (.cells #[.int .i64 oi, .int .i64 oa, .int .i64 op, .int .i64 oq] 28)) := ((Below.refl _ _).alloc (Nat.le_refl _) _).alloc (by simp) _
  replace D := D.trans (hba.mono D.size)
  replace TB := TB.below hba
  clear hba
  obtain ⟨p0, p1⟩ := cell2 kB
  obtain ⟨o0, o1, o2, o3, -⟩ := ord_cell kO
  go_wp2_with fail
  clear p0 p1 o0 o1 o2 o3
  generalize ((w1.alloc (.cells #[.slice A1 n c, .slice A2 m d] 26)).alloc (.cells #[.int .i64 oi, .int .i64 oa, .int .i64 op, .int .i64 oq] 28)) = w2 at *
  generalize w1.heap.size = X1 at *
  obtain ⟨rg, hrg⟩ : ∃ x, rgB za n zb m s oi oa op oq md = x := ⟨_, rfl⟩
  have HRG := Lib.hid hrg
  have hLN := m_len hlA hlB hrg hn hm
  obtain ⟨Y1, hsY1⟩ : ∃ x, mZ1 rg s oi oa op oq md za zb = x := ⟨_, rfl⟩
  obtain ⟨Y2, hsY2⟩ : ∃ x, mZ2 rg s oi oa op oq md za zb = x := ⟨_, rfl⟩
  obtain ⟨RR, hsRR⟩ : ∃ x, mRR rg s oi oa op oq md za zb = x := ⟨_, rfl⟩
  obtain ⟨lf, hslf⟩ : ∃ x, mLL rg s oi oa op oq md za zb = x := ⟨_, rfl⟩
  rw [hsY1, hsY2, hsRR] at hLN
  obtain ⟨N1, hsN1⟩ : ∃ x, Y1.length / 4 = x := ⟨_, rfl⟩
  obtain ⟨N2, hsN2⟩ : ∃ x, Y2.length / 4 = x := ⟨_, rfl⟩
  obtain ⟨N3, hsN3⟩ : ∃ x, RR.length / 8 = x := ⟨_, rfl⟩
  rw [hsN1, hsN2, hsN3] at hLN
  obtain ⟨hN1, hN2, hN3⟩ := hLN
  have HY1 := Lib.hid hsY1
  have HY2 := Lib.hid hsY2
  have HRR := Lib.hid hsRR
  have Hlf := Lib.hid hslf
  have HN1 := Lib.hid hsN1
  have HN2 := Lib.hid hsN2
  have HN3 := Lib.hid hsN3
  have hcon := (impl_Matched A1 n c A2 m d za zb s oi oa op oq md w2 (Lst.of_own TB.one) (Lst.of_own TB.two) (by omega) (by omega)).mono (fun e w' h => (⟨mans_len h.1, h.2⟩ : _ ∧ _))
  rw [hrg, hsY1, hsY2, hsRR, hslf, hsN1, hsN2, hsN3] at hcon
  refine hcon.mono ?_
  clear hcon
  rintro e w3 ⟨⟨t1, t2, t3, rfl, TI, RI⟩, hbm⟩
  obtain ⟨BI, bI, CI, cI, rfl, rfl⟩ := TI.slices
  obtain ⟨EI, eI, rfl, _, _⟩ := own_slice RI
  replace D := D.trans (hbm.mono D.size)
  replace TB := TB.below hbm
  replace kB := (hbm.block _ (heap_lt kB)).trans kB
  replace kO := (hbm.block _ (heap_lt kO)).trans kO
  clear hbm
  have kN := heap_alloc_new w3 (.cells #[.slice BI N1 bI, .slice CI N2 cI] 26)
  have hba : Below w3.heap.size w3 (w3.alloc (.cells #[.slice BI N1 bI, .slice CI N2 cI] 26)) := (Below.refl _ _).alloc (Nat.le_refl _) _
  replace D := D.trans (hba.mono D.size)
  replace TB := TB.below hba
  replace kB := (hba.block _ (heap_lt kB)).trans kB
  replace kO := (hba.block _ (heap_lt kO)).trans kO
  replace TI := TI.below hba
  replace RI := own_below RI hba
  clear hba
  obtain ⟨p0, p1⟩ := cell2 kB
  obtain ⟨o0, o1, o2, o3, -⟩ := ord_cell kO
  go_wp2_with fail
  clear p0 p1 o0 o1 o2 o3
  generalize w3.alloc (.cells #[.slice BI N1 bI, .slice CI N2 cI] 26) = w4 at *
  generalize w3.heap.size = X2 at *
  have hcon := (spec_Matched A1 n c A2 m d za zb s oi oa op oq md w4 (Lst.of_own TB.one) (Lst.of_own TB.two) (by omega) (by omega) (own_nil TB.one) (own_nil TB.two)).mono (fun e w' h => (⟨mans_len h.1, h.2⟩ : _ ∧ _))
  rw [hrg, hsY1, hsY2, hsRR, hslf, hsN1, hsN2, hsN3] at hcon
  refine hcon.mono ?_
  clear hcon
  rintro e w5 ⟨⟨t1, t2, t3, rfl, TS, RS⟩, hbm⟩
  obtain ⟨BS, bS, CS, cS, rfl, rfl⟩ := TS.slices
  obtain ⟨ES, eS, rfl, _, _⟩ := own_slice RS
  replace D := D.trans (hbm.mono D.size)
  replace TB := TB.below hbm
  replace kB := (hbm.block _ (heap_lt kB)).trans kB
  replace kO := (hbm.block _ (heap_lt kO)).trans kO
  replace TI := TI.below hbm
  replace RI := own_below RI hbm
  replace kN := (hbm.block _ (heap_lt kN)).trans kN
  clear hbm
  clear hsY1 hsY2 hsRR hslf hsN1 hsN2 hsN3 hrg
  have hba : Below w5.heap.size w5 (w5.alloc (.cells #[.slice BS N1 bS, .slice CS N2 cS] 26)) := (Below.refl _ _).alloc (Nat.le_refl _) _
  replace D := D.trans (hba.mono D.size)
  replace TB := TB.below hba
  replace kB := (hba.block _ (heap_lt kB)).trans kB
  replace kO := (hba.block _ (heap_lt kO)).trans kO
  replace TI := TI.below hba
  replace RI := own_below RI hba
  replace kN := (hba.block _ (heap_lt kN)).trans kN
  replace RS := own_below RS hba
  clear hba TS
  go_upto_region 6 with fail
  generalize w5.alloc (.cells #[.slice BS N1 bS, .slice CS N2 cS] 26) = w6 at *
  cases rg
  · skip
    go_wp2_with fail
    refine (sameRecs_same EI ES N3 eI eS RR w6 (Lst.of_own RI) (Lst.of_own RS) (by omega)).mono ?_
    rintro e w7 ⟨rfl, hbs⟩
    replace D := D.trans (hbs.mono D.size)
    replace TB := TB.below hbs
    replace kB := (hbs.block _ (heap_lt kB)).trans kB
    replace kO := (hbs.block _ (heap_lt kO)).trans kO
    replace TI := TI.below hbs
    replace RI := own_below RI hbs
    replace kN := (hbs.block _ (heap_lt kN)).trans kN
    replace RS := own_below RS hbs
    clear hbs
    go_wp2_with fail
    refine (sameRecs_same EI ES N3 eI eS RR w7 (Lst.of_own RI) (Lst.of_own RS) (by omega)).mono ?_
    rintro e w8 ⟨rfl, hbs⟩
    replace D := D.trans (hbs.mono D.size)
    replace TB := TB.below hbs
    replace kB := (hbs.block _ (heap_lt kB)).trans kB
    replace kO := (hbs.block _ (heap_lt kO)).trans kO
    replace TI := TI.below hbs
    replace RI := own_below RI hbs
    replace kN := (hbs.block _ (heap_lt kN)).trans kN
    replace RS := own_below RS hbs
    clear hbs
    go_wp2_with fail
    go_ret
    exact ⟨by first | rfl | simp, D⟩
  · skip
    go_wp2_with fail
    refine (sameRecs_same EI ES N3 eI eS RR w6 (Lst.of_own RI) (Lst.of_own RS) (by omega)).mono ?_
    rintro e w7 ⟨rfl, hbs⟩
    replace D := D.trans (hbs.mono D.size)
    replace TB := TB.below hbs
    replace kB := (hbs.block _ (heap_lt kB)).trans kB
    replace kO := (hbs.block _ (heap_lt kO)).trans kO
    replace TI := TI.below hbs
    replace RI := own_below RI hbs
    replace kN := (hbs.block _ (heap_lt kN)).trans kN
    replace RS := own_below RS hbs
    clear hbs
    clear RS kO
    have hbk := rg_book HRG.out hlA hlB
    have hrest := fun p (hp : p < othN s n m) => fun s' f ok => rg_rest (s := s') (f := f) (ok := ok) HRG.out hlA hlB hp
    rw [HY1.out, HY2.out, HN1.out, HN2.out] at hbk
    simp only [HY1.out, HY2.out, HRR.out, HN1.out, HN2.out, HN3.out] at hrest
    have hok := (rg_sum HRG.out hlA hlB).1
    rw [HRR.out, HN3.out] at hok
    have HOKR := Lib.hid hok
    have HBK := Lib.hid hbk
    have HREST := Lib.hid hrest
    clear hbk hrest hok
    have hbk0 := (rg_parts HRG.out).1
    have HB0 := Lib.hid hbk0
    have HR := Lib.hid (rg_oth HRG.out hlA hlB)
    have hs12 := rg_side HRG.out
    have hwr : IntKind.i64.wrap (3 - s) = 3 - s := by rw [IntKind.wrap_i64]; omega
    clear hbk0
    obtain ⟨K, hK⟩ : ∃ x, othN s n m = x := ⟨_, rfl⟩
    obtain ⟨Z, hZ⟩ : ∃ x, othZ s za zb = x := ⟨_, rfl⟩
    have HK := Lib.hid hK
    have HZ := Lib.hid hZ
    clear hK hZ
    have hK20 : K ≤ 20 := by rw [← HK.out]; exact HR.out.le
    obtain ⟨p0, p1⟩ := cell2 kB
    go_wp2_with fail
    clear p0 p1
    refine (impl_Side A1 n c A2 m d za zb (3 - s) w7 (Lst.of_own TB.one) (Lst.of_own TB.two) (by omega) (by omega)).mono ?_
    rw [HB0.out, (oth_side (n := n) (m := m) (za := za) (zb := zb) hs12).1, (oth_side (n := n) (m := m) (za := za) (zb := zb) hs12).2, HK.out, HZ.out]
    rintro e w8 ⟨⟨r, rfl, TL⟩, hb8⟩
    replace D := D.trans (hb8.mono D.size)
    replace TB := TB.below hb8
    replace kB := (hb8.block _ (heap_lt kB)).trans kB
    replace TI := TI.below hb8
    replace RI := own_below RI hb8
    replace kN := (hb8.block _ (heap_lt kN)).trans kN
    clear hb8 TB kB
    obtain ⟨AL, cL, rfl, hLc, hLm⟩ := own_slice TL
    go_wp2_with fail
    go_loopw [16] (fun i wr => ∃ k : Nat, k ≤ K ∧ i = .int .i64 (k : Int) ∧ Below w8.heap.size w8 wr) (fun i _ => K - (intOf i).toNat)
    case atStart => exact ⟨0, Nat.zero_le _, rfl, Below.refl _ _⟩
    case round =>
      obtain ⟨k, hk, rfl, hbr⟩ := hrel
      replace D := D.trans (hbr.mono D.size)
      replace TI := TI.below hbr
      replace RI := own_below RI hbr
      replace kN := (hbr.block _ (heap_lt kN)).trans kN
      replace TL := own_below TL hbr
      by_cases hlt : k < K
      · obtain ⟨b, o, hax, hbo, c0, c1, c2, c3⟩ := (Lst.of_own TL).row4 hlt
        subst hax
        obtain ⟨p0, p1⟩ := cell2 kN
        have hlX := heap_lt kN
        go_upto_region 12 with fail
        refine wp_region_held_drew (S := (fun w' => Below wr.heap.size wr w')) (by kernel_rfl) ?hSm1 (fun hHeld => ?restm1)
        case hSm1 => exact (Below.refl _ _).drew
        refine wpAnyH_take (i := 0) (oi := ?oim2) (v := ?vm2) ?him2 (by kernel_rfl) (by kernel_rfl) (by kernel_rfl) ?hQm2 (Or.inl ⟨?hwm2, ?hym2⟩) (by assumption) ?restm2
        case him2 => simp only [List.getElem?_toArray, List.getElem?_cons_succ, List.getElem?_cons_zero]; exact rfl
        case hQm2 => exact fun _ _ _ h => h
        case hwm2 => rfl
        case hym2 => ((intro w hSw; have t0 := (hSw.cell (p := ⟨X2, 0, none⟩) hlX).trans p0; have t1 := (hSw.cell (p := ⟨X2, 1, none⟩) hlX).trans p1; have t2 := (hSw.cell (p := ⟨b, o + k * 4, none⟩) hbo).trans c0; go_simp) <;> with_reducible rfl)
        try simp only [Act.put, List.setIfInBounds_toArray, List.set_cons_zero, List.set_cons_succ]
        refine wpAnyH_take (i := 1) (oi := ?oim3) (v := ?vm3) ?him3 (by kernel_rfl) (by kernel_rfl) (by kernel_rfl) ?hQm3 (Or.inl ⟨?hwm3, ?hym3⟩) (by assumption) ?restm3
        case him3 => simp only [List.getElem?_toArray, List.getElem?_cons_succ, List.getElem?_cons_zero]; exact rfl
        case hQm3 => exact fun _ _ _ h => h
        case hwm3 => rfl
        case hym3 => ((intro w hSw; (try dsimp only at hSw); go_simp) <;> with_reducible rfl)
        try simp only [Act.put, List.setIfInBounds_toArray, List.set_cons_zero, List.set_cons_succ]
        refine wpAnyH_take (i := 2) (oi := ?oim4) (v := ?vm4) ?him4 (by kernel_rfl) (by kernel_rfl) (by kernel_rfl) ?hQm4 (Or.inl ⟨?hwm4, ?hym4⟩) (by assumption) ?restm4
        case him4 => simp only [List.getElem?_toArray, List.getElem?_cons_succ, List.getElem?_cons_zero]; exact rfl
        case hQm4 => exact fun _ _ _ h => h
        case hwm4 => rfl
        case hym4 => ((intro w hSw; (try dsimp only at hSw); go_simp) <;> with_reducible rfl)
        try simp only [Act.put, List.setIfInBounds_toArray, List.set_cons_zero, List.set_cons_succ]
        refine wpAnyH_take (i := 3) (oi := ?oim5) (v := ?vm5) ?him5 (by kernel_rfl) (by kernel_rfl) (by kernel_rfl) ?hQm5 (Or.inl ⟨?hwm5, ?hym5⟩) (by assumption) ?restm5
        case him5 => simp only [List.getElem?_toArray, List.getElem?_cons_succ, List.getElem?_cons_zero]; exact rfl
        case hQm5 => exact fun _ _ _ h => h
        case hwm5 => rfl
        case hym5 => ((intro w hSw; (try dsimp only at hSw); go_simp) <;> with_reducible rfl)
        try simp only [Act.put, List.setIfInBounds_toArray, List.set_cons_zero, List.set_cons_succ]
        refine wpAnyH_take (i := 4) (oi := ?oim6) (v := ?vm6) ?him6 (by kernel_rfl) (by kernel_rfl) (by kernel_rfl) ?hQm6 (Or.inl ⟨?hwm6, ?hym6⟩) (by assumption) ?restm6
        case him6 => simp only [List.getElem?_toArray, List.getElem?_cons_succ, List.getElem?_cons_zero]; exact rfl
        case hQm6 => exact fun _ _ _ h => h
        case hwm6 => rfl
        case hym6 => ((intro w hSw; (try dsimp only at hSw); go_simp) <;> with_reducible rfl)
        try simp only [Act.put, List.setIfInBounds_toArray, List.set_cons_zero, List.set_cons_succ]
        refine wpAnyH_take (i := 5) (oi := ?oim7) (v := ?vm7) ?him7 (by kernel_rfl) (by kernel_rfl) (by kernel_rfl) ?hQm7 (Or.inl ⟨?hwm7, ?hym7⟩) (by assumption) ?restm7
        case him7 => simp only [List.getElem?_toArray, List.getElem?_cons_succ, List.getElem?_cons_zero]; exact rfl
        case hQm7 => exact fun _ _ _ h => h
        case hwm7 => rfl
        case hym7 => ((intro w hSw; have t0 := (hSw.cell (p := ⟨X2, 0, none⟩) hlX).trans p0; have t1 := (hSw.cell (p := ⟨X2, 1, none⟩) hlX).trans p1; have t2 := (hSw.cell (p := ⟨b, o + k * 4, none⟩) hbo).trans c0; go_simp) <;> with_reducible rfl)
        try simp only [Act.put, List.setIfInBounds_toArray, List.set_cons_zero, List.set_cons_succ]
        refine wpAnyH_ready (rs := [6, 11]) (by kernel_rfl) (by simp) ?_
        refine AllReadyH.cons (o := ?or8_6) ?hor8_6 (fun K hK => ?stepr8_6) (AllReadyH.cons (o := ?or8_11) ?hor8_11 (fun K hK => ?stepr8_11) (AllReadyH.nil))
        case hor8_6 => simp only [List.getElem?_toArray, List.getElem?_cons_succ, List.getElem?_cons_zero]; exact rfl
        case hor8_11 => simp only [List.getElem?_toArray, List.getElem?_cons_succ, List.getElem?_cons_zero]; exact rfl
        case stepr8_6 =>
          go_simp
          have hHv : Below wr.heap.size wr wr.drew := hHeld
          refine (impl_Find BI N1 bI CI N2 cI Y1 Y2 (num Z (k * 4)) _ (Lst.of_own (TI.below hHv).one) (Lst.of_own (TI.below hHv).two) (by omega) (by omega)).mono ?_
          rintro e vc ⟨⟨s4, f4, ok4, hrel4, rfl⟩, hb4⟩
          rw [HBK.out, ← HZ.out] at hrel4
          have hsum := HREST.out k (by rw [HK.out]; exact hlt) _ _ _ hrel4
          rw [HZ.out] at hsum
          have HSUM := Lib.hid hsum
          clear hsum hrel4
          generalize f4 0 = m0 at *
          generalize f4 1 = m1 at *
          generalize f4 2 = m2 at *
          generalize f4 3 = m3 at *
          refine hK.out _ _ ?hSr8_6 (fun hHeld => ?restr8_6)
          case hSr8_6 => exact hHv.trans (hb4.mono hHv.size)
          clear hK K
          try simp only [Act.put, List.setIfInBounds_toArray, List.set_cons_zero, List.set_cons_succ]
          refine wpAnyH_take (i := 7) (oi := ?oim9) (v := ?vm9) ?him9 (by kernel_rfl) (by kernel_rfl) (by kernel_rfl) ?hQm9 (Or.inl ⟨?hwm9, ?hym9⟩) (by assumption) ?restm9
          case him9 => simp only [List.getElem?_toArray, List.getElem?_cons_succ, List.getElem?_cons_zero]; exact rfl
          case hQm9 => exact fun _ _ _ h => h
          case hwm9 => rfl
          case hym9 => ((intro w hSw; (try dsimp only at hSw); go_simp) <;> with_reducible rfl)
          try simp only [Act.put, List.setIfInBounds_toArray, List.set_cons_zero, List.set_cons_succ]
          refine wpAnyH_take (i := 8) (oi := ?oim10) (v := ?vm10) ?him10 (by kernel_rfl) (by kernel_rfl) (by kernel_rfl) ?hQm10 (Or.inl ⟨?hwm10, ?hym10⟩) (by assumption) ?restm10
          case him10 => simp only [List.getElem?_toArray, List.getElem?_cons_succ, List.getElem?_cons_zero]; exact rfl
          case hQm10 => exact fun _ _ _ h => h
          case hwm10 => rfl
          case hym10 => ((intro w hSw; (try dsimp only at hSw); go_simp) <;> with_reducible rfl)
          try simp only [Act.put, List.setIfInBounds_toArray, List.set_cons_zero, List.set_cons_succ]
          refine wpAnyH_take (i := 9) (oi := ?oim11) (v := ?vm11) ?him11 (by kernel_rfl) (by kernel_rfl) (by kernel_rfl) ?hQm11 (Or.inl ⟨?hwm11, ?hym11⟩) (by assumption) ?restm11
          case him11 => simp only [List.getElem?_toArray, List.getElem?_cons_succ, List.getElem?_cons_zero]; exact rfl
          case hQm11 => exact fun _ _ _ h => h
          case hwm11 => rfl
          case hym11 => ((intro w hSw; (try dsimp only at hSw); go_simp) <;> with_reducible rfl)
          try simp only [Act.put, List.setIfInBounds_toArray, List.set_cons_zero, List.set_cons_succ]
          refine wpAnyH_take (i := 10) (oi := ?oim12) (v := ?vm12) ?him12 (by kernel_rfl) (by kernel_rfl) (by kernel_rfl) ?hQm12 (Or.inl ⟨?hwm12, ?hym12⟩) (by assumption) ?restm12
          case him12 => simp only [List.getElem?_toArray, List.getElem?_cons_succ, List.getElem?_cons_zero]; exact rfl
          case hQm12 => exact fun _ _ _ h => h
          case hwm12 => rfl
          case hym12 => ((intro w hSw; (try dsimp only at hSw); go_simp) <;> with_reducible rfl)
          try simp only [Act.put, List.setIfInBounds_toArray, List.set_cons_zero, List.set_cons_succ]
          refine wpAnyH_ready (rs := [11]) (by kernel_rfl) (by simp) ?_
          refine AllReadyH.cons (o := ?or13_11) ?hor13_11 (fun K hK => ?stepr13_11) (AllReadyH.nil)
          case hor13_11 => simp only [List.getElem?_toArray, List.getElem?_cons_succ, List.getElem?_cons_zero]; exact rfl
          case stepr13_11 =>
            go_simp
            have hG := heap_alloc_new vc (.cells #[.int .i64 0, .int .i64 0, .int .i64 0, .int .i64 0] 28)
            have hHv : Below wr.heap.size wr vc := hHeld
            have hGl : wr.heap.size ≤ vc.heap.size := hHv.size
            have hHa := hHv.alloc hHv.size (.cells #[.int .i64 0, .int .i64 0, .int .i64 0, .int .i64 0] 28)
            generalize vc.alloc (.cells #[.int .i64 0, .int .i64 0, .int .i64 0, .int .i64 0] 28) = va at *
            generalize vc.heap.size = G at *
            refine hK.out _ _ ?hSr13_11 (fun hHeld => ?restr13_11)
            case hSr13_11 => exact hHa
            clear hK K
            try simp only [Act.put, List.setIfInBounds_toArray, List.set_cons_zero, List.set_cons_succ]
            refine wpAnyH_take (i := 12) (oi := ?oim14) (v := ?vm14) ?him14 (by kernel_rfl) (by kernel_rfl) (by kernel_rfl) ?hQm14 (Or.inl ⟨?hwm14, ?hym14⟩) (by assumption) ?restm14
            case him14 => simp only [List.getElem?_toArray, List.getElem?_cons_succ, List.getElem?_cons_zero]; exact rfl
            case hQm14 => exact fun _ _ _ h => h
            case hwm14 => rfl
            case hym14 => ((intro w hSw; (try dsimp only at hSw); go_simp) <;> with_reducible rfl)
            try simp only [Act.put, List.setIfInBounds_toArray, List.set_cons_zero, List.set_cons_succ]
            refine wpAnyH_ready (rs := [13]) (by kernel_rfl) (by simp) ?_
            refine AllReadyH.cons (o := ?or15_13) ?hor15_13 (fun K hK => ?stepr15_13) (AllReadyH.nil)
            case hor15_13 => simp only [List.getElem?_toArray, List.getElem?_cons_succ, List.getElem?_cons_zero]; exact rfl
            case stepr15_13 =>
              obtain ⟨y0, y1, y2, y3, x0, x1, x2, x3⟩ := ord_cell hG
              go_simp
              have hHv : Below wr.heap.size wr va := hHeld
              have hG2 := ord_put (u0 := .int .i64 m0) (u1 := .int .i64 m1) (u2 := .int .i64 m2) (u3 := .int .i64 m3) hG
              refine hK.out _ _ ?hSr15_13 (fun hHeld => ?restr15_13)
              case hSr15_13 => exact (((hHv.setCell (p := ⟨G, 0, none⟩) hGl _).setCell (p := ⟨G, 1, none⟩) hGl _).setCell (p := ⟨G, 2, none⟩) hGl _).setCell (p := ⟨G, 3, none⟩) hGl _
              clear hK K
              try simp only [Act.put, List.setIfInBounds_toArray, List.set_cons_zero, List.set_cons_succ]
              refine wpAnyH_take (i := 14) (oi := ?oim16) (v := ?vm16) ?him16 (by kernel_rfl) (by kernel_rfl) (by kernel_rfl) ?hQm16 (Or.inl ⟨?hwm16, ?hym16⟩) (by assumption) ?restm16
              case him16 => simp only [List.getElem?_toArray, List.getElem?_cons_succ, List.getElem?_cons_zero]; exact rfl
              case hQm16 => exact fun _ _ _ h => h
              case hwm16 => rfl
              case hym16 => ((intro w hSw; (try dsimp only at hSw); go_simp) <;> with_reducible rfl)
              try simp only [Act.put, List.setIfInBounds_toArray, List.set_cons_zero, List.set_cons_succ]
              refine wpAnyH_done (by kernel_rfl) ?_ _
              go_upto_region 13 with fail
              have hHz : Below wr.heap.size wr (((((va.setCell ⟨G, 0, none⟩ (.int .i64 m0)).setCell ⟨G, 1, none⟩ (.int .i64 m1)).setCell ⟨G, 2, none⟩ (.int .i64 m2))).setCell ⟨G, 3, none⟩ (.int .i64 m3)) := hHeld
              clear hHeld y0 y1 y2 y3 x0 x1 x2 x3 hG
              generalize (((((va.setCell ⟨G, 0, none⟩ (.int .i64 m0)).setCell ⟨G, 1, none⟩ (.int .i64 m1)).setCell ⟨G, 2, none⟩ (.int .i64 m2))).setCell ⟨G, 3, none⟩ (.int .i64 m3)) = wz at *
              obtain ⟨y0, y1, y2, y3, -⟩ := ord_cell hG2
              have hlG := heap_lt hG2
              have HBV := Lib.hid (show Below w8.heap.size w8 wz from hbr.trans (hHz.mono hbr.size))
              have hboz : b < wz.heap.size := Nat.lt_of_lt_of_le hbo hHz.size
              replace RI := own_below RI hHz
              replace c0 := (hHz.cell (p := ⟨b, o + k * 4, none⟩) hbo).trans c0
              replace c3 := (hHz.cell (p := ⟨b, o + k * 4 + 3, none⟩) hbo).trans c3
              clear hHz hG2 hbr p0 p1
              have HF := Lib.hid (filledI_yes (id := num Z (k * 4)) HOKR.out)
              have hsf := sumTo_le (id := num Z (k * 4)) N3 HOKR.out
              have hsk := kindTo_le (kind := 4) (id := num Z (k * 4)) N3 HOKR.out
              have hqt := HR.out.qty k (by rw [HK.out]; exact hlt)
              rw [HZ.out] at hqt
              have hsm := HSUM.out
              generalize hfs : sumTo RR (num Z (k * 4)) N3 = fs at *
              generalize hks : kindTo RR 4 (num Z (k * 4)) N3 = ks at *
              have HKS := Lib.hid hks
              clear hks hfs
              have hw1 : IntKind.i64.wrap (fs + ks) = fs + ks := by rw [IntKind.wrap_i64]; omega
              have hw2 : IntKind.i64.wrap (fs + ks + m3) = fs + ks + m3 := by rw [IntKind.wrap_i64]; omega
              have hw3 : (fs + ks + m3 != num Z (k * 4 + 3)) = false := by rw [hsm]; simp
              clear hsm
              refine wp_region_held_drew (S := (fun w' => Below wz.heap.size wz w')) (by kernel_rfl) ?hSm17 (fun hHeld => ?restm17)
              case hSm17 => exact (Below.refl _ _).drew
              refine wpAnyH_take (i := 0) (oi := ?oim18) (v := ?vm18) ?him18 (by kernel_rfl) (by kernel_rfl) (by kernel_rfl) ?hQm18 (Or.inl ⟨?hwm18, ?hym18⟩) (by assumption) ?restm18
              case him18 => simp only [List.getElem?_toArray, List.getElem?_cons_succ, List.getElem?_cons_zero]; exact rfl
              case hQm18 => exact fun _ _ _ h => h
              case hwm18 => rfl
              case hym18 => ((intro w hSw; (try dsimp only at hSw); go_simp) <;> with_reducible rfl)
              try simp only [Act.put, List.setIfInBounds_toArray, List.set_cons_zero, List.set_cons_succ]
              refine wpAnyH_take (i := 1) (oi := ?oim19) (v := ?vm19) ?him19 (by kernel_rfl) (by kernel_rfl) (by kernel_rfl) ?hQm19 (Or.inl ⟨?hwm19, ?hym19⟩) (by assumption) ?restm19
              case him19 => simp only [List.getElem?_toArray, List.getElem?_cons_succ, List.getElem?_cons_zero]; exact rfl
              case hQm19 => exact fun _ _ _ h => h
              case hwm19 => rfl
              case hym19 => ((intro w hSw; (try dsimp only at hSw); go_simp) <;> with_reducible rfl)
              try simp only [Act.put, List.setIfInBounds_toArray, List.set_cons_zero, List.set_cons_succ]
              refine wpAnyH_take (i := 2) (oi := ?oim20) (v := ?vm20) ?him20 (by kernel_rfl) (by kernel_rfl) (by kernel_rfl) ?hQm20 (Or.inl ⟨?hwm20, ?hym20⟩) (by assumption) ?restm20
              case him20 => simp only [List.getElem?_toArray, List.getElem?_cons_succ, List.getElem?_cons_zero]; exact rfl
              case hQm20 => exact fun _ _ _ h => h
              case hwm20 => rfl
              case hym20 => ((intro w hSw; (try dsimp only at hSw); go_simp) <;> with_reducible rfl)
              try simp only [Act.put, List.setIfInBounds_toArray, List.set_cons_zero, List.set_cons_succ]
              refine wpAnyH_take (i := 3) (oi := ?oim21) (v := ?vm21) ?him21 (by kernel_rfl) (by kernel_rfl) (by kernel_rfl) ?hQm21 (Or.inl ⟨?hwm21, ?hym21⟩) (by assumption) ?restm21
              case him21 => simp only [List.getElem?_toArray, List.getElem?_cons_succ, List.getElem?_cons_zero]; exact rfl
              case hQm21 => exact fun _ _ _ h => h
              case hwm21 => rfl
              case hym21 => ((intro w hSw; (try dsimp only at hSw); go_simp) <;> with_reducible rfl)
              try simp only [Act.put, List.setIfInBounds_toArray, List.set_cons_zero, List.set_cons_succ]
              refine wpAnyH_take (i := 4) (oi := ?oim22) (v := ?vm22) ?him22 (by kernel_rfl) (by kernel_rfl) (by kernel_rfl) ?hQm22 (Or.inl ⟨?hwm22, ?hym22⟩) (by assumption) ?restm22
              case him22 => simp only [List.getElem?_toArray, List.getElem?_cons_succ, List.getElem?_cons_zero]; exact rfl
              case hQm22 => exact fun _ _ _ h => h
              case hwm22 => rfl
              case hym22 => ((intro w hSw; (try dsimp only at hSw); go_simp) <;> with_reducible rfl)
              try simp only [Act.put, List.setIfInBounds_toArray, List.set_cons_zero, List.set_cons_succ]
              refine wpAnyH_take (i := 5) (oi := ?oim23) (v := ?vm23) ?him23 (by kernel_rfl) (by kernel_rfl) (by kernel_rfl) ?hQm23 (Or.inl ⟨?hwm23, ?hym23⟩) (by assumption) ?restm23
              case him23 => simp only [List.getElem?_toArray, List.getElem?_cons_succ, List.getElem?_cons_zero]; exact rfl
              case hQm23 => exact fun _ _ _ h => h
              case hwm23 => rfl
              case hym23 => ((intro w hSw; have t0 := (hSw.cell (p := ⟨b, o + k * 4, none⟩) hboz).trans c0; go_simp) <;> with_reducible rfl)
              try simp only [Act.put, List.setIfInBounds_toArray, List.set_cons_zero, List.set_cons_succ]
              refine wpAnyH_take (i := 7) (oi := ?oim24) (v := ?vm24) ?him24 (by kernel_rfl) (by kernel_rfl) (by kernel_rfl) ?hQm24 (Or.inl ⟨?hwm24, ?hym24⟩) (by assumption) ?restm24
              case him24 => simp only [List.getElem?_toArray, List.getElem?_cons_succ, List.getElem?_cons_zero]; exact rfl
              case hQm24 => exact fun _ _ _ h => h
              case hwm24 => rfl
              case hym24 => ((intro w hSw; (try dsimp only at hSw); go_simp) <;> with_reducible rfl)
              try simp only [Act.put, List.setIfInBounds_toArray, List.set_cons_zero, List.set_cons_succ]
              refine wpAnyH_take (i := 8) (oi := ?oim25) (v := ?vm25) ?him25 (by kernel_rfl) (by kernel_rfl) (by kernel_rfl) ?hQm25 (Or.inl ⟨?hwm25, ?hym25⟩) (by assumption) ?restm25
              case him25 => simp only [List.getElem?_toArray, List.getElem?_cons_succ, List.getElem?_cons_zero]; exact rfl
              case hQm25 => exact fun _ _ _ h => h
              case hwm25 => rfl
              case hym25 => ((intro w hSw; (try dsimp only at hSw); go_simp) <;> with_reducible rfl)
              try simp only [Act.put, List.setIfInBounds_toArray, List.set_cons_zero, List.set_cons_succ]
              refine wpAnyH_take (i := 9) (oi := ?oim26) (v := ?vm26) ?him26 (by kernel_rfl) (by kernel_rfl) (by kernel_rfl) ?hQm26 (Or.inl ⟨?hwm26, ?hym26⟩) (by assumption) ?restm26
              case him26 => simp only [List.getElem?_toArray, List.getElem?_cons_succ, List.getElem?_cons_zero]; exact rfl
              case hQm26 => exact fun _ _ _ h => h
              case hwm26 => rfl
              case hym26 => ((intro w hSw; (try dsimp only at hSw); go_simp) <;> with_reducible rfl)
              try simp only [Act.put, List.setIfInBounds_toArray, List.set_cons_zero, List.set_cons_succ]
              refine wpAnyH_take (i := 10) (oi := ?oim27) (v := ?vm27) ?him27 (by kernel_rfl) (by kernel_rfl) (by kernel_rfl) ?hQm27 (Or.inl ⟨?hwm27, ?hym27⟩) (by assumption) ?restm27
              case him27 => simp only [List.getElem?_toArray, List.getElem?_cons_succ, List.getElem?_cons_zero]; exact rfl
              case hQm27 => exact fun _ _ _ h => h
              case hwm27 => rfl
              case hym27 => ((intro w hSw; (try dsimp only at hSw); go_simp) <;> with_reducible rfl)
              try simp only [Act.put, List.setIfInBounds_toArray, List.set_cons_zero, List.set_cons_succ]
              refine wpAnyH_take (i := 11) (oi := ?oim28) (v := ?vm28) ?him28 (by kernel_rfl) (by kernel_rfl) (by kernel_rfl) ?hQm28 (Or.inl ⟨?hwm28, ?hym28⟩) (by assumption) ?restm28
              case him28 => simp only [List.getElem?_toArray, List.getElem?_cons_succ, List.getElem?_cons_zero]; exact rfl
              case hQm28 => exact fun _ _ _ h => h
              case hwm28 => rfl
              case hym28 => ((intro w hSw; (try dsimp only at hSw); go_simp) <;> with_reducible rfl)
              try simp only [Act.put, List.setIfInBounds_toArray, List.set_cons_zero, List.set_cons_succ]
              refine wpAnyH_take (i := 12) (oi := ?oim29) (v := ?vm29) ?him29 (by kernel_rfl) (by kernel_rfl) (by kernel_rfl) ?hQm29 (Or.inl ⟨?hwm29, ?hym29⟩) (by assumption) ?restm29
              case him29 => simp only [List.getElem?_toArray, List.getElem?_cons_succ, List.getElem?_cons_zero]; exact rfl
              case hQm29 => exact fun _ _ _ h => h
              case hwm29 => rfl
              case hym29 => ((intro w hSw; have t0 := (hSw.cell (p := ⟨b, o + k * 4, none⟩) hboz).trans c0; go_simp) <;> with_reducible rfl)
              try simp only [Act.put, List.setIfInBounds_toArray, List.set_cons_zero, List.set_cons_succ]
              refine wpAnyH_take (i := 15) (oi := ?oim30) (v := ?vm30) ?him30 (by kernel_rfl) (by kernel_rfl) (by kernel_rfl) ?hQm30 (Or.inl ⟨?hwm30, ?hym30⟩) (by assumption) ?restm30
              case him30 => simp only [List.getElem?_toArray, List.getElem?_cons_succ, List.getElem?_cons_zero]; exact rfl
              case hQm30 => exact fun _ _ _ h => h
              case hwm30 => rfl
              case hym30 => ((intro w hSw; (try dsimp only at hSw); go_simp) <;> with_reducible rfl)
              try simp only [Act.put, List.setIfInBounds_toArray, List.set_cons_zero, List.set_cons_succ]
              refine wpAnyH_take (i := 16) (oi := ?oim31) (v := ?vm31) ?him31 (by kernel_rfl) (by kernel_rfl) (by kernel_rfl) ?hQm31 (Or.inl ⟨?hwm31, ?hym31⟩) (by assumption) ?restm31
              case him31 => simp only [List.getElem?_toArray, List.getElem?_cons_succ, List.getElem?_cons_zero]; exact rfl
              case hQm31 => exact fun _ _ _ h => h
              case hwm31 => rfl
              case hym31 => ((intro w hSw; have t0 := (hSw.cell (p := ⟨G, 3, none⟩) hlG).trans y3; go_simp) <;> with_reducible rfl)
              try simp only [Act.put, List.setIfInBounds_toArray, List.set_cons_zero, List.set_cons_succ]
              refine wpAnyH_take (i := 18) (oi := ?oim32) (v := ?vm32) ?him32 (by kernel_rfl) (by kernel_rfl) (by kernel_rfl) ?hQm32 (Or.inl ⟨?hwm32, ?hym32⟩) (by assumption) ?restm32
              case him32 => simp only [List.getElem?_toArray, List.getElem?_cons_succ, List.getElem?_cons_zero]; exact rfl
              case hQm32 => exact fun _ _ _ h => h
              case hwm32 => rfl
              case hym32 => ((intro w hSw; (try dsimp only at hSw); go_simp) <;> with_reducible rfl)
              try simp only [Act.put, List.setIfInBounds_toArray, List.set_cons_zero, List.set_cons_succ]
              refine wpAnyH_take (i := 19) (oi := ?oim33) (v := ?vm33) ?him33 (by kernel_rfl) (by kernel_rfl) (by kernel_rfl) ?hQm33 (Or.inl ⟨?hwm33, ?hym33⟩) (by assumption) ?restm33
              case him33 => simp only [List.getElem?_toArray, List.getElem?_cons_succ, List.getElem?_cons_zero]; exact rfl
              case hQm33 => exact fun _ _ _ h => h
              case hwm33 => rfl
              case hym33 => ((intro w hSw; (try dsimp only at hSw); go_simp) <;> with_reducible rfl)
              try simp only [Act.put, List.setIfInBounds_toArray, List.set_cons_zero, List.set_cons_succ]
              refine wpAnyH_take (i := 20) (oi := ?oim34) (v := ?vm34) ?him34 (by kernel_rfl) (by kernel_rfl) (by kernel_rfl) ?hQm34 (Or.inl ⟨?hwm34, ?hym34⟩) (by assumption) ?restm34
              case him34 => simp only [List.getElem?_toArray, List.getElem?_cons_succ, List.getElem?_cons_zero]; exact rfl
              case hQm34 => exact fun _ _ _ h => h
              case hwm34 => rfl
              case hym34 => ((intro w hSw; (try dsimp only at hSw); go_simp) <;> with_reducible rfl)
              try simp only [Act.put, List.setIfInBounds_toArray, List.set_cons_zero, List.set_cons_succ]
              refine wpAnyH_take (i := 21) (oi := ?oim35) (v := ?vm35) ?him35 (by kernel_rfl) (by kernel_rfl) (by kernel_rfl) ?hQm35 (Or.inl ⟨?hwm35, ?hym35⟩) (by assumption) ?restm35
              case him35 => simp only [List.getElem?_toArray, List.getElem?_cons_succ, List.getElem?_cons_zero]; exact rfl
              case hQm35 => exact fun _ _ _ h => h
              case hwm35 => rfl
              case hym35 => ((intro w hSw; (try dsimp only at hSw); go_simp) <;> with_reducible rfl)
              try simp only [Act.put, List.setIfInBounds_toArray, List.set_cons_zero, List.set_cons_succ]
              refine wpAnyH_take (i := 22) (oi := ?oim36) (v := ?vm36) ?him36 (by kernel_rfl) (by kernel_rfl) (by kernel_rfl) ?hQm36 (Or.inl ⟨?hwm36, ?hym36⟩) (by assumption) ?restm36
              case him36 => simp only [List.getElem?_toArray, List.getElem?_cons_succ, List.getElem?_cons_zero]; exact rfl
              case hQm36 => exact fun _ _ _ h => h
              case hwm36 => rfl
              case hym36 => ((intro w hSw; have t0 := (hSw.cell (p := ⟨b, o + k * 4 + 3, none⟩) hboz).trans c3; go_simp) <;> with_reducible rfl)
              try simp only [Act.put, List.setIfInBounds_toArray, List.set_cons_zero, List.set_cons_succ]
              refine wpAnyH_ready (rs := [6]) (by kernel_rfl) (by simp) ?_
              refine AllReadyH.cons (o := ?or37_6) ?hor37_6 (fun K hK => ?stepr37_6) (AllReadyH.nil)
              case hor37_6 => simp only [List.getElem?_toArray, List.getElem?_cons_succ, List.getElem?_cons_zero]; exact rfl
              case stepr37_6 =>
                go_simp
                refine (impl_Filled EI N3 eI RR (num Z (k * 4)) _ (Lst.of_own (own_below RI hHeld)) (by omega)).mono ?_
                rw [HF.out]
                rintro e v5 ⟨rfl, hb5⟩
                have hB5 : Below wz.heap.size wz v5 := Below.trans hHeld (hb5.mono (Below.size hHeld))
                refine hK.out _ _ ?hSr37_6 (fun hHeld => ?restr37_6)
                case hSr37_6 => exact hB5
                clear hK K
                try simp only [Act.put, List.setIfInBounds_toArray, List.set_cons_zero, List.set_cons_succ]
                refine wpAnyH_ready (rs := [13]) (by kernel_rfl) (by simp) ?_
                refine AllReadyH.cons (o := ?or38_13) ?hor38_13 (fun K hK => ?stepr38_13) (AllReadyH.nil)
                case hor38_13 => simp only [List.getElem?_toArray, List.getElem?_cons_succ, List.getElem?_cons_zero]; exact rfl
                case stepr38_13 =>
                  go_simp
                  refine (sumOf_any EI N3 eI RR 4 (num Z (k * 4)) v5 (Lst.of_own (own_below RI hB5)) (by omega) HOKR.out).mono ?_
                  rw [HKS.out]
                  rintro e v6 ⟨rfl, hb6⟩
                  have hB6 := hB5.trans (hb6.mono hB5.size)
                  refine hK.out _ _ ?hSr38_13 (fun hHeld => ?restr38_13)
                  case hSr38_13 => exact hB6
                  clear hK K
                  try simp only [Act.put, List.setIfInBounds_toArray, List.set_cons_zero, List.set_cons_succ]
                  refine wpAnyH_take (i := 14) (oi := ?oim39) (v := ?vm39) ?him39 (by kernel_rfl) (by kernel_rfl) (by kernel_rfl) ?hQm39 (Or.inl ⟨?hwm39, ?hym39⟩) (by assumption) ?restm39
                  case him39 => simp only [List.getElem?_toArray, List.getElem?_cons_succ, List.getElem?_cons_zero]; exact rfl
                  case hQm39 => exact fun _ _ _ h => h
                  case hwm39 => rfl
                  case hym39 => ((intro w hSw; (try dsimp only at hSw); go_simp) <;> with_reducible rfl)
                  try simp only [Act.put, List.setIfInBounds_toArray, List.set_cons_zero, List.set_cons_succ]
                  refine wpAnyH_take (i := 17) (oi := ?oim40) (v := ?vm40) ?him40 (by kernel_rfl) (by kernel_rfl) (by kernel_rfl) ?hQm40 (Or.inl ⟨?hwm40, ?hym40⟩) (by assumption) ?restm40
                  case him40 => simp only [List.getElem?_toArray, List.getElem?_cons_succ, List.getElem?_cons_zero]; exact rfl
                  case hQm40 => exact fun _ _ _ h => h
                  case hwm40 => rfl
                  case hym40 => ((intro w hSw; (try dsimp only at hSw); go_simp) <;> with_reducible rfl)
                  try simp only [Act.put, List.setIfInBounds_toArray, List.set_cons_zero, List.set_cons_succ]
                  refine wpAnyH_take (i := 23) (oi := ?oim41) (v := ?vm41) ?him41 (by kernel_rfl) (by kernel_rfl) (by kernel_rfl) ?hQm41 (Or.inl ⟨?hwm41, ?hym41⟩) (by assumption) ?restm41
                  case him41 => simp only [List.getElem?_toArray, List.getElem?_cons_succ, List.getElem?_cons_zero]; exact rfl
                  case hQm41 => exact fun _ _ _ h => h
                  case hwm41 => rfl
                  case hym41 => ((intro w hSw; (try dsimp only at hSw); go_simp) <;> with_reducible rfl)
                  try simp only [Act.put, List.setIfInBounds_toArray, List.set_cons_zero, List.set_cons_succ]
                  refine wpAnyH_done (by kernel_rfl) ?_ _
                  have HBW := Lib.hid (HBV.out.trans (hB6.mono HBV.out.size))
                  clear hHeld hB5 hB6 hb5 hb6
                  go_wp2_with fail
                  go_roundw
                  case rel => exact ⟨k + 1, by omega, by go_num, HBW.out⟩
                  case measure => simp [intOf]; omega
        case stepr8_11 =>
          go_simp
          have hG : (wr.alloc (.cells #[.int .i64 0, .int .i64 0, .int .i64 0, .int .i64 0] 28)).drew.heap[wr.heap.size]? = _ := heap_alloc_new wr (.cells #[.int .i64 0, .int .i64 0, .int .i64 0, .int .i64 0] 28)
          have hGl : wr.heap.size ≤ wr.heap.size := Nat.le_refl _
          have hHa : Below wr.heap.size wr (wr.alloc (.cells #[.int .i64 0, .int .i64 0, .int .i64 0, .int .i64 0] 28)).drew := ((Below.refl _ _).alloc (Nat.le_refl _) (.cells #[.int .i64 0, .int .i64 0, .int .i64 0, .int .i64 0] 28)).drew
          generalize (wr.alloc (.cells #[.int .i64 0, .int .i64 0, .int .i64 0, .int .i64 0] 28)).drew = va at *
          refine hK.out _ _ ?hSr8_11 (fun hHeld => ?restr8_11)
          case hSr8_11 => exact hHa
          clear hK K
          try simp only [Act.put, List.setIfInBounds_toArray, List.set_cons_zero, List.set_cons_succ]
          refine wpAnyH_ready (rs := [6]) (by kernel_rfl) (by simp) ?_
          refine AllReadyH.cons (o := ?or42_6) ?hor42_6 (fun K hK => ?stepr42_6) (AllReadyH.nil)
          case hor42_6 => simp only [List.getElem?_toArray, List.getElem?_cons_succ, List.getElem?_cons_zero]; exact rfl
          case stepr42_6 =>
            go_simp
            have hHv : Below wr.heap.size wr va := hHeld
            refine (impl_Find BI N1 bI CI N2 cI Y1 Y2 (num Z (k * 4)) _ (Lst.of_own (TI.below hHv).one) (Lst.of_own (TI.below hHv).two) (by omega) (by omega)).mono ?_
            rintro e vc ⟨⟨s4, f4, ok4, hrel4, rfl⟩, hb4⟩
            rw [HBK.out, ← HZ.out] at hrel4
            have hsum := HREST.out k (by rw [HK.out]; exact hlt) _ _ _ hrel4
            rw [HZ.out] at hsum
            have HSUM := Lib.hid hsum
            clear hsum hrel4
            generalize f4 0 = m0 at *
            generalize f4 1 = m1 at *
            generalize f4 2 = m2 at *
            generalize f4 3 = m3 at *
            replace hG := (hb4.block _ (heap_lt hG)).trans hG
            refine hK.out _ _ ?hSr42_6 (fun hHeld => ?restr42_6)
            case hSr42_6 => exact hHv.trans (hb4.mono hHv.size)
            clear hK K
            try simp only [Act.put, List.setIfInBounds_toArray, List.set_cons_zero, List.set_cons_succ]
            refine wpAnyH_take (i := 7) (oi := ?oim43) (v := ?vm43) ?him43 (by kernel_rfl) (by kernel_rfl) (by kernel_rfl) ?hQm43 (Or.inl ⟨?hwm43, ?hym43⟩) (by assumption) ?restm43
            case him43 => simp only [List.getElem?_toArray, List.getElem?_cons_succ, List.getElem?_cons_zero]; exact rfl
            case hQm43 => exact fun _ _ _ h => h
            case hwm43 => rfl
            case hym43 => ((intro w hSw; (try dsimp only at hSw); go_simp) <;> with_reducible rfl)
            try simp only [Act.put, List.setIfInBounds_toArray, List.set_cons_zero, List.set_cons_succ]
            refine wpAnyH_take (i := 8) (oi := ?oim44) (v := ?vm44) ?him44 (by kernel_rfl) (by kernel_rfl) (by kernel_rfl) ?hQm44 (Or.inl ⟨?hwm44, ?hym44⟩) (by assumption) ?restm44
            case him44 => simp only [List.getElem?_toArray, List.getElem?_cons_succ, List.getElem?_cons_zero]; exact rfl
            case hQm44 => exact fun _ _ _ h => h
            case hwm44 => rfl
            case hym44 => ((intro w hSw; (try dsimp only at hSw); go_simp) <;> with_reducible rfl)
            try simp only [Act.put, List.setIfInBounds_toArray, List.set_cons_zero, List.set_cons_succ]
            refine wpAnyH_take (i := 9) (oi := ?oim45) (v := ?vm45) ?him45 (by kernel_rfl) (by kernel_rfl) (by kernel_rfl) ?hQm45 (Or.inl ⟨?hwm45, ?hym45⟩) (by assumption) ?restm45
            case him45 => simp only [List.getElem?_toArray, List.getElem?_cons_succ, List.getElem?_cons_zero]; exact rfl
            case hQm45 => exact fun _ _ _ h => h
            case hwm45 => rfl
            case hym45 => ((intro w hSw; (try dsimp only at hSw); go_simp) <;> with_reducible rfl)
            try simp only [Act.put, List.setIfInBounds_toArray, List.set_cons_zero, List.set_cons_succ]
            refine wpAnyH_take (i := 10) (oi := ?oim46) (v := ?vm46) ?him46 (by kernel_rfl) (by kernel_rfl) (by kernel_rfl) ?hQm46 (Or.inl ⟨?hwm46, ?hym46⟩) (by assumption) ?restm46
            case him46 => simp only [List.getElem?_toArray, List.getElem?_cons_succ, List.getElem?_cons_zero]; exact rfl
            case hQm46 => exact fun _ _ _ h => h
            case hwm46 => rfl
            case hym46 => ((intro w hSw; (try dsimp only at hSw); go_simp) <;> with_reducible rfl)
            try simp only [Act.put, List.setIfInBounds_toArray, List.set_cons_zero, List.set_cons_succ]
            refine wpAnyH_take (i := 12) (oi := ?oim47) (v := ?vm47) ?him47 (by kernel_rfl) (by kernel_rfl) (by kernel_rfl) ?hQm47 (Or.inl ⟨?hwm47, ?hym47⟩) (by assumption) ?restm47
            case him47 => simp only [List.getElem?_toArray, List.getElem?_cons_succ, List.getElem?_cons_zero]; exact rfl
            case hQm47 => exact fun _ _ _ h => h
            case hwm47 => rfl
            case hym47 => ((intro w hSw; (try dsimp only at hSw); go_simp) <;> with_reducible rfl)
            try simp only [Act.put, List.setIfInBounds_toArray, List.set_cons_zero, List.set_cons_succ]
            refine wpAnyH_ready (rs := [13]) (by kernel_rfl) (by simp) ?_
            refine AllReadyH.cons (o := ?or48_13) ?hor48_13 (fun K hK => ?stepr48_13) (AllReadyH.nil)
            case hor48_13 => simp only [List.getElem?_toArray, List.getElem?_cons_succ, List.getElem?_cons_zero]; exact rfl
            case stepr48_13 =>
              obtain ⟨y0, y1, y2, y3, x0, x1, x2, x3⟩ := ord_cell hG
              go_simp
              have hHv : Below wr.heap.size wr vc := hHeld
              have hG2 := ord_put (u0 := .int .i64 m0) (u1 := .int .i64 m1) (u2 := .int .i64 m2) (u3 := .int .i64 m3) hG
              refine hK.out _ _ ?hSr48_13 (fun hHeld => ?restr48_13)
              case hSr48_13 => exact (((hHv.setCell (p := ⟨wr.heap.size, 0, none⟩) hGl _).setCell (p := ⟨wr.heap.size, 1, none⟩) hGl _).setCell (p := ⟨wr.heap.size, 2, none⟩) hGl _).setCell (p := ⟨wr.heap.size, 3, none⟩) hGl _
              clear hK K
              try simp only [Act.put, List.setIfInBounds_toArray, List.set_cons_zero, List.set_cons_succ]
              refine wpAnyH_take (i := 14) (oi := ?oim49) (v := ?vm49) ?him49 (by kernel_rfl) (by kernel_rfl) (by kernel_rfl) ?hQm49 (Or.inl ⟨?hwm49, ?hym49⟩) (by assumption) ?restm49
              case him49 => simp only [List.getElem?_toArray, List.getElem?_cons_succ, List.getElem?_cons_zero]; exact rfl
              case hQm49 => exact fun _ _ _ h => h
              case hwm49 => rfl
              case hym49 => ((intro w hSw; (try dsimp only at hSw); go_simp) <;> with_reducible rfl)
              try simp only [Act.put, List.setIfInBounds_toArray, List.set_cons_zero, List.set_cons_succ]
              refine wpAnyH_done (by kernel_rfl) ?_ _
              go_upto_region 13 with fail
              have hHz : Below wr.heap.size wr (((((vc.setCell ⟨wr.heap.size, 0, none⟩ (.int .i64 m0)).setCell ⟨wr.heap.size, 1, none⟩ (.int .i64 m1)).setCell ⟨wr.heap.size, 2, none⟩ (.int .i64 m2))).setCell ⟨wr.heap.size, 3, none⟩ (.int .i64 m3)) := hHeld
              clear hHeld y0 y1 y2 y3 x0 x1 x2 x3 hG
              generalize (((((vc.setCell ⟨wr.heap.size, 0, none⟩ (.int .i64 m0)).setCell ⟨wr.heap.size, 1, none⟩ (.int .i64 m1)).setCell ⟨wr.heap.size, 2, none⟩ (.int .i64 m2))).setCell ⟨wr.heap.size, 3, none⟩ (.int .i64 m3)) = wz at *
              obtain ⟨y0, y1, y2, y3, -⟩ := ord_cell hG2
              have hlG := heap_lt hG2
              have HBV := Lib.hid (show Below w8.heap.size w8 wz from hbr.trans (hHz.mono hbr.size))
              have hboz : b < wz.heap.size := Nat.lt_of_lt_of_le hbo hHz.size
              replace RI := own_below RI hHz
              replace c0 := (hHz.cell (p := ⟨b, o + k * 4, none⟩) hbo).trans c0
              replace c3 := (hHz.cell (p := ⟨b, o + k * 4 + 3, none⟩) hbo).trans c3
              clear hHz hG2 hbr p0 p1
              have HF := Lib.hid (filledI_yes (id := num Z (k * 4)) HOKR.out)
              have hsf := sumTo_le (id := num Z (k * 4)) N3 HOKR.out
              have hsk := kindTo_le (kind := 4) (id := num Z (k * 4)) N3 HOKR.out
              have hqt := HR.out.qty k (by rw [HK.out]; exact hlt)
              rw [HZ.out] at hqt
              have hsm := HSUM.out
              generalize hfs : sumTo RR (num Z (k * 4)) N3 = fs at *
              generalize hks : kindTo RR 4 (num Z (k * 4)) N3 = ks at *
              have HKS := Lib.hid hks
              clear hks hfs
              have hw1 : IntKind.i64.wrap (fs + ks) = fs + ks := by rw [IntKind.wrap_i64]; omega
              have hw2 : IntKind.i64.wrap (fs + ks + m3) = fs + ks + m3 := by rw [IntKind.wrap_i64]; omega
              have hw3 : (fs + ks + m3 != num Z (k * 4 + 3)) = false := by rw [hsm]; simp
              clear hsm
              refine wp_region_held_drew (S := (fun w' => Below wz.heap.size wz w')) (by kernel_rfl) ?hSm50 (fun hHeld => ?restm50)
              case hSm50 => exact (Below.refl _ _).drew
              refine wpAnyH_take (i := 0) (oi := ?oim51) (v := ?vm51) ?him51 (by kernel_rfl) (by kernel_rfl) (by kernel_rfl) ?hQm51 (Or.inl ⟨?hwm51, ?hym51⟩) (by assumption) ?restm51
              case him51 => simp only [List.getElem?_toArray, List.getElem?_cons_succ, List.getElem?_cons_zero]; exact rfl
              case hQm51 => exact fun _ _ _ h => h
              case hwm51 => rfl
              case hym51 => ((intro w hSw; (try dsimp only at hSw); go_simp) <;> with_reducible rfl)
              try simp only [Act.put, List.setIfInBounds_toArray, List.set_cons_zero, List.set_cons_succ]
              refine wpAnyH_take (i := 1) (oi := ?oim52) (v := ?vm52) ?him52 (by kernel_rfl) (by kernel_rfl) (by kernel_rfl) ?hQm52 (Or.inl ⟨?hwm52, ?hym52⟩) (by assumption) ?restm52
              case him52 => simp only [List.getElem?_toArray, List.getElem?_cons_succ, List.getElem?_cons_zero]; exact rfl
              case hQm52 => exact fun _ _ _ h => h
              case hwm52 => rfl
              case hym52 => ((intro w hSw; (try dsimp only at hSw); go_simp) <;> with_reducible rfl)
              try simp only [Act.put, List.setIfInBounds_toArray, List.set_cons_zero, List.set_cons_succ]
              refine wpAnyH_take (i := 2) (oi := ?oim53) (v := ?vm53) ?him53 (by kernel_rfl) (by kernel_rfl) (by kernel_rfl) ?hQm53 (Or.inl ⟨?hwm53, ?hym53⟩) (by assumption) ?restm53
              case him53 => simp only [List.getElem?_toArray, List.getElem?_cons_succ, List.getElem?_cons_zero]; exact rfl
              case hQm53 => exact fun _ _ _ h => h
              case hwm53 => rfl
              case hym53 => ((intro w hSw; (try dsimp only at hSw); go_simp) <;> with_reducible rfl)
              try simp only [Act.put, List.setIfInBounds_toArray, List.set_cons_zero, List.set_cons_succ]
              refine wpAnyH_take (i := 3) (oi := ?oim54) (v := ?vm54) ?him54 (by kernel_rfl) (by kernel_rfl) (by kernel_rfl) ?hQm54 (Or.inl ⟨?hwm54, ?hym54⟩) (by assumption) ?restm54
              case him54 => simp only [List.getElem?_toArray, List.getElem?_cons_succ, List.getElem?_cons_zero]; exact rfl
              case hQm54 => exact fun _ _ _ h => h
              case hwm54 => rfl
              case hym54 => ((intro w hSw; (try dsimp only at hSw); go_simp) <;> with_reducible rfl)
              try simp only [Act.put, List.setIfInBounds_toArray, List.set_cons_zero, List.set_cons_succ]
              refine wpAnyH_take (i := 4) (oi := ?oim55) (v := ?vm55) ?him55 (by kernel_rfl) (by kernel_rfl) (by kernel_rfl) ?hQm55 (Or.inl ⟨?hwm55, ?hym55⟩) (by assumption) ?restm55
              case him55 => simp only [List.getElem?_toArray, List.getElem?_cons_succ, List.getElem?_cons_zero]; exact rfl
              case hQm55 => exact fun _ _ _ h => h
              case hwm55 => rfl
              case hym55 => ((intro w hSw; (try dsimp only at hSw); go_simp) <;> with_reducible rfl)
              try simp only [Act.put, List.setIfInBounds_toArray, List.set_cons_zero, List.set_cons_succ]
              refine wpAnyH_take (i := 5) (oi := ?oim56) (v := ?vm56) ?him56 (by kernel_rfl) (by kernel_rfl) (by kernel_rfl) ?hQm56 (Or.inl ⟨?hwm56, ?hym56⟩) (by assumption) ?restm56
              case him56 => simp only [List.getElem?_toArray, List.getElem?_cons_succ, List.getElem?_cons_zero]; exact rfl
              case hQm56 => exact fun _ _ _ h => h
              case hwm56 => rfl
              case hym56 => ((intro w hSw; have t0 := (hSw.cell (p := ⟨b, o + k * 4, none⟩) hboz).trans c0; go_simp) <;> with_reducible rfl)
              try simp only [Act.put, List.setIfInBounds_toArray, List.set_cons_zero, List.set_cons_succ]
              refine wpAnyH_take (i := 7) (oi := ?oim57) (v := ?vm57) ?him57 (by kernel_rfl) (by kernel_rfl) (by kernel_rfl) ?hQm57 (Or.inl ⟨?hwm57, ?hym57⟩) (by assumption) ?restm57
              case him57 => simp only [List.getElem?_toArray, List.getElem?_cons_succ, List.getElem?_cons_zero]; exact rfl
              case hQm57 => exact fun _ _ _ h => h
              case hwm57 => rfl
              case hym57 => ((intro w hSw; (try dsimp only at hSw); go_simp) <;> with_reducible rfl)
              try simp only [Act.put, List.setIfInBounds_toArray, List.set_cons_zero, List.set_cons_succ]
              refine wpAnyH_take (i := 8) (oi := ?oim58) (v := ?vm58) ?him58 (by kernel_rfl) (by kernel_rfl) (by kernel_rfl) ?hQm58 (Or.inl ⟨?hwm58, ?hym58⟩) (by assumption) ?restm58
              case him58 => simp only [List.getElem?_toArray, List.getElem?_cons_succ, List.getElem?_cons_zero]; exact rfl
              case hQm58 => exact fun _ _ _ h => h
              case hwm58 => rfl
              case hym58 => ((intro w hSw; (try dsimp only at hSw); go_simp) <;> with_reducible rfl)
              try simp only [Act.put, List.setIfInBounds_toArray, List.set_cons_zero, List.set_cons_succ]
              refine wpAnyH_take (i := 9) (oi := ?oim59) (v := ?vm59) ?him59 (by kernel_rfl) (by kernel_rfl) (by kernel_rfl) ?hQm59 (Or.inl ⟨?hwm59, ?hym59⟩) (by assumption) ?restm59
              case him59 => simp only [List.getElem?_toArray, List.getElem?_cons_succ, List.getElem?_cons_zero]; exact rfl
              case hQm59 => exact fun _ _ _ h => h
              case hwm59 => rfl
              case hym59 => ((intro w hSw; (try dsimp only at hSw); go_simp) <;> with_reducible rfl)
              try simp only [Act.put, List.setIfInBounds_toArray, List.set_cons_zero, List.set_cons_succ]
              refine wpAnyH_take (i := 10) (oi := ?oim60) (v := ?vm60) ?him60 (by kernel_rfl) (by kernel_rfl) (by kernel_rfl) ?hQm60 (Or.inl ⟨?hwm60, ?hym60⟩) (by assumption) ?restm60
              case him60 => simp only [List.getElem?_toArray, List.getElem?_cons_succ, List.getElem?_cons_zero]; exact rfl
              case hQm60 => exact fun _ _ _ h => h
              case hwm60 => rfl
              case hym60 => ((intro w hSw; (try dsimp only at hSw); go_simp) <;> with_reducible rfl)
              try simp only [Act.put, List.setIfInBounds_toArray, List.set_cons_zero, List.set_cons_succ]
              refine wpAnyH_take (i := 11) (oi := ?oim61) (v := ?vm61) ?him61 (by kernel_rfl) (by kernel_rfl) (by kernel_rfl) ?hQm61 (Or.inl ⟨?hwm61, ?hym61⟩) (by assumption) ?restm61
              case him61 => simp only [List.getElem?_toArray, List.getElem?_cons_succ, List.getElem?_cons_zero]; exact rfl
              case hQm61 => exact fun _ _ _ h => h
              case hwm61 => rfl
              case hym61 => ((intro w hSw; (try dsimp only at hSw); go_simp) <;> with_reducible rfl)
              try simp only [Act.put, List.setIfInBounds_toArray, List.set_cons_zero, List.set_cons_succ]
              refine wpAnyH_take (i := 12) (oi := ?oim62) (v := ?vm62) ?him62 (by kernel_rfl) (by kernel_rfl) (by kernel_rfl) ?hQm62 (Or.inl ⟨?hwm62, ?hym62⟩) (by assumption) ?restm62
              case him62 => simp only [List.getElem?_toArray, List.getElem?_cons_succ, List.getElem?_cons_zero]; exact rfl
              case hQm62 => exact fun _ _ _ h => h
              case hwm62 => rfl
              case hym62 => ((intro w hSw; have t0 := (hSw.cell (p := ⟨b, o + k * 4, none⟩) hboz).trans c0; go_simp) <;> with_reducible rfl)
              try simp only [Act.put, List.setIfInBounds_toArray, List.set_cons_zero, List.set_cons_succ]
              refine wpAnyH_take (i := 15) (oi := ?oim63) (v := ?vm63) ?him63 (by kernel_rfl) (by kernel_rfl) (by kernel_rfl) ?hQm63 (Or.inl ⟨?hwm63, ?hym63⟩) (by assumption) ?restm63
              case him63 => simp only [List.getElem?_toArray, List.getElem?_cons_succ, List.getElem?_cons_zero]; exact rfl
              case hQm63 => exact fun _ _ _ h => h
              case hwm63 => rfl
              case hym63 => ((intro w hSw; (try dsimp only at hSw); go_simp) <;> with_reducible rfl)
              try simp only [Act.put, List.setIfInBounds_toArray, List.set_cons_zero, List.set_cons_succ]
              refine wpAnyH_take (i := 16) (oi := ?oim64) (v := ?vm64) ?him64 (by kernel_rfl) (by kernel_rfl) (by kernel_rfl) ?hQm64 (Or.inl ⟨?hwm64, ?hym64⟩) (by assumption) ?restm64
              case him64 => simp only [List.getElem?_toArray, List.getElem?_cons_succ, List.getElem?_cons_zero]; exact rfl
              case hQm64 => exact fun _ _ _ h => h
              case hwm64 => rfl
              case hym64 => ((intro w hSw; have t0 := (hSw.cell (p := ⟨wr.heap.size, 3, none⟩) hlG).trans y3; go_simp) <;> with_reducible rfl)
              try simp only [Act.put, List.setIfInBounds_toArray, List.set_cons_zero, List.set_cons_succ]
              refine wpAnyH_take (i := 18) (oi := ?oim65) (v := ?vm65) ?him65 (by kernel_rfl) (by kernel_rfl) (by kernel_rfl) ?hQm65 (Or.inl ⟨?hwm65, ?hym65⟩) (by assumption) ?restm65
              case him65 => simp only [List.getElem?_toArray, List.getElem?_cons_succ, List.getElem?_cons_zero]; exact rfl
              case hQm65 => exact fun _ _ _ h => h
              case hwm65 => rfl
              case hym65 => ((intro w hSw; (try dsimp only at hSw); go_simp) <;> with_reducible rfl)
              try simp only [Act.put, List.setIfInBounds_toArray, List.set_cons_zero, List.set_cons_succ]
              refine wpAnyH_take (i := 19) (oi := ?oim66) (v := ?vm66) ?him66 (by kernel_rfl) (by kernel_rfl) (by kernel_rfl) ?hQm66 (Or.inl ⟨?hwm66, ?hym66⟩) (by assumption) ?restm66
              case him66 => simp only [List.getElem?_toArray, List.getElem?_cons_succ, List.getElem?_cons_zero]; exact rfl
              case hQm66 => exact fun _ _ _ h => h
              case hwm66 => rfl
              case hym66 => ((intro w hSw; (try dsimp only at hSw); go_simp) <;> with_reducible rfl)
              try simp only [Act.put, List.setIfInBounds_toArray, List.set_cons_zero, List.set_cons_succ]
              refine wpAnyH_take (i := 20) (oi := ?oim67) (v := ?vm67) ?him67 (by kernel_rfl) (by kernel_rfl) (by kernel_rfl) ?hQm67 (Or.inl ⟨?hwm67, ?hym67⟩) (by assumption) ?restm67
              case him67 => simp only [List.getElem?_toArray, List.getElem?_cons_succ, List.getElem?_cons_zero]; exact rfl
              case hQm67 => exact fun _ _ _ h => h
              case hwm67 => rfl
              case hym67 => ((intro w hSw; (try dsimp only at hSw); go_simp) <;> with_reducible rfl)
              try simp only [Act.put, List.setIfInBounds_toArray, List.set_cons_zero, List.set_cons_succ]
              refine wpAnyH_take (i := 21) (oi := ?oim68) (v := ?vm68) ?him68 (by kernel_rfl) (by kernel_rfl) (by kernel_rfl) ?hQm68 (Or.inl ⟨?hwm68, ?hym68⟩) (by assumption) ?restm68
              case him68 => simp only [List.getElem?_toArray, List.getElem?_cons_succ, List.getElem?_cons_zero]; exact rfl
              case hQm68 => exact fun _ _ _ h => h
              case hwm68 => rfl
              case hym68 => ((intro w hSw; (try dsimp only at hSw); go_simp) <;> with_reducible rfl)
              try simp only [Act.put, List.setIfInBounds_toArray, List.set_cons_zero, List.set_cons_succ]
              refine wpAnyH_take (i := 22) (oi := ?oim69) (v := ?vm69) ?him69 (by kernel_rfl) (by kernel_rfl) (by kernel_rfl) ?hQm69 (Or.inl ⟨?hwm69, ?hym69⟩) (by assumption) ?restm69
              case him69 => simp only [List.getElem?_toArray, List.getElem?_cons_succ, List.getElem?_cons_zero]; exact rfl
              case hQm69 => exact fun _ _ _ h => h
              case hwm69 => rfl
              case hym69 => ((intro w hSw; have t0 := (hSw.cell (p := ⟨b, o + k * 4 + 3, none⟩) hboz).trans c3; go_simp) <;> with_reducible rfl)
              try simp only [Act.put, List.setIfInBounds_toArray, List.set_cons_zero, List.set_cons_succ]
              refine wpAnyH_ready (rs := [6]) (by kernel_rfl) (by simp) ?_
              refine AllReadyH.cons (o := ?or70_6) ?hor70_6 (fun K hK => ?stepr70_6) (AllReadyH.nil)
              case hor70_6 => simp only [List.getElem?_toArray, List.getElem?_cons_succ, List.getElem?_cons_zero]; exact rfl
              case stepr70_6 =>
                go_simp
                refine (impl_Filled EI N3 eI RR (num Z (k * 4)) _ (Lst.of_own (own_below RI hHeld)) (by omega)).mono ?_
                rw [HF.out]
                rintro e v5 ⟨rfl, hb5⟩
                have hB5 : Below wz.heap.size wz v5 := Below.trans hHeld (hb5.mono (Below.size hHeld))
                refine hK.out _ _ ?hSr70_6 (fun hHeld => ?restr70_6)
                case hSr70_6 => exact hB5
                clear hK K
                try simp only [Act.put, List.setIfInBounds_toArray, List.set_cons_zero, List.set_cons_succ]
                refine wpAnyH_ready (rs := [13]) (by kernel_rfl) (by simp) ?_
                refine AllReadyH.cons (o := ?or71_13) ?hor71_13 (fun K hK => ?stepr71_13) (AllReadyH.nil)
                case hor71_13 => simp only [List.getElem?_toArray, List.getElem?_cons_succ, List.getElem?_cons_zero]; exact rfl
                case stepr71_13 =>
                  go_simp
                  refine (sumOf_any EI N3 eI RR 4 (num Z (k * 4)) v5 (Lst.of_own (own_below RI hB5)) (by omega) HOKR.out).mono ?_
                  rw [HKS.out]
                  rintro e v6 ⟨rfl, hb6⟩
                  have hB6 := hB5.trans (hb6.mono hB5.size)
                  refine hK.out _ _ ?hSr71_13 (fun hHeld => ?restr71_13)
                  case hSr71_13 => exact hB6
                  clear hK K
                  try simp only [Act.put, List.setIfInBounds_toArray, List.set_cons_zero, List.set_cons_succ]
                  refine wpAnyH_take (i := 14) (oi := ?oim72) (v := ?vm72) ?him72 (by kernel_rfl) (by kernel_rfl) (by kernel_rfl) ?hQm72 (Or.inl ⟨?hwm72, ?hym72⟩) (by assumption) ?restm72
                  case him72 => simp only [List.getElem?_toArray, List.getElem?_cons_succ, List.getElem?_cons_zero]; exact rfl
                  case hQm72 => exact fun _ _ _ h => h
                  case hwm72 => rfl
                  case hym72 => ((intro w hSw; (try dsimp only at hSw); go_simp) <;> with_reducible rfl)
                  try simp only [Act.put, List.setIfInBounds_toArray, List.set_cons_zero, List.set_cons_succ]
                  refine wpAnyH_take (i := 17) (oi := ?oim73) (v := ?vm73) ?him73 (by kernel_rfl) (by kernel_rfl) (by kernel_rfl) ?hQm73 (Or.inl ⟨?hwm73, ?hym73⟩) (by assumption) ?restm73
                  case him73 => simp only [List.getElem?_toArray, List.getElem?_cons_succ, List.getElem?_cons_zero]; exact rfl
                  case hQm73 => exact fun _ _ _ h => h
                  case hwm73 => rfl
                  case hym73 => ((intro w hSw; (try dsimp only at hSw); go_simp) <;> with_reducible rfl)
                  try simp only [Act.put, List.setIfInBounds_toArray, List.set_cons_zero, List.set_cons_succ]
                  refine wpAnyH_take (i := 23) (oi := ?oim74) (v := ?vm74) ?him74 (by kernel_rfl) (by kernel_rfl) (by kernel_rfl) ?hQm74 (Or.inl ⟨?hwm74, ?hym74⟩) (by assumption) ?restm74
                  case him74 => simp only [List.getElem?_toArray, List.getElem?_cons_succ, List.getElem?_cons_zero]; exact rfl
                  case hQm74 => exact fun _ _ _ h => h
                  case hwm74 => rfl
                  case hym74 => ((intro w hSw; (try dsimp only at hSw); go_simp) <;> with_reducible rfl)
                  try simp only [Act.put, List.setIfInBounds_toArray, List.set_cons_zero, List.set_cons_succ]
                  refine wpAnyH_done (by kernel_rfl) ?_ _
                  have HBW := Lib.hid (HBV.out.trans (hB6.mono HBV.out.size))
                  clear hHeld hB5 hB6 hb5 hb6
                  go_wp2_with fail
                  go_roundw
                  case rel => exact ⟨k + 1, by omega, by go_num, HBW.out⟩
                  case measure => simp [intOf]; omega
      · obtain rfl : K = k := by omega
        go_wp2_with fail
        go_ret
        exact ⟨by first | rfl | simp, D⟩
end Go.Proofs.Ytdjmejjponlfoaa
