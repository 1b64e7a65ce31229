/-
  The drawn law that no order is filled by one of its own account.
-/
import Derived.Test.YtdjmejjponlfoaaGD
import Derived.Test.YtdjmejjponlfoaaGU
import Derived.Test.YtdjmejjponlfoaaGF
import Derived.Test.YtdjmejjponlfoaaFind
import Derived.Test.YtdjmejjponlfoaaGS
import Derived.Test.YtdjmejjponlfoaaLawInts
import Derived.Test.YtdjmejjponlfoaaLawCell
namespace Go.Proofs.Ytdjmejjponlfoaa
open Go.RowKit Wire

theorem m_len {za zb : List Int} {n m : Nat} {rg : Bool} {side oi oa op oq mode : Int} (ha : za.length = n * 4) (hb : zb.length = m * 4) (h : rgB za n zb m side oi oa op oq mode = rg) (hn : n ≤ 20) (hm : m ≤ 20) :
    (mZ1 rg side oi oa op oq mode za zb).length / 4 ≤ 20 ∧ (mZ2 rg side oi oa op oq mode za zb).length / 4 ≤ 20 ∧ (mRR rg side oi oa op oq mode za zb).length / 8 ≤ 41 := by
  cases rg
  · simp [mZ1, mZ2, mRR]
  · have R := rg_oth h ha hb
    obtain ⟨M, N, e1, e2, e3, e4⟩ := mtS_len (side := side) (id := oi) (acct := oa) (pr := op) (mode := mode) (othN side n m) (Z := othZ side za zb) (R := []) (q := oq) 0 R.len rfl
    have hle := R.le
    unfold mZ1 mZ2 mRR mtA
    rw [if_pos rfl, if_pos rfl, if_pos rfl]
    unfold othZ at e1 e3
    rw [e3]
    refine ⟨?_, ?_, by omega⟩ <;> split <;> first | omega | (rw [e1]; omega) | simp_all <;> omega
theorem cntR_le (P : Int → Int → Bool) (zs : List Int) : ∀ k, cntR P zs k ≤ k
  | 0 => Nat.le_refl _
  | k + 1 => by
    have := cntR_le P zs k
    rw [cntR]
    split <;> omega
theorem cntR_mono (P : Int → Int → Bool) (zs : List Int) {j : Nat} : ∀ {k : Nat}, j ≤ k → cntR P zs j ≤ cntR P zs k
  | 0, h => by obtain rfl : j = 0 := by omega
               exact Nat.le_refl _
  | k + 1, h => by
    rcases Nat.eq_or_lt_of_le h with rfl | h
    · exact Nat.le_refl _
    · have := cntR_mono P zs (show j ≤ k by omega)
      rw [cntR.eq_2 P zs k]
      split <;> omega
theorem cntR_step (P : Int → Int → Bool) (zs : List Int) (k : Nat) : cntR P zs (k + 1) = if P (num zs (k * 8 + 1)) (num zs (k * 8 + 4)) = true then cntR P zs k + 1 else cntR P zs k := rfl
theorem rg_mode {za zb : List Int} {n m : Nat} {side oi oa op oq mode : Int} (h : rgB za n zb m side oi oa op oq mode = true) : mode = 1 ∨ mode = 2 ∨ mode = 3 := by
  have := (rg_parts h).2.2.2.1
  simp only [inB, Bool.and_eq_true, decide_eq_true_eq] at this
  omega
theorem noself_find {za zb : List Int} {n m p : Nat} {side oi oa op oq mode s : Int} {f : Nat → Int} {ok : Bool} (h : rgB za n zb m side oi oa op oq mode = true) (hp : p < othN side n m)
    (hf : FindRel (bookB za n zb m) za n zb m (num (othZ side za zb) (p * 4)) s f ok) : f 1 = num (othZ side za zb) (p * 4 + 1) := by
  have hb := (rg_parts h).1
  rw [hb] at hf
  obtain ⟨hy, hn⟩ := find_all hf
  have hd : distB (idA za n zb) (n + m) = true := by
    simp only [bookB, Bool.and_eq_true] at hb
    exact hb.2.2.2
  have inj : ∀ i j, i < n + m → j < n + m → idA za n zb i = idA za n zb j → i = j := fun i j hi hj e => by
    rcases Nat.lt_trichotomy i j with c | c | c
    · exact absurd e (dist_pair _ hd i j c hj)
    · exact c
    · exact absurd e.symm (dist_pair _ hd j i c hi)
  unfold othZ othN at *
  by_cases hs : side = 1
  · simp only [if_pos hs] at *
    rcases Bool.eq_false_or_eq_true ok with c | c
    · rcases hy c with ⟨k, hk, e, hv⟩ | ⟨k, hk, e, hv⟩
      · have := inj k (n + p) (by omega) (by omega) (by rw [idA_at1 hk, idA_at2]; exact e)
        omega
      · have := inj (n + k) (n + p) (by omega) (by omega) (by rw [idA_at2, idA_at2]; exact e)
        obtain rfl : k = p := by omega
        exact hv 1 (by omega)
    · exact absurd rfl ((hn c).2 p hp)
  · simp only [if_neg hs] at *
    rcases Bool.eq_false_or_eq_true ok with c | c
    · rcases hy c with ⟨k, hk, e, hv⟩ | ⟨k, hk, e, hv⟩
      · have := inj k p (by omega) (by omega) (by rw [idA_at1 hk, idA_at1 hp]; exact e)
        obtain rfl : k = p := by omega
        exact hv 1 (by omega)
      · have := inj (n + k) p (by omega) (by omega) (by rw [idA_at2, idA_at1 hp]; exact e)
        omega
    · exact absurd rfl ((hn c).1 p hp)
set_option linter.unusedSimpArgs false in
set_option linter.unusedVariables false in
set_option maxHeartbeats 6400000 in
set_option maxRecDepth 100000 in
theorem law_NoSelf (A : Option Addr) (len cap : Nat) (ys : List Int) (w : World) (hrow : IsRow .u8 w A len cap ys) :
    Calls Try.prog 6 #[.slice A len cap] w fun e w' => e = .returned (.bool true) ∧ Below w.heap.size w w' := by
  have hs := src_of_row hrow
  have hl := row_len hrow
  clear hrow
  have hsrc : ∀ w', Below w.heap.size w w' → Src w' w'.heap.size A len := fun w' hb i hi => by
    obtain ⟨b, o, n, h1, h2, h3, h4, h5⟩ := hs i hi
    exact ⟨b, o, n, h1, Nat.lt_of_lt_of_le h2 hb.size, h3, h4, (hb.cell (p := ⟨b, o + i, none⟩) h2).trans h5⟩
  by_cases hbig : 1048576 < len
  · go_enter Try.func6, Try.ntmps6
    go_wp2_with (go_at_call 9; go_in)
    go_ret
    exact ⟨rfl, Below.refl _ _⟩
  go_enter Try.func6, Try.ntmps6
  go_wp2_with (go_at_call 9; go_in)
  refine (DrawMatched_any A len cap _ hs hl).mono ?_
  rintro e w1 ⟨v1, n, za, v2, m, zb, s, oi, oa, op, oq, md, rfl, hn, hm, TB, D⟩
  obtain ⟨A1, c, A2, d, rfl, rfl⟩ := TB.slices
  have hlA : za.length = n * 4 := by have := TB.one.1; rwa [nums_length] at this
  have hlB : zb.length = m * 4 := by have := TB.two.1; rwa [nums_length] at this
  obtain ⟨kB, kO⟩ := two_blocks w1 (.cells #[.slice A1 n c, .slice A2 m d] 26) (.cells #[.int .i64 oi, .int .i64 oa, .int .i64 op, .int .i64 oq] 28)
  have hba : Below w1.heap.size w1 ((w1.alloc (.cells #[.slice A1 n c, .slice A2 m d] 26)).alloc (.cells #[.int .i64 oi, .int .i64 oa, .int .i64 op, .int .i64 oq] 28)) := ((Below.refl _ _).alloc (Nat.le_refl _) _).alloc (by simp) _
  replace D := D.trans (hba.mono D.size)
  replace TB := TB.below hba
  clear hba
  obtain ⟨p0, p1⟩ := cell2 kB
  obtain ⟨o0, o1, o2, o3, -⟩ := ord_cell kO
  go_wp2_with fail
  clear p0 p1 o0 o1 o2 o3
  generalize ((w1.alloc (.cells #[.slice A1 n c, .slice A2 m d] 26)).alloc (.cells #[.int .i64 oi, .int .i64 oa, .int .i64 op, .int .i64 oq] 28)) = w2 at *
  generalize w1.heap.size = X1 at *
  obtain ⟨rg, hrg⟩ : ∃ x, rgB za n zb m s oi oa op oq md = x := ⟨_, rfl⟩
  have HRG := Lib.hid hrg
  have hLN := m_len hlA hlB hrg hn hm
  obtain ⟨Y1, hsY1⟩ : ∃ x, mZ1 rg s oi oa op oq md za zb = x := ⟨_, rfl⟩
  obtain ⟨Y2, hsY2⟩ : ∃ x, mZ2 rg s oi oa op oq md za zb = x := ⟨_, rfl⟩
  obtain ⟨RR, hsRR⟩ : ∃ x, mRR rg s oi oa op oq md za zb = x := ⟨_, rfl⟩
  obtain ⟨lf, hslf⟩ : ∃ x, mLL rg s oi oa op oq md za zb = x := ⟨_, rfl⟩
  rw [hsY1, hsY2, hsRR] at hLN
  obtain ⟨N1, hsN1⟩ : ∃ x, Y1.length / 4 = x := ⟨_, rfl⟩
  obtain ⟨N2, hsN2⟩ : ∃ x, Y2.length / 4 = x := ⟨_, rfl⟩
  obtain ⟨N3, hsN3⟩ : ∃ x, RR.length / 8 = x := ⟨_, rfl⟩
  rw [hsN1, hsN2, hsN3] at hLN
  obtain ⟨hN1, hN2, hN3⟩ := hLN
  have HY1 := Lib.hid hsY1
  have HY2 := Lib.hid hsY2
  have HRR := Lib.hid hsRR
  have Hlf := Lib.hid hslf
  have HN1 := Lib.hid hsN1
  have HN2 := Lib.hid hsN2
  have HN3 := Lib.hid hsN3
  have hcon := (impl_Matched A1 n c A2 m d za zb s oi oa op oq md w2 (Lst.of_own TB.one) (Lst.of_own TB.two) (by omega) (by omega)).mono (fun e w' h => (⟨mans_len h.1, h.2⟩ : _ ∧ _))
  rw [hrg, hsY1, hsY2, hsRR, hslf, hsN1, hsN2, hsN3] at hcon
  refine hcon.mono ?_
  clear hcon
  rintro e w3 ⟨⟨t1, t2, t3, rfl, TI, RI⟩, hbm⟩
  obtain ⟨BI, bI, CI, cI, rfl, rfl⟩ := TI.slices
  obtain ⟨EI, eI, rfl, _, _⟩ := own_slice RI
  replace D := D.trans (hbm.mono D.size)
  replace TB := TB.below hbm
  replace kB := (hbm.block _ (heap_lt kB)).trans kB
  replace kO := (hbm.block _ (heap_lt kO)).trans kO
  clear hbm
  have kN := heap_alloc_new w3 (.cells #[.slice BI N1 bI, .slice CI N2 cI] 26)
  have hba : Below w3.heap.size w3 (w3.alloc (.cells #[.slice BI N1 bI, .slice CI N2 cI] 26)) := (Below.refl _ _).alloc (Nat.le_refl _) _
  replace D := D.trans (hba.mono D.size)
  replace TB := TB.below hba
  replace kB := (hba.block _ (heap_lt kB)).trans kB
  replace kO := (hba.block _ (heap_lt kO)).trans kO
  replace RI := own_below RI hba
  clear hba
  obtain ⟨p0, p1⟩ := cell2 kB
  obtain ⟨o0, o1, o2, o3, -⟩ := ord_cell kO
  go_wp2_with fail
  clear p0 p1 o0 o1 o2 o3
  generalize w3.alloc (.cells #[.slice BI N1 bI, .slice CI N2 cI] 26) = w4 at *
  generalize w3.heap.size = X2 at *
  clear kN
  have hcon := (spec_Matched A1 n c A2 m d za zb s oi oa op oq md w4 (Lst.of_own TB.one) (Lst.of_own TB.two) (by omega) (by omega) (own_nil TB.one) (own_nil TB.two)).mono (fun e w' h => (⟨mans_len h.1, h.2⟩ : _ ∧ _))
  rw [hrg, hsY1, hsY2, hsRR, hslf, hsN1, hsN2, hsN3] at hcon
  refine hcon.mono ?_
  clear hcon
  rintro e w5 ⟨⟨t1, t2, t3, rfl, TS, RS⟩, hbm⟩
  obtain ⟨BS, bS, CS, cS, rfl, rfl⟩ := TS.slices
  obtain ⟨ES, eS, rfl, _, _⟩ := own_slice RS
  replace D := D.trans (hbm.mono D.size)
  replace TB := TB.below hbm
  replace kB := (hbm.block _ (heap_lt kB)).trans kB
  replace kO := (hbm.block _ (heap_lt kO)).trans kO
  replace RI := own_below RI hbm
  clear hbm
  clear hsY1 hsY2 hsRR hslf hsN1 hsN2 hsN3 hrg
  have hba : Below w5.heap.size w5 (w5.alloc (.cells #[.slice BS N1 bS, .slice CS N2 cS] 26)) := (Below.refl _ _).alloc (Nat.le_refl _) _
  replace D := D.trans (hba.mono D.size)
  replace TB := TB.below hba
  replace kB := (hba.block _ (heap_lt kB)).trans kB
  replace kO := (hba.block _ (heap_lt kO)).trans kO
  replace RI := own_below RI hba
  replace RS := own_below RS hba
  clear hba TS
  have hll : (lf != lf) = false := by simp
  have hll2 : (lf == lf) = true := by simp
  go_upto_region 6 with fail
  generalize w5.alloc (.cells #[.slice BS N1 bS, .slice CS N2 cS] 26) = w6 at *
  cases rg
  · skip
    go_wp2_with fail
    refine (sameRecs_same EI ES N3 eI eS RR w6 (Lst.of_own RI) (Lst.of_own RS) (by omega)).mono ?_
    rintro e w7 ⟨rfl, hbs⟩
    replace D := D.trans (hbs.mono D.size)
    replace TB := TB.below hbs
    replace kB := (hbs.block _ (heap_lt kB)).trans kB
    replace kO := (hbs.block _ (heap_lt kO)).trans kO
    replace RI := own_below RI hbs
    replace RS := own_below RS hbs
    clear hbs
    go_wp2_with fail
    refine (sameRecs_same EI ES N3 eI eS RR w7 (Lst.of_own RI) (Lst.of_own RS) (by omega)).mono ?_
    rintro e w8 ⟨rfl, hbs⟩
    replace D := D.trans (hbs.mono D.size)
    replace TB := TB.below hbs
    replace kB := (hbs.block _ (heap_lt kB)).trans kB
    replace kO := (hbs.block _ (heap_lt kO)).trans kO
    replace RI := own_below RI hbs
    replace RS := own_below RS hbs
    clear hbs
    go_wp2_with fail
    go_ret
    exact ⟨by first | rfl | simp, D⟩
  · skip
    go_wp2_with fail
    refine (sameRecs_same EI ES N3 eI eS RR w6 (Lst.of_own RI) (Lst.of_own RS) (by omega)).mono ?_
    rintro e w7 ⟨rfl, hbs⟩
    replace D := D.trans (hbs.mono D.size)
    replace TB := TB.below hbs
    replace kB := (hbs.block _ (heap_lt kB)).trans kB
    replace kO := (hbs.block _ (heap_lt kO)).trans kO
    replace RI := own_below RI hbs
    replace RS := own_below RS hbs
    clear hbs
    clear RS
    have hwho := rg_who HRG.out hlA hlB
    rw [show (mtA s oi oa op oq md za zb).2.1 = RR by rw [← HRR.out]; unfold mRR; rw [if_pos rfl]] at hwho
    obtain ⟨N', -, -, hNl, -, hrec, hm1, hm2, hm3⟩ := hwho
    obtain rfl : N' = N3 := by rw [← HN3.out, hNl]; omega
    have HREC := Lib.hid hrec
    have HM1 := Lib.hid hm1
    have HM2 := Lib.hid hm2
    have HM3 := Lib.hid hm3
    clear hrec hm1 hm2 hm3
    have HMD := Lib.hid (rg_mode HRG.out)
    have hle0 := fun P => cntR_le P RR N'
    have HLE := Lib.hid hle0
    clear hle0
    go_wp2_with fail
    go_loopw [15, 16, 17] (fun ow mi i wr => ∃ k : Nat, k ≤ N' ∧ i = .int .i64 (k : Int) ∧ ow = .int .i64 (cntR (ownP oi) RR k : Nat) ∧ mi = .int .i64 (cntR (minP oi) RR k : Nat) ∧ Below w7.heap.size w7 wr) (fun _ _ i _ => N' - (intOf i).toNat)
    case atStart => exact ⟨0, Nat.zero_le _, rfl, rfl, rfl, Below.refl _ _⟩
    case round =>
      obtain ⟨k, hk, rfl, rfl, rfl, hbr⟩ := hrel
      replace D := D.trans (hbr.mono D.size)
      replace TB := TB.below hbr
      replace kB := (hbr.block _ (heap_lt kB)).trans kB
      replace kO := (hbr.block _ (heap_lt kO)).trans kO
      replace RI := own_below RI hbr
      by_cases hlt : k < N'
      · obtain ⟨b, o, hax, hbo, c0, c1, c2, c3, c4, c5, c6, c7⟩ := (Lst.of_own RI).row8 hlt
        subst hax
        obtain ⟨p0, p1⟩ := cell2 kB
        have hlX := heap_lt kB
        have hl1 := Nat.le_trans (HLE.out (ownP oi)) hN3
        have hl2 := Nat.le_trans (HLE.out (minP oi)) hN3
        have hl3 := Nat.le_trans (cntR_mono (ownP oi) RR (Nat.le_of_lt hlt)) hl1
        have hl4 := Nat.le_trans (cntR_mono (minP oi) RR (Nat.le_of_lt hlt)) hl2
        clear hl1 hl2
        have HCN := Lib.hid (cntR_step (ownP oi) RR k)
        have HCM := Lib.hid (cntR_step (minP oi) RR k)
        rcases HREC.out k (Nat.zero_le _) hlt with ⟨hkd, -, po, hpo, hot, hac⟩ | hkd
        · have HKD := Lib.hid hkd
          have HOT := Lib.hid hot
          have HAC := Lib.hid hac
          replace HCN := Lib.hid (HCN.out.trans (if_neg (by rw [hkd]; simp [ownP])))
          replace HCM := Lib.hid (HCM.out.trans (if_neg (by rw [hkd]; simp [minP])))
          clear hkd hot hac
          go_upto_region 13 with fail
          refine wp_region_held_drew (S := (fun w' => Below wr.heap.size wr w')) (by kernel_rfl) ?hSm1 (fun hHeld => ?restm1)
          case hSm1 => exact (Below.refl _ _).drew
          refine wpAnyH_take (i := 0) (oi := ?oim2) (v := ?vm2) ?him2 (by kernel_rfl) (by kernel_rfl) (by kernel_rfl) ?hQm2 (Or.inl ⟨?hwm2, ?hym2⟩) (by assumption) ?restm2
          case him2 => simp only [List.getElem?_toArray, List.getElem?_cons_succ, List.getElem?_cons_zero]; exact rfl
          case hQm2 => exact fun _ _ _ h => h
          case hwm2 => rfl
          case hym2 => ((intro w hSw; have t0 := (hSw.cell (p := ⟨X1, 0, none⟩) hlX).trans p0; have t1 := (hSw.cell (p := ⟨X1, 1, none⟩) hlX).trans p1; have t2 := (hSw.cell (p := ⟨b, o + k * 8 + 5, none⟩) hbo).trans c5; go_simp) <;> with_reducible rfl)
          try simp only [Act.put, List.setIfInBounds_toArray, List.set_cons_zero, List.set_cons_succ]
          refine wpAnyH_take (i := 1) (oi := ?oim3) (v := ?vm3) ?him3 (by kernel_rfl) (by kernel_rfl) (by kernel_rfl) ?hQm3 (Or.inl ⟨?hwm3, ?hym3⟩) (by assumption) ?restm3
          case him3 => simp only [List.getElem?_toArray, List.getElem?_cons_succ, List.getElem?_cons_zero]; exact rfl
          case hQm3 => exact fun _ _ _ h => h
          case hwm3 => rfl
          case hym3 => ((intro w hSw; (try dsimp only at hSw); go_simp) <;> with_reducible rfl)
          try simp only [Act.put, List.setIfInBounds_toArray, List.set_cons_zero, List.set_cons_succ]
          refine wpAnyH_take (i := 2) (oi := ?oim4) (v := ?vm4) ?him4 (by kernel_rfl) (by kernel_rfl) (by kernel_rfl) ?hQm4 (Or.inl ⟨?hwm4, ?hym4⟩) (by assumption) ?restm4
          case him4 => simp only [List.getElem?_toArray, List.getElem?_cons_succ, List.getElem?_cons_zero]; exact rfl
          case hQm4 => exact fun _ _ _ h => h
          case hwm4 => rfl
          case hym4 => ((intro w hSw; (try dsimp only at hSw); go_simp) <;> with_reducible rfl)
          try simp only [Act.put, List.setIfInBounds_toArray, List.set_cons_zero, List.set_cons_succ]
          refine wpAnyH_take (i := 3) (oi := ?oim5) (v := ?vm5) ?him5 (by kernel_rfl) (by kernel_rfl) (by kernel_rfl) ?hQm5 (Or.inl ⟨?hwm5, ?hym5⟩) (by assumption) ?restm5
          case him5 => simp only [List.getElem?_toArray, List.getElem?_cons_succ, List.getElem?_cons_zero]; exact rfl
          case hQm5 => exact fun _ _ _ h => h
          case hwm5 => rfl
          case hym5 => ((intro w hSw; (try dsimp only at hSw); go_simp) <;> with_reducible rfl)
          try simp only [Act.put, List.setIfInBounds_toArray, List.set_cons_zero, List.set_cons_succ]
          refine wpAnyH_take (i := 4) (oi := ?oim6) (v := ?vm6) ?him6 (by kernel_rfl) (by kernel_rfl) (by kernel_rfl) ?hQm6 (Or.inl ⟨?hwm6, ?hym6⟩) (by assumption) ?restm6
          case him6 => simp only [List.getElem?_toArray, List.getElem?_cons_succ, List.getElem?_cons_zero]; exact rfl
          case hQm6 => exact fun _ _ _ h => h
          case hwm6 => rfl
          case hym6 => ((intro w hSw; (try dsimp only at hSw); go_simp) <;> with_reducible rfl)
          try simp only [Act.put, List.setIfInBounds_toArray, List.set_cons_zero, List.set_cons_succ]
          refine wpAnyH_take (i := 5) (oi := ?oim7) (v := ?vm7) ?him7 (by kernel_rfl) (by kernel_rfl) (by kernel_rfl) ?hQm7 (Or.inl ⟨?hwm7, ?hym7⟩) (by assumption) ?restm7
          case him7 => simp only [List.getElem?_toArray, List.getElem?_cons_succ, List.getElem?_cons_zero]; exact rfl
          case hQm7 => exact fun _ _ _ h => h
          case hwm7 => rfl
          case hym7 => ((intro w hSw; have t0 := (hSw.cell (p := ⟨X1, 0, none⟩) hlX).trans p0; have t1 := (hSw.cell (p := ⟨X1, 1, none⟩) hlX).trans p1; have t2 := (hSw.cell (p := ⟨b, o + k * 8 + 5, none⟩) hbo).trans c5; go_simp) <;> with_reducible rfl)
          try simp only [Act.put, List.setIfInBounds_toArray, List.set_cons_zero, List.set_cons_succ]
          refine wpAnyH_ready (rs := [6, 11]) (by kernel_rfl) (by simp) ?_
          refine AllReadyH.cons (o := ?or8_6) ?hor8_6 (fun K hK => ?stepr8_6) (AllReadyH.cons (o := ?or8_11) ?hor8_11 (fun K hK => ?stepr8_11) (AllReadyH.nil))
          case hor8_6 => simp only [List.getElem?_toArray, List.getElem?_cons_succ, List.getElem?_cons_zero]; exact rfl
          case hor8_11 => simp only [List.getElem?_toArray, List.getElem?_cons_succ, List.getElem?_cons_zero]; exact rfl
          case stepr8_6 =>
            go_simp
            have hHv : Below wr.heap.size wr wr.drew := hHeld
            refine (impl_Find A1 n c A2 m d za zb (num RR (k * 8 + 5)) _ (Lst.of_own (TB.below hHv).one) (Lst.of_own (TB.below hHv).two) (by omega) (by omega)).mono ?_
            rintro e vc ⟨⟨s4, f4, ok4, hrel4, rfl⟩, hb4⟩
            rw [HOT.out] at hrel4
            have hm1' : ¬ f4 1 = oa := by rw [noself_find HRG.out hpo hrel4]; exact HAC.out
            generalize f4 0 = m0 at *
            generalize f4 1 = m1 at *
            generalize f4 2 = m2 at *
            generalize f4 3 = m3 at *
            clear hrel4
            have hm1b : (m1 == oa) = false := beq_eq_false_iff_ne.2 hm1'
            refine hK.out _ _ ?hSr8_6 (fun hHeld => ?restr8_6)
            case hSr8_6 => exact hHv.trans (hb4.mono hHv.size)
            clear hK K
            try simp only [Act.put, List.setIfInBounds_toArray, List.set_cons_zero, List.set_cons_succ]
            refine wpAnyH_take (i := 7) (oi := ?oim9) (v := ?vm9) ?him9 (by kernel_rfl) (by kernel_rfl) (by kernel_rfl) ?hQm9 (Or.inl ⟨?hwm9, ?hym9⟩) (by assumption) ?restm9
            case him9 => simp only [List.getElem?_toArray, List.getElem?_cons_succ, List.getElem?_cons_zero]; exact rfl
            case hQm9 => exact fun _ _ _ h => h
            case hwm9 => rfl
            case hym9 => ((intro w hSw; (try dsimp only at hSw); go_simp) <;> with_reducible rfl)
            try simp only [Act.put, List.setIfInBounds_toArray, List.set_cons_zero, List.set_cons_succ]
            refine wpAnyH_take (i := 8) (oi := ?oim10) (v := ?vm10) ?him10 (by kernel_rfl) (by kernel_rfl) (by kernel_rfl) ?hQm10 (Or.inl ⟨?hwm10, ?hym10⟩) (by assumption) ?restm10
            case him10 => simp only [List.getElem?_toArray, List.getElem?_cons_succ, List.getElem?_cons_zero]; exact rfl
            case hQm10 => exact fun _ _ _ h => h
            case hwm10 => rfl
            case hym10 => ((intro w hSw; (try dsimp only at hSw); go_simp) <;> with_reducible rfl)
            try simp only [Act.put, List.setIfInBounds_toArray, List.set_cons_zero, List.set_cons_succ]
            refine wpAnyH_take (i := 9) (oi := ?oim11) (v := ?vm11) ?him11 (by kernel_rfl) (by kernel_rfl) (by kernel_rfl) ?hQm11 (Or.inl ⟨?hwm11, ?hym11⟩) (by assumption) ?restm11
            case him11 => simp only [List.getElem?_toArray, List.getElem?_cons_succ, List.getElem?_cons_zero]; exact rfl
            case hQm11 => exact fun _ _ _ h => h
            case hwm11 => rfl
            case hym11 => ((intro w hSw; (try dsimp only at hSw); go_simp) <;> with_reducible rfl)
            try simp only [Act.put, List.setIfInBounds_toArray, List.set_cons_zero, List.set_cons_succ]
            refine wpAnyH_take (i := 10) (oi := ?oim12) (v := ?vm12) ?him12 (by kernel_rfl) (by kernel_rfl) (by kernel_rfl) ?hQm12 (Or.inl ⟨?hwm12, ?hym12⟩) (by assumption) ?restm12
            case him12 => simp only [List.getElem?_toArray, List.getElem?_cons_succ, List.getElem?_cons_zero]; exact rfl
            case hQm12 => exact fun _ _ _ h => h
            case hwm12 => rfl
            case hym12 => ((intro w hSw; (try dsimp only at hSw); go_simp) <;> with_reducible rfl)
            try simp only [Act.put, List.setIfInBounds_toArray, List.set_cons_zero, List.set_cons_succ]
            refine wpAnyH_ready (rs := [11]) (by kernel_rfl) (by simp) ?_
            refine AllReadyH.cons (o := ?or13_11) ?hor13_11 (fun K hK => ?stepr13_11) (AllReadyH.nil)
            case hor13_11 => simp only [List.getElem?_toArray, List.getElem?_cons_succ, List.getElem?_cons_zero]; exact rfl
            case stepr13_11 =>
              go_simp
              have hG := heap_alloc_new vc (.cells #[.int .i64 0, .int .i64 0, .int .i64 0, .int .i64 0] 28)
              have hHv : Below wr.heap.size wr vc := hHeld
              have hGl : wr.heap.size ≤ vc.heap.size := hHv.size
              have hHa := hHv.alloc hHv.size (.cells #[.int .i64 0, .int .i64 0, .int .i64 0, .int .i64 0] 28)
              generalize vc.alloc (.cells #[.int .i64 0, .int .i64 0, .int .i64 0, .int .i64 0] 28) = va at *
              generalize vc.heap.size = G at *
              refine hK.out _ _ ?hSr13_11 (fun hHeld => ?restr13_11)
              case hSr13_11 => exact hHa
              clear hK K
              try simp only [Act.put, List.setIfInBounds_toArray, List.set_cons_zero, List.set_cons_succ]
              refine wpAnyH_take (i := 12) (oi := ?oim14) (v := ?vm14) ?him14 (by kernel_rfl) (by kernel_rfl) (by kernel_rfl) ?hQm14 (Or.inl ⟨?hwm14, ?hym14⟩) (by assumption) ?restm14
              case him14 => simp only [List.getElem?_toArray, List.getElem?_cons_succ, List.getElem?_cons_zero]; exact rfl
              case hQm14 => exact fun _ _ _ h => h
              case hwm14 => rfl
              case hym14 => ((intro w hSw; (try dsimp only at hSw); go_simp) <;> with_reducible rfl)
              try simp only [Act.put, List.setIfInBounds_toArray, List.set_cons_zero, List.set_cons_succ]
              refine wpAnyH_ready (rs := [13]) (by kernel_rfl) (by simp) ?_
              refine AllReadyH.cons (o := ?or15_13) ?hor15_13 (fun K hK => ?stepr15_13) (AllReadyH.nil)
              case hor15_13 => simp only [List.getElem?_toArray, List.getElem?_cons_succ, List.getElem?_cons_zero]; exact rfl
              case stepr15_13 =>
                obtain ⟨y0, y1, y2, y3, x0, x1, x2, x3⟩ := ord_cell hG
                go_simp
                have hHv : Below wr.heap.size wr va := hHeld
                have hG2 := ord_put (u0 := .int .i64 m0) (u1 := .int .i64 m1) (u2 := .int .i64 m2) (u3 := .int .i64 m3) hG
                refine hK.out _ _ ?hSr15_13 (fun hHeld => ?restr15_13)
                case hSr15_13 => exact (((hHv.setCell (p := ⟨G, 0, none⟩) hGl _).setCell (p := ⟨G, 1, none⟩) hGl _).setCell (p := ⟨G, 2, none⟩) hGl _).setCell (p := ⟨G, 3, none⟩) hGl _
                clear hK K
                try simp only [Act.put, List.setIfInBounds_toArray, List.set_cons_zero, List.set_cons_succ]
                refine wpAnyH_take (i := 14) (oi := ?oim16) (v := ?vm16) ?him16 (by kernel_rfl) (by kernel_rfl) (by kernel_rfl) ?hQm16 (Or.inl ⟨?hwm16, ?hym16⟩) (by assumption) ?restm16
                case him16 => simp only [List.getElem?_toArray, List.getElem?_cons_succ, List.getElem?_cons_zero]; exact rfl
                case hQm16 => exact fun _ _ _ h => h
                case hwm16 => rfl
                case hym16 => ((intro w hSw; (try dsimp only at hSw); go_simp) <;> with_reducible rfl)
                try simp only [Act.put, List.setIfInBounds_toArray, List.set_cons_zero, List.set_cons_succ]
                refine wpAnyH_done (by kernel_rfl) ?_ _
                go_upto_region 14 with fail
                have hHz : Below wr.heap.size wr (((((va.setCell ⟨G, 0, none⟩ (.int .i64 m0)).setCell ⟨G, 1, none⟩ (.int .i64 m1)).setCell ⟨G, 2, none⟩ (.int .i64 m2))).setCell ⟨G, 3, none⟩ (.int .i64 m3)) := hHeld
                clear hHeld y0 y1 y2 y3 x0 x1 x2 x3 hG
                generalize (((((va.setCell ⟨G, 0, none⟩ (.int .i64 m0)).setCell ⟨G, 1, none⟩ (.int .i64 m1)).setCell ⟨G, 2, none⟩ (.int .i64 m2))).setCell ⟨G, 3, none⟩ (.int .i64 m3)) = wz at *
                obtain ⟨y0, y1, y2, y3, -⟩ := ord_cell hG2
                have HBV := Lib.hid (show Below w7.heap.size w7 wz from hbr.trans (hHz.mono hbr.size))
                replace kO := (hHz.block _ (heap_lt kO)).trans kO
                obtain ⟨o0, o1, o2, o3, -⟩ := ord_cell kO
                replace c1 := (hHz.cell (p := ⟨b, o + k * 8 + 1, none⟩) hbo).trans c1
                replace c4 := (hHz.cell (p := ⟨b, o + k * 8 + 4, none⟩) hbo).trans c4
                clear hHz hG2 hbr p0 p1 c0 c2 c3 c5 c6 c7
                rw [HKD.out] at c1
                go_upto_region 16 with fail
                go_region
                all_goals go_upto_region 18 with fail
                all_goals go_region
                all_goals go_wp2_with fail
                all_goals go_roundw
                case rel => exact ⟨k + 1, by omega, by go_num, by rw [HCN.out], by rw [HCM.out], HBV.out.drew.drew⟩
                case measure => simp [intOf]; omega
          case stepr8_11 =>
            go_simp
            have hG : (wr.alloc (.cells #[.int .i64 0, .int .i64 0, .int .i64 0, .int .i64 0] 28)).drew.heap[wr.heap.size]? = _ := heap_alloc_new wr (.cells #[.int .i64 0, .int .i64 0, .int .i64 0, .int .i64 0] 28)
            have hGl : wr.heap.size ≤ wr.heap.size := Nat.le_refl _
            have hHa : Below wr.heap.size wr (wr.alloc (.cells #[.int .i64 0, .int .i64 0, .int .i64 0, .int .i64 0] 28)).drew := ((Below.refl _ _).alloc (Nat.le_refl _) (.cells #[.int .i64 0, .int .i64 0, .int .i64 0, .int .i64 0] 28)).drew
            generalize (wr.alloc (.cells #[.int .i64 0, .int .i64 0, .int .i64 0, .int .i64 0] 28)).drew = va at *
            refine hK.out _ _ ?hSr8_11 (fun hHeld => ?restr8_11)
            case hSr8_11 => exact hHa
            clear hK K
            try simp only [Act.put, List.setIfInBounds_toArray, List.set_cons_zero, List.set_cons_succ]
            refine wpAnyH_ready (rs := [6]) (by kernel_rfl) (by simp) ?_
            refine AllReadyH.cons (o := ?or17_6) ?hor17_6 (fun K hK => ?stepr17_6) (AllReadyH.nil)
            case hor17_6 => simp only [List.getElem?_toArray, List.getElem?_cons_succ, List.getElem?_cons_zero]; exact rfl
            case stepr17_6 =>
              go_simp
              have hHv : Below wr.heap.size wr va := hHeld
              refine (impl_Find A1 n c A2 m d za zb (num RR (k * 8 + 5)) _ (Lst.of_own (TB.below hHv).one) (Lst.of_own (TB.below hHv).two) (by omega) (by omega)).mono ?_
              rintro e vc ⟨⟨s4, f4, ok4, hrel4, rfl⟩, hb4⟩
              rw [HOT.out] at hrel4
              have hm1' : ¬ f4 1 = oa := by rw [noself_find HRG.out hpo hrel4]; exact HAC.out
              generalize f4 0 = m0 at *
              generalize f4 1 = m1 at *
              generalize f4 2 = m2 at *
              generalize f4 3 = m3 at *
              clear hrel4
              have hm1b : (m1 == oa) = false := beq_eq_false_iff_ne.2 hm1'
              replace hG := (hb4.block _ (heap_lt hG)).trans hG
              refine hK.out _ _ ?hSr17_6 (fun hHeld => ?restr17_6)
              case hSr17_6 => exact hHv.trans (hb4.mono hHv.size)
              clear hK K
              try simp only [Act.put, List.setIfInBounds_toArray, List.set_cons_zero, List.set_cons_succ]
              refine wpAnyH_take (i := 7) (oi := ?oim18) (v := ?vm18) ?him18 (by kernel_rfl) (by kernel_rfl) (by kernel_rfl) ?hQm18 (Or.inl ⟨?hwm18, ?hym18⟩) (by assumption) ?restm18
              case him18 => simp only [List.getElem?_toArray, List.getElem?_cons_succ, List.getElem?_cons_zero]; exact rfl
              case hQm18 => exact fun _ _ _ h => h
              case hwm18 => rfl
              case hym18 => ((intro w hSw; (try dsimp only at hSw); go_simp) <;> with_reducible rfl)
              try simp only [Act.put, List.setIfInBounds_toArray, List.set_cons_zero, List.set_cons_succ]
              refine wpAnyH_take (i := 8) (oi := ?oim19) (v := ?vm19) ?him19 (by kernel_rfl) (by kernel_rfl) (by kernel_rfl) ?hQm19 (Or.inl ⟨?hwm19, ?hym19⟩) (by assumption) ?restm19
              case him19 => simp only [List.getElem?_toArray, List.getElem?_cons_succ, List.getElem?_cons_zero]; exact rfl
              case hQm19 => exact fun _ _ _ h => h
              case hwm19 => rfl
              case hym19 => ((intro w hSw; (try dsimp only at hSw); go_simp) <;> with_reducible rfl)
              try simp only [Act.put, List.setIfInBounds_toArray, List.set_cons_zero, List.set_cons_succ]
              refine wpAnyH_take (i := 9) (oi := ?oim20) (v := ?vm20) ?him20 (by kernel_rfl) (by kernel_rfl) (by kernel_rfl) ?hQm20 (Or.inl ⟨?hwm20, ?hym20⟩) (by assumption) ?restm20
              case him20 => simp only [List.getElem?_toArray, List.getElem?_cons_succ, List.getElem?_cons_zero]; exact rfl
              case hQm20 => exact fun _ _ _ h => h
              case hwm20 => rfl
              case hym20 => ((intro w hSw; (try dsimp only at hSw); go_simp) <;> with_reducible rfl)
              try simp only [Act.put, List.setIfInBounds_toArray, List.set_cons_zero, List.set_cons_succ]
              refine wpAnyH_take (i := 10) (oi := ?oim21) (v := ?vm21) ?him21 (by kernel_rfl) (by kernel_rfl) (by kernel_rfl) ?hQm21 (Or.inl ⟨?hwm21, ?hym21⟩) (by assumption) ?restm21
              case him21 => simp only [List.getElem?_toArray, List.getElem?_cons_succ, List.getElem?_cons_zero]; exact rfl
              case hQm21 => exact fun _ _ _ h => h
              case hwm21 => rfl
              case hym21 => ((intro w hSw; (try dsimp only at hSw); go_simp) <;> with_reducible rfl)
              try simp only [Act.put, List.setIfInBounds_toArray, List.set_cons_zero, List.set_cons_succ]
              refine wpAnyH_take (i := 12) (oi := ?oim22) (v := ?vm22) ?him22 (by kernel_rfl) (by kernel_rfl) (by kernel_rfl) ?hQm22 (Or.inl ⟨?hwm22, ?hym22⟩) (by assumption) ?restm22
              case him22 => simp only [List.getElem?_toArray, List.getElem?_cons_succ, List.getElem?_cons_zero]; exact rfl
              case hQm22 => exact fun _ _ _ h => h
              case hwm22 => rfl
              case hym22 => ((intro w hSw; (try dsimp only at hSw); go_simp) <;> with_reducible rfl)
              try simp only [Act.put, List.setIfInBounds_toArray, List.set_cons_zero, List.set_cons_succ]
              refine wpAnyH_ready (rs := [13]) (by kernel_rfl) (by simp) ?_
              refine AllReadyH.cons (o := ?or23_13) ?hor23_13 (fun K hK => ?stepr23_13) (AllReadyH.nil)
              case hor23_13 => simp only [List.getElem?_toArray, List.getElem?_cons_succ, List.getElem?_cons_zero]; exact rfl
              case stepr23_13 =>
                obtain ⟨y0, y1, y2, y3, x0, x1, x2, x3⟩ := ord_cell hG
                go_simp
                have hHv : Below wr.heap.size wr vc := hHeld
                have hG2 := ord_put (u0 := .int .i64 m0) (u1 := .int .i64 m1) (u2 := .int .i64 m2) (u3 := .int .i64 m3) hG
                refine hK.out _ _ ?hSr23_13 (fun hHeld => ?restr23_13)
                case hSr23_13 => exact (((hHv.setCell (p := ⟨wr.heap.size, 0, none⟩) hGl _).setCell (p := ⟨wr.heap.size, 1, none⟩) hGl _).setCell (p := ⟨wr.heap.size, 2, none⟩) hGl _).setCell (p := ⟨wr.heap.size, 3, none⟩) hGl _
                clear hK K
                try simp only [Act.put, List.setIfInBounds_toArray, List.set_cons_zero, List.set_cons_succ]
                refine wpAnyH_take (i := 14) (oi := ?oim24) (v := ?vm24) ?him24 (by kernel_rfl) (by kernel_rfl) (by kernel_rfl) ?hQm24 (Or.inl ⟨?hwm24, ?hym24⟩) (by assumption) ?restm24
                case him24 => simp only [List.getElem?_toArray, List.getElem?_cons_succ, List.getElem?_cons_zero]; exact rfl
                case hQm24 => exact fun _ _ _ h => h
                case hwm24 => rfl
                case hym24 => ((intro w hSw; (try dsimp only at hSw); go_simp) <;> with_reducible rfl)
                try simp only [Act.put, List.setIfInBounds_toArray, List.set_cons_zero, List.set_cons_succ]
                refine wpAnyH_done (by kernel_rfl) ?_ _
                go_upto_region 14 with fail
                have hHz : Below wr.heap.size wr (((((vc.setCell ⟨wr.heap.size, 0, none⟩ (.int .i64 m0)).setCell ⟨wr.heap.size, 1, none⟩ (.int .i64 m1)).setCell ⟨wr.heap.size, 2, none⟩ (.int .i64 m2))).setCell ⟨wr.heap.size, 3, none⟩ (.int .i64 m3)) := hHeld
                clear hHeld y0 y1 y2 y3 x0 x1 x2 x3 hG
                generalize (((((vc.setCell ⟨wr.heap.size, 0, none⟩ (.int .i64 m0)).setCell ⟨wr.heap.size, 1, none⟩ (.int .i64 m1)).setCell ⟨wr.heap.size, 2, none⟩ (.int .i64 m2))).setCell ⟨wr.heap.size, 3, none⟩ (.int .i64 m3)) = wz at *
                obtain ⟨y0, y1, y2, y3, -⟩ := ord_cell hG2
                have HBV := Lib.hid (show Below w7.heap.size w7 wz from hbr.trans (hHz.mono hbr.size))
                replace kO := (hHz.block _ (heap_lt kO)).trans kO
                obtain ⟨o0, o1, o2, o3, -⟩ := ord_cell kO
                replace c1 := (hHz.cell (p := ⟨b, o + k * 8 + 1, none⟩) hbo).trans c1
                replace c4 := (hHz.cell (p := ⟨b, o + k * 8 + 4, none⟩) hbo).trans c4
                clear hHz hG2 hbr p0 p1 c0 c2 c3 c5 c6 c7
                rw [HKD.out] at c1
                go_upto_region 16 with fail
                go_region
                all_goals go_upto_region 18 with fail
                all_goals go_region
                all_goals go_wp2_with fail
                all_goals go_roundw
                case rel => exact ⟨k + 1, by omega, by go_num, by rw [HCN.out], by rw [HCM.out], HBV.out.drew.drew⟩
                case measure => simp [intOf]; omega
        · have HKD := Lib.hid hkd
          by_cases hid : num RR (k * 8 + 4) = oi
          · have HID := Lib.hid hid
            replace HCN := Lib.hid (HCN.out.trans (if_neg (by rw [hkd, hid]; simp [ownP])))
            replace HCM := Lib.hid (HCM.out.trans (if_pos (by rw [hkd, hid]; simp [minP])))
            clear hkd hid
            go_upto_region 13 with fail
            refine wp_region_held_drew (S := (fun w' => Below wr.heap.size wr w')) (by kernel_rfl) ?hSm25 (fun hHeld => ?restm25)
            case hSm25 => exact (Below.refl _ _).drew
            refine wpAnyH_take (i := 0) (oi := ?oim26) (v := ?vm26) ?him26 (by kernel_rfl) (by kernel_rfl) (by kernel_rfl) ?hQm26 (Or.inl ⟨?hwm26, ?hym26⟩) (by assumption) ?restm26
            case him26 => simp only [List.getElem?_toArray, List.getElem?_cons_succ, List.getElem?_cons_zero]; exact rfl
            case hQm26 => exact fun _ _ _ h => h
            case hwm26 => rfl
            case hym26 => ((intro w hSw; have t0 := (hSw.cell (p := ⟨X1, 0, none⟩) hlX).trans p0; have t1 := (hSw.cell (p := ⟨X1, 1, none⟩) hlX).trans p1; have t2 := (hSw.cell (p := ⟨b, o + k * 8 + 5, none⟩) hbo).trans c5; go_simp) <;> with_reducible rfl)
            try simp only [Act.put, List.setIfInBounds_toArray, List.set_cons_zero, List.set_cons_succ]
            refine wpAnyH_take (i := 1) (oi := ?oim27) (v := ?vm27) ?him27 (by kernel_rfl) (by kernel_rfl) (by kernel_rfl) ?hQm27 (Or.inl ⟨?hwm27, ?hym27⟩) (by assumption) ?restm27
            case him27 => simp only [List.getElem?_toArray, List.getElem?_cons_succ, List.getElem?_cons_zero]; exact rfl
            case hQm27 => exact fun _ _ _ h => h
            case hwm27 => rfl
            case hym27 => ((intro w hSw; (try dsimp only at hSw); go_simp) <;> with_reducible rfl)
            try simp only [Act.put, List.setIfInBounds_toArray, List.set_cons_zero, List.set_cons_succ]
            refine wpAnyH_take (i := 2) (oi := ?oim28) (v := ?vm28) ?him28 (by kernel_rfl) (by kernel_rfl) (by kernel_rfl) ?hQm28 (Or.inl ⟨?hwm28, ?hym28⟩) (by assumption) ?restm28
            case him28 => simp only [List.getElem?_toArray, List.getElem?_cons_succ, List.getElem?_cons_zero]; exact rfl
            case hQm28 => exact fun _ _ _ h => h
            case hwm28 => rfl
            case hym28 => ((intro w hSw; (try dsimp only at hSw); go_simp) <;> with_reducible rfl)
            try simp only [Act.put, List.setIfInBounds_toArray, List.set_cons_zero, List.set_cons_succ]
            refine wpAnyH_take (i := 3) (oi := ?oim29) (v := ?vm29) ?him29 (by kernel_rfl) (by kernel_rfl) (by kernel_rfl) ?hQm29 (Or.inl ⟨?hwm29, ?hym29⟩) (by assumption) ?restm29
            case him29 => simp only [List.getElem?_toArray, List.getElem?_cons_succ, List.getElem?_cons_zero]; exact rfl
            case hQm29 => exact fun _ _ _ h => h
            case hwm29 => rfl
            case hym29 => ((intro w hSw; (try dsimp only at hSw); go_simp) <;> with_reducible rfl)
            try simp only [Act.put, List.setIfInBounds_toArray, List.set_cons_zero, List.set_cons_succ]
            refine wpAnyH_take (i := 4) (oi := ?oim30) (v := ?vm30) ?him30 (by kernel_rfl) (by kernel_rfl) (by kernel_rfl) ?hQm30 (Or.inl ⟨?hwm30, ?hym30⟩) (by assumption) ?restm30
            case him30 => simp only [List.getElem?_toArray, List.getElem?_cons_succ, List.getElem?_cons_zero]; exact rfl
            case hQm30 => exact fun _ _ _ h => h
            case hwm30 => rfl
            case hym30 => ((intro w hSw; (try dsimp only at hSw); go_simp) <;> with_reducible rfl)
            try simp only [Act.put, List.setIfInBounds_toArray, List.set_cons_zero, List.set_cons_succ]
            refine wpAnyH_take (i := 5) (oi := ?oim31) (v := ?vm31) ?him31 (by kernel_rfl) (by kernel_rfl) (by kernel_rfl) ?hQm31 (Or.inl ⟨?hwm31, ?hym31⟩) (by assumption) ?restm31
            case him31 => simp only [List.getElem?_toArray, List.getElem?_cons_succ, List.getElem?_cons_zero]; exact rfl
            case hQm31 => exact fun _ _ _ h => h
            case hwm31 => rfl
            case hym31 => ((intro w hSw; have t0 := (hSw.cell (p := ⟨X1, 0, none⟩) hlX).trans p0; have t1 := (hSw.cell (p := ⟨X1, 1, none⟩) hlX).trans p1; have t2 := (hSw.cell (p := ⟨b, o + k * 8 + 5, none⟩) hbo).trans c5; go_simp) <;> with_reducible rfl)
            try simp only [Act.put, List.setIfInBounds_toArray, List.set_cons_zero, List.set_cons_succ]
            refine wpAnyH_ready (rs := [6, 11]) (by kernel_rfl) (by simp) ?_
            refine AllReadyH.cons (o := ?or32_6) ?hor32_6 (fun K hK => ?stepr32_6) (AllReadyH.cons (o := ?or32_11) ?hor32_11 (fun K hK => ?stepr32_11) (AllReadyH.nil))
            case hor32_6 => simp only [List.getElem?_toArray, List.getElem?_cons_succ, List.getElem?_cons_zero]; exact rfl
            case hor32_11 => simp only [List.getElem?_toArray, List.getElem?_cons_succ, List.getElem?_cons_zero]; exact rfl
            case stepr32_6 =>
              go_simp
              have hHv : Below wr.heap.size wr wr.drew := hHeld
              refine (impl_Find A1 n c A2 m d za zb (num RR (k * 8 + 5)) _ (Lst.of_own (TB.below hHv).one) (Lst.of_own (TB.below hHv).two) (by omega) (by omega)).mono ?_
              rintro e vc ⟨⟨s4, f4, ok4, hrel4, rfl⟩, hb4⟩
              generalize f4 0 = m0 at *
              generalize f4 1 = m1 at *
              generalize f4 2 = m2 at *
              generalize f4 3 = m3 at *
              clear hrel4
              refine hK.out _ _ ?hSr32_6 (fun hHeld => ?restr32_6)
              case hSr32_6 => exact hHv.trans (hb4.mono hHv.size)
              clear hK K
              try simp only [Act.put, List.setIfInBounds_toArray, List.set_cons_zero, List.set_cons_succ]
              refine wpAnyH_take (i := 7) (oi := ?oim33) (v := ?vm33) ?him33 (by kernel_rfl) (by kernel_rfl) (by kernel_rfl) ?hQm33 (Or.inl ⟨?hwm33, ?hym33⟩) (by assumption) ?restm33
              case him33 => simp only [List.getElem?_toArray, List.getElem?_cons_succ, List.getElem?_cons_zero]; exact rfl
              case hQm33 => exact fun _ _ _ h => h
              case hwm33 => rfl
              case hym33 => ((intro w hSw; (try dsimp only at hSw); go_simp) <;> with_reducible rfl)
              try simp only [Act.put, List.setIfInBounds_toArray, List.set_cons_zero, List.set_cons_succ]
              refine wpAnyH_take (i := 8) (oi := ?oim34) (v := ?vm34) ?him34 (by kernel_rfl) (by kernel_rfl) (by kernel_rfl) ?hQm34 (Or.inl ⟨?hwm34, ?hym34⟩) (by assumption) ?restm34
              case him34 => simp only [List.getElem?_toArray, List.getElem?_cons_succ, List.getElem?_cons_zero]; exact rfl
              case hQm34 => exact fun _ _ _ h => h
              case hwm34 => rfl
              case hym34 => ((intro w hSw; (try dsimp only at hSw); go_simp) <;> with_reducible rfl)
              try simp only [Act.put, List.setIfInBounds_toArray, List.set_cons_zero, List.set_cons_succ]
              refine wpAnyH_take (i := 9) (oi := ?oim35) (v := ?vm35) ?him35 (by kernel_rfl) (by kernel_rfl) (by kernel_rfl) ?hQm35 (Or.inl ⟨?hwm35, ?hym35⟩) (by assumption) ?restm35
              case him35 => simp only [List.getElem?_toArray, List.getElem?_cons_succ, List.getElem?_cons_zero]; exact rfl
              case hQm35 => exact fun _ _ _ h => h
              case hwm35 => rfl
              case hym35 => ((intro w hSw; (try dsimp only at hSw); go_simp) <;> with_reducible rfl)
              try simp only [Act.put, List.setIfInBounds_toArray, List.set_cons_zero, List.set_cons_succ]
              refine wpAnyH_take (i := 10) (oi := ?oim36) (v := ?vm36) ?him36 (by kernel_rfl) (by kernel_rfl) (by kernel_rfl) ?hQm36 (Or.inl ⟨?hwm36, ?hym36⟩) (by assumption) ?restm36
              case him36 => simp only [List.getElem?_toArray, List.getElem?_cons_succ, List.getElem?_cons_zero]; exact rfl
              case hQm36 => exact fun _ _ _ h => h
              case hwm36 => rfl
              case hym36 => ((intro w hSw; (try dsimp only at hSw); go_simp) <;> with_reducible rfl)
              try simp only [Act.put, List.setIfInBounds_toArray, List.set_cons_zero, List.set_cons_succ]
              refine wpAnyH_ready (rs := [11]) (by kernel_rfl) (by simp) ?_
              refine AllReadyH.cons (o := ?or37_11) ?hor37_11 (fun K hK => ?stepr37_11) (AllReadyH.nil)
              case hor37_11 => simp only [List.getElem?_toArray, List.getElem?_cons_succ, List.getElem?_cons_zero]; exact rfl
              case stepr37_11 =>
                go_simp
                have hG := heap_alloc_new vc (.cells #[.int .i64 0, .int .i64 0, .int .i64 0, .int .i64 0] 28)
                have hHv : Below wr.heap.size wr vc := hHeld
                have hGl : wr.heap.size ≤ vc.heap.size := hHv.size
                have hHa := hHv.alloc hHv.size (.cells #[.int .i64 0, .int .i64 0, .int .i64 0, .int .i64 0] 28)
                generalize vc.alloc (.cells #[.int .i64 0, .int .i64 0, .int .i64 0, .int .i64 0] 28) = va at *
                generalize vc.heap.size = G at *
                refine hK.out _ _ ?hSr37_11 (fun hHeld => ?restr37_11)
                case hSr37_11 => exact hHa
                clear hK K
                try simp only [Act.put, List.setIfInBounds_toArray, List.set_cons_zero, List.set_cons_succ]
                refine wpAnyH_take (i := 12) (oi := ?oim38) (v := ?vm38) ?him38 (by kernel_rfl) (by kernel_rfl) (by kernel_rfl) ?hQm38 (Or.inl ⟨?hwm38, ?hym38⟩) (by assumption) ?restm38
                case him38 => simp only [List.getElem?_toArray, List.getElem?_cons_succ, List.getElem?_cons_zero]; exact rfl
                case hQm38 => exact fun _ _ _ h => h
                case hwm38 => rfl
                case hym38 => ((intro w hSw; (try dsimp only at hSw); go_simp) <;> with_reducible rfl)
                try simp only [Act.put, List.setIfInBounds_toArray, List.set_cons_zero, List.set_cons_succ]
                refine wpAnyH_ready (rs := [13]) (by kernel_rfl) (by simp) ?_
                refine AllReadyH.cons (o := ?or39_13) ?hor39_13 (fun K hK => ?stepr39_13) (AllReadyH.nil)
                case hor39_13 => simp only [List.getElem?_toArray, List.getElem?_cons_succ, List.getElem?_cons_zero]; exact rfl
                case stepr39_13 =>
                  obtain ⟨y0, y1, y2, y3, x0, x1, x2, x3⟩ := ord_cell hG
                  go_simp
                  have hHv : Below wr.heap.size wr va := hHeld
                  have hG2 := ord_put (u0 := .int .i64 m0) (u1 := .int .i64 m1) (u2 := .int .i64 m2) (u3 := .int .i64 m3) hG
                  refine hK.out _ _ ?hSr39_13 (fun hHeld => ?restr39_13)
                  case hSr39_13 => exact (((hHv.setCell (p := ⟨G, 0, none⟩) hGl _).setCell (p := ⟨G, 1, none⟩) hGl _).setCell (p := ⟨G, 2, none⟩) hGl _).setCell (p := ⟨G, 3, none⟩) hGl _
                  clear hK K
                  try simp only [Act.put, List.setIfInBounds_toArray, List.set_cons_zero, List.set_cons_succ]
                  refine wpAnyH_take (i := 14) (oi := ?oim40) (v := ?vm40) ?him40 (by kernel_rfl) (by kernel_rfl) (by kernel_rfl) ?hQm40 (Or.inl ⟨?hwm40, ?hym40⟩) (by assumption) ?restm40
                  case him40 => simp only [List.getElem?_toArray, List.getElem?_cons_succ, List.getElem?_cons_zero]; exact rfl
                  case hQm40 => exact fun _ _ _ h => h
                  case hwm40 => rfl
                  case hym40 => ((intro w hSw; (try dsimp only at hSw); go_simp) <;> with_reducible rfl)
                  try simp only [Act.put, List.setIfInBounds_toArray, List.set_cons_zero, List.set_cons_succ]
                  refine wpAnyH_done (by kernel_rfl) ?_ _
                  go_upto_region 14 with fail
                  have hHz : Below wr.heap.size wr (((((va.setCell ⟨G, 0, none⟩ (.int .i64 m0)).setCell ⟨G, 1, none⟩ (.int .i64 m1)).setCell ⟨G, 2, none⟩ (.int .i64 m2))).setCell ⟨G, 3, none⟩ (.int .i64 m3)) := hHeld
                  clear hHeld y0 y1 y2 y3 x0 x1 x2 x3 hG
                  generalize (((((va.setCell ⟨G, 0, none⟩ (.int .i64 m0)).setCell ⟨G, 1, none⟩ (.int .i64 m1)).setCell ⟨G, 2, none⟩ (.int .i64 m2))).setCell ⟨G, 3, none⟩ (.int .i64 m3)) = wz at *
                  obtain ⟨y0, y1, y2, y3, -⟩ := ord_cell hG2
                  have HBV := Lib.hid (show Below w7.heap.size w7 wz from hbr.trans (hHz.mono hbr.size))
                  replace kO := (hHz.block _ (heap_lt kO)).trans kO
                  obtain ⟨o0, o1, o2, o3, -⟩ := ord_cell kO
                  replace c1 := (hHz.cell (p := ⟨b, o + k * 8 + 1, none⟩) hbo).trans c1
                  replace c4 := (hHz.cell (p := ⟨b, o + k * 8 + 4, none⟩) hbo).trans c4
                  clear hHz hG2 hbr p0 p1 c0 c2 c3 c5 c6 c7
                  rw [HKD.out] at c1
                  rw [HID.out] at c4
                  have hii : (oi == oi) = true := by simp
                  have hij : (oi != oi) = false := by simp
                  go_upto_region 16 with fail
                  go_region
                  all_goals go_upto_region 18 with fail
                  all_goals go_region
                  all_goals go_wp2_with fail
                  all_goals go_roundw
                  case rel => exact ⟨k + 1, by omega, by go_num, by rw [HCN.out], by rw [HCM.out]; go_num, HBV.out.drew.drew⟩
                  case measure => simp [intOf]; omega
            case stepr32_11 =>
              go_simp
              have hG : (wr.alloc (.cells #[.int .i64 0, .int .i64 0, .int .i64 0, .int .i64 0] 28)).drew.heap[wr.heap.size]? = _ := heap_alloc_new wr (.cells #[.int .i64 0, .int .i64 0, .int .i64 0, .int .i64 0] 28)
              have hGl : wr.heap.size ≤ wr.heap.size := Nat.le_refl _
              have hHa : Below wr.heap.size wr (wr.alloc (.cells #[.int .i64 0, .int .i64 0, .int .i64 0, .int .i64 0] 28)).drew := ((Below.refl _ _).alloc (Nat.le_refl _) (.cells #[.int .i64 0, .int .i64 0, .int .i64 0, .int .i64 0] 28)).drew
              generalize (wr.alloc (.cells #[.int .i64 0, .int .i64 0, .int .i64 0, .int .i64 0] 28)).drew = va at *
              refine hK.out _ _ ?hSr32_11 (fun hHeld => ?restr32_11)
              case hSr32_11 => exact hHa
              clear hK K
              try simp only [Act.put, List.setIfInBounds_toArray, List.set_cons_zero, List.set_cons_succ]
              refine wpAnyH_ready (rs := [6]) (by kernel_rfl) (by simp) ?_
              refine AllReadyH.cons (o := ?or41_6) ?hor41_6 (fun K hK => ?stepr41_6) (AllReadyH.nil)
              case hor41_6 => simp only [List.getElem?_toArray, List.getElem?_cons_succ, List.getElem?_cons_zero]; exact rfl
              case stepr41_6 =>
                go_simp
                have hHv : Below wr.heap.size wr va := hHeld
                refine (impl_Find A1 n c A2 m d za zb (num RR (k * 8 + 5)) _ (Lst.of_own (TB.below hHv).one) (Lst.of_own (TB.below hHv).two) (by omega) (by omega)).mono ?_
                rintro e vc ⟨⟨s4, f4, ok4, hrel4, rfl⟩, hb4⟩
                generalize f4 0 = m0 at *
                generalize f4 1 = m1 at *
                generalize f4 2 = m2 at *
                generalize f4 3 = m3 at *
                clear hrel4
                replace hG := (hb4.block _ (heap_lt hG)).trans hG
                refine hK.out _ _ ?hSr41_6 (fun hHeld => ?restr41_6)
                case hSr41_6 => exact hHv.trans (hb4.mono hHv.size)
                clear hK K
                try simp only [Act.put, List.setIfInBounds_toArray, List.set_cons_zero, List.set_cons_succ]
                refine wpAnyH_take (i := 7) (oi := ?oim42) (v := ?vm42) ?him42 (by kernel_rfl) (by kernel_rfl) (by kernel_rfl) ?hQm42 (Or.inl ⟨?hwm42, ?hym42⟩) (by assumption) ?restm42
                case him42 => simp only [List.getElem?_toArray, List.getElem?_cons_succ, List.getElem?_cons_zero]; exact rfl
                case hQm42 => exact fun _ _ _ h => h
                case hwm42 => rfl
                case hym42 => ((intro w hSw; (try dsimp only at hSw); go_simp) <;> with_reducible rfl)
                try simp only [Act.put, List.setIfInBounds_toArray, List.set_cons_zero, List.set_cons_succ]
                refine wpAnyH_take (i := 8) (oi := ?oim43) (v := ?vm43) ?him43 (by kernel_rfl) (by kernel_rfl) (by kernel_rfl) ?hQm43 (Or.inl ⟨?hwm43, ?hym43⟩) (by assumption) ?restm43
                case him43 => simp only [List.getElem?_toArray, List.getElem?_cons_succ, List.getElem?_cons_zero]; exact rfl
                case hQm43 => exact fun _ _ _ h => h
                case hwm43 => rfl
                case hym43 => ((intro w hSw; (try dsimp only at hSw); go_simp) <;> with_reducible rfl)
                try simp only [Act.put, List.setIfInBounds_toArray, List.set_cons_zero, List.set_cons_succ]
                refine wpAnyH_take (i := 9) (oi := ?oim44) (v := ?vm44) ?him44 (by kernel_rfl) (by kernel_rfl) (by kernel_rfl) ?hQm44 (Or.inl ⟨?hwm44, ?hym44⟩) (by assumption) ?restm44
                case him44 => simp only [List.getElem?_toArray, List.getElem?_cons_succ, List.getElem?_cons_zero]; exact rfl
                case hQm44 => exact fun _ _ _ h => h
                case hwm44 => rfl
                case hym44 => ((intro w hSw; (try dsimp only at hSw); go_simp) <;> with_reducible rfl)
                try simp only [Act.put, List.setIfInBounds_toArray, List.set_cons_zero, List.set_cons_succ]
                refine wpAnyH_take (i := 10) (oi := ?oim45) (v := ?vm45) ?him45 (by kernel_rfl) (by kernel_rfl) (by kernel_rfl) ?hQm45 (Or.inl ⟨?hwm45, ?hym45⟩) (by assumption) ?restm45
                case him45 => simp only [List.getElem?_toArray, List.getElem?_cons_succ, List.getElem?_cons_zero]; exact rfl
                case hQm45 => exact fun _ _ _ h => h
                case hwm45 => rfl
                case hym45 => ((intro w hSw; (try dsimp only at hSw); go_simp) <;> with_reducible rfl)
                try simp only [Act.put, List.setIfInBounds_toArray, List.set_cons_zero, List.set_cons_succ]
                refine wpAnyH_take (i := 12) (oi := ?oim46) (v := ?vm46) ?him46 (by kernel_rfl) (by kernel_rfl) (by kernel_rfl) ?hQm46 (Or.inl ⟨?hwm46, ?hym46⟩) (by assumption) ?restm46
                case him46 => simp only [List.getElem?_toArray, List.getElem?_cons_succ, List.getElem?_cons_zero]; exact rfl
                case hQm46 => exact fun _ _ _ h => h
                case hwm46 => rfl
                case hym46 => ((intro w hSw; (try dsimp only at hSw); go_simp) <;> with_reducible rfl)
                try simp only [Act.put, List.setIfInBounds_toArray, List.set_cons_zero, List.set_cons_succ]
                refine wpAnyH_ready (rs := [13]) (by kernel_rfl) (by simp) ?_
                refine AllReadyH.cons (o := ?or47_13) ?hor47_13 (fun K hK => ?stepr47_13) (AllReadyH.nil)
                case hor47_13 => simp only [List.getElem?_toArray, List.getElem?_cons_succ, List.getElem?_cons_zero]; exact rfl
                case stepr47_13 =>
                  obtain ⟨y0, y1, y2, y3, x0, x1, x2, x3⟩ := ord_cell hG
                  go_simp
                  have hHv : Below wr.heap.size wr vc := hHeld
                  have hG2 := ord_put (u0 := .int .i64 m0) (u1 := .int .i64 m1) (u2 := .int .i64 m2) (u3 := .int .i64 m3) hG
                  refine hK.out _ _ ?hSr47_13 (fun hHeld => ?restr47_13)
                  case hSr47_13 => exact (((hHv.setCell (p := ⟨wr.heap.size, 0, none⟩) hGl _).setCell (p := ⟨wr.heap.size, 1, none⟩) hGl _).setCell (p := ⟨wr.heap.size, 2, none⟩) hGl _).setCell (p := ⟨wr.heap.size, 3, none⟩) hGl _
                  clear hK K
                  try simp only [Act.put, List.setIfInBounds_toArray, List.set_cons_zero, List.set_cons_succ]
                  refine wpAnyH_take (i := 14) (oi := ?oim48) (v := ?vm48) ?him48 (by kernel_rfl) (by kernel_rfl) (by kernel_rfl) ?hQm48 (Or.inl ⟨?hwm48, ?hym48⟩) (by assumption) ?restm48
                  case him48 => simp only [List.getElem?_toArray, List.getElem?_cons_succ, List.getElem?_cons_zero]; exact rfl
                  case hQm48 => exact fun _ _ _ h => h
                  case hwm48 => rfl
                  case hym48 => ((intro w hSw; (try dsimp only at hSw); go_simp) <;> with_reducible rfl)
                  try simp only [Act.put, List.setIfInBounds_toArray, List.set_cons_zero, List.set_cons_succ]
                  refine wpAnyH_done (by kernel_rfl) ?_ _
                  go_upto_region 14 with fail
                  have hHz : Below wr.heap.size wr (((((vc.setCell ⟨wr.heap.size, 0, none⟩ (.int .i64 m0)).setCell ⟨wr.heap.size, 1, none⟩ (.int .i64 m1)).setCell ⟨wr.heap.size, 2, none⟩ (.int .i64 m2))).setCell ⟨wr.heap.size, 3, none⟩ (.int .i64 m3)) := hHeld
                  clear hHeld y0 y1 y2 y3 x0 x1 x2 x3 hG
                  generalize (((((vc.setCell ⟨wr.heap.size, 0, none⟩ (.int .i64 m0)).setCell ⟨wr.heap.size, 1, none⟩ (.int .i64 m1)).setCell ⟨wr.heap.size, 2, none⟩ (.int .i64 m2))).setCell ⟨wr.heap.size, 3, none⟩ (.int .i64 m3)) = wz at *
                  obtain ⟨y0, y1, y2, y3, -⟩ := ord_cell hG2
                  have HBV := Lib.hid (show Below w7.heap.size w7 wz from hbr.trans (hHz.mono hbr.size))
                  replace kO := (hHz.block _ (heap_lt kO)).trans kO
                  obtain ⟨o0, o1, o2, o3, -⟩ := ord_cell kO
                  replace c1 := (hHz.cell (p := ⟨b, o + k * 8 + 1, none⟩) hbo).trans c1
                  replace c4 := (hHz.cell (p := ⟨b, o + k * 8 + 4, none⟩) hbo).trans c4
                  clear hHz hG2 hbr p0 p1 c0 c2 c3 c5 c6 c7
                  rw [HKD.out] at c1
                  rw [HID.out] at c4
                  have hii : (oi == oi) = true := by simp
                  have hij : (oi != oi) = false := by simp
                  go_upto_region 16 with fail
                  go_region
                  all_goals go_upto_region 18 with fail
                  all_goals go_region
                  all_goals go_wp2_with fail
                  all_goals go_roundw
                  case rel => exact ⟨k + 1, by omega, by go_num, by rw [HCN.out], by rw [HCM.out]; go_num, HBV.out.drew.drew⟩
                  case measure => simp [intOf]; omega
          · have HID := Lib.hid hid
            replace HCN := Lib.hid (HCN.out.trans (if_pos (by rw [hkd]; simp [ownP, hid])))
            replace HCM := Lib.hid (HCM.out.trans (if_neg (by rw [hkd]; simp [minP, hid])))
            clear hkd hid
            go_upto_region 13 with fail
            refine wp_region_held_drew (S := (fun w' => Below wr.heap.size wr w')) (by kernel_rfl) ?hSm49 (fun hHeld => ?restm49)
            case hSm49 => exact (Below.refl _ _).drew
            refine wpAnyH_take (i := 0) (oi := ?oim50) (v := ?vm50) ?him50 (by kernel_rfl) (by kernel_rfl) (by kernel_rfl) ?hQm50 (Or.inl ⟨?hwm50, ?hym50⟩) (by assumption) ?restm50
            case him50 => simp only [List.getElem?_toArray, List.getElem?_cons_succ, List.getElem?_cons_zero]; exact rfl
            case hQm50 => exact fun _ _ _ h => h
            case hwm50 => rfl
            case hym50 => ((intro w hSw; have t0 := (hSw.cell (p := ⟨X1, 0, none⟩) hlX).trans p0; have t1 := (hSw.cell (p := ⟨X1, 1, none⟩) hlX).trans p1; have t2 := (hSw.cell (p := ⟨b, o + k * 8 + 5, none⟩) hbo).trans c5; go_simp) <;> with_reducible rfl)
            try simp only [Act.put, List.setIfInBounds_toArray, List.set_cons_zero, List.set_cons_succ]
            refine wpAnyH_take (i := 1) (oi := ?oim51) (v := ?vm51) ?him51 (by kernel_rfl) (by kernel_rfl) (by kernel_rfl) ?hQm51 (Or.inl ⟨?hwm51, ?hym51⟩) (by assumption) ?restm51
            case him51 => simp only [List.getElem?_toArray, List.getElem?_cons_succ, List.getElem?_cons_zero]; exact rfl
            case hQm51 => exact fun _ _ _ h => h
            case hwm51 => rfl
            case hym51 => ((intro w hSw; (try dsimp only at hSw); go_simp) <;> with_reducible rfl)
            try simp only [Act.put, List.setIfInBounds_toArray, List.set_cons_zero, List.set_cons_succ]
            refine wpAnyH_take (i := 2) (oi := ?oim52) (v := ?vm52) ?him52 (by kernel_rfl) (by kernel_rfl) (by kernel_rfl) ?hQm52 (Or.inl ⟨?hwm52, ?hym52⟩) (by assumption) ?restm52
            case him52 => simp only [List.getElem?_toArray, List.getElem?_cons_succ, List.getElem?_cons_zero]; exact rfl
            case hQm52 => exact fun _ _ _ h => h
            case hwm52 => rfl
            case hym52 => ((intro w hSw; (try dsimp only at hSw); go_simp) <;> with_reducible rfl)
            try simp only [Act.put, List.setIfInBounds_toArray, List.set_cons_zero, List.set_cons_succ]
            refine wpAnyH_take (i := 3) (oi := ?oim53) (v := ?vm53) ?him53 (by kernel_rfl) (by kernel_rfl) (by kernel_rfl) ?hQm53 (Or.inl ⟨?hwm53, ?hym53⟩) (by assumption) ?restm53
            case him53 => simp only [List.getElem?_toArray, List.getElem?_cons_succ, List.getElem?_cons_zero]; exact rfl
            case hQm53 => exact fun _ _ _ h => h
            case hwm53 => rfl
            case hym53 => ((intro w hSw; (try dsimp only at hSw); go_simp) <;> with_reducible rfl)
            try simp only [Act.put, List.setIfInBounds_toArray, List.set_cons_zero, List.set_cons_succ]
            refine wpAnyH_take (i := 4) (oi := ?oim54) (v := ?vm54) ?him54 (by kernel_rfl) (by kernel_rfl) (by kernel_rfl) ?hQm54 (Or.inl ⟨?hwm54, ?hym54⟩) (by assumption) ?restm54
            case him54 => simp only [List.getElem?_toArray, List.getElem?_cons_succ, List.getElem?_cons_zero]; exact rfl
            case hQm54 => exact fun _ _ _ h => h
            case hwm54 => rfl
            case hym54 => ((intro w hSw; (try dsimp only at hSw); go_simp) <;> with_reducible rfl)
            try simp only [Act.put, List.setIfInBounds_toArray, List.set_cons_zero, List.set_cons_succ]
            refine wpAnyH_take (i := 5) (oi := ?oim55) (v := ?vm55) ?him55 (by kernel_rfl) (by kernel_rfl) (by kernel_rfl) ?hQm55 (Or.inl ⟨?hwm55, ?hym55⟩) (by assumption) ?restm55
            case him55 => simp only [List.getElem?_toArray, List.getElem?_cons_succ, List.getElem?_cons_zero]; exact rfl
            case hQm55 => exact fun _ _ _ h => h
            case hwm55 => rfl
            case hym55 => ((intro w hSw; have t0 := (hSw.cell (p := ⟨X1, 0, none⟩) hlX).trans p0; have t1 := (hSw.cell (p := ⟨X1, 1, none⟩) hlX).trans p1; have t2 := (hSw.cell (p := ⟨b, o + k * 8 + 5, none⟩) hbo).trans c5; go_simp) <;> with_reducible rfl)
            try simp only [Act.put, List.setIfInBounds_toArray, List.set_cons_zero, List.set_cons_succ]
            refine wpAnyH_ready (rs := [6, 11]) (by kernel_rfl) (by simp) ?_
            refine AllReadyH.cons (o := ?or56_6) ?hor56_6 (fun K hK => ?stepr56_6) (AllReadyH.cons (o := ?or56_11) ?hor56_11 (fun K hK => ?stepr56_11) (AllReadyH.nil))
            case hor56_6 => simp only [List.getElem?_toArray, List.getElem?_cons_succ, List.getElem?_cons_zero]; exact rfl
            case hor56_11 => simp only [List.getElem?_toArray, List.getElem?_cons_succ, List.getElem?_cons_zero]; exact rfl
            case stepr56_6 =>
              go_simp
              have hHv : Below wr.heap.size wr wr.drew := hHeld
              refine (impl_Find A1 n c A2 m d za zb (num RR (k * 8 + 5)) _ (Lst.of_own (TB.below hHv).one) (Lst.of_own (TB.below hHv).two) (by omega) (by omega)).mono ?_
              rintro e vc ⟨⟨s4, f4, ok4, hrel4, rfl⟩, hb4⟩
              generalize f4 0 = m0 at *
              generalize f4 1 = m1 at *
              generalize f4 2 = m2 at *
              generalize f4 3 = m3 at *
              clear hrel4
              refine hK.out _ _ ?hSr56_6 (fun hHeld => ?restr56_6)
              case hSr56_6 => exact hHv.trans (hb4.mono hHv.size)
              clear hK K
              try simp only [Act.put, List.setIfInBounds_toArray, List.set_cons_zero, List.set_cons_succ]
              refine wpAnyH_take (i := 7) (oi := ?oim57) (v := ?vm57) ?him57 (by kernel_rfl) (by kernel_rfl) (by kernel_rfl) ?hQm57 (Or.inl ⟨?hwm57, ?hym57⟩) (by assumption) ?restm57
              case him57 => simp only [List.getElem?_toArray, List.getElem?_cons_succ, List.getElem?_cons_zero]; exact rfl
              case hQm57 => exact fun _ _ _ h => h
              case hwm57 => rfl
              case hym57 => ((intro w hSw; (try dsimp only at hSw); go_simp) <;> with_reducible rfl)
              try simp only [Act.put, List.setIfInBounds_toArray, List.set_cons_zero, List.set_cons_succ]
              refine wpAnyH_take (i := 8) (oi := ?oim58) (v := ?vm58) ?him58 (by kernel_rfl) (by kernel_rfl) (by kernel_rfl) ?hQm58 (Or.inl ⟨?hwm58, ?hym58⟩) (by assumption) ?restm58
              case him58 => simp only [List.getElem?_toArray, List.getElem?_cons_succ, List.getElem?_cons_zero]; exact rfl
              case hQm58 => exact fun _ _ _ h => h
              case hwm58 => rfl
              case hym58 => ((intro w hSw; (try dsimp only at hSw); go_simp) <;> with_reducible rfl)
              try simp only [Act.put, List.setIfInBounds_toArray, List.set_cons_zero, List.set_cons_succ]
              refine wpAnyH_take (i := 9) (oi := ?oim59) (v := ?vm59) ?him59 (by kernel_rfl) (by kernel_rfl) (by kernel_rfl) ?hQm59 (Or.inl ⟨?hwm59, ?hym59⟩) (by assumption) ?restm59
              case him59 => simp only [List.getElem?_toArray, List.getElem?_cons_succ, List.getElem?_cons_zero]; exact rfl
              case hQm59 => exact fun _ _ _ h => h
              case hwm59 => rfl
              case hym59 => ((intro w hSw; (try dsimp only at hSw); go_simp) <;> with_reducible rfl)
              try simp only [Act.put, List.setIfInBounds_toArray, List.set_cons_zero, List.set_cons_succ]
              refine wpAnyH_take (i := 10) (oi := ?oim60) (v := ?vm60) ?him60 (by kernel_rfl) (by kernel_rfl) (by kernel_rfl) ?hQm60 (Or.inl ⟨?hwm60, ?hym60⟩) (by assumption) ?restm60
              case him60 => simp only [List.getElem?_toArray, List.getElem?_cons_succ, List.getElem?_cons_zero]; exact rfl
              case hQm60 => exact fun _ _ _ h => h
              case hwm60 => rfl
              case hym60 => ((intro w hSw; (try dsimp only at hSw); go_simp) <;> with_reducible rfl)
              try simp only [Act.put, List.setIfInBounds_toArray, List.set_cons_zero, List.set_cons_succ]
              refine wpAnyH_ready (rs := [11]) (by kernel_rfl) (by simp) ?_
              refine AllReadyH.cons (o := ?or61_11) ?hor61_11 (fun K hK => ?stepr61_11) (AllReadyH.nil)
              case hor61_11 => simp only [List.getElem?_toArray, List.getElem?_cons_succ, List.getElem?_cons_zero]; exact rfl
              case stepr61_11 =>
                go_simp
                have hG := heap_alloc_new vc (.cells #[.int .i64 0, .int .i64 0, .int .i64 0, .int .i64 0] 28)
                have hHv : Below wr.heap.size wr vc := hHeld
                have hGl : wr.heap.size ≤ vc.heap.size := hHv.size
                have hHa := hHv.alloc hHv.size (.cells #[.int .i64 0, .int .i64 0, .int .i64 0, .int .i64 0] 28)
                generalize vc.alloc (.cells #[.int .i64 0, .int .i64 0, .int .i64 0, .int .i64 0] 28) = va at *
                generalize vc.heap.size = G at *
                refine hK.out _ _ ?hSr61_11 (fun hHeld => ?restr61_11)
                case hSr61_11 => exact hHa
                clear hK K
                try simp only [Act.put, List.setIfInBounds_toArray, List.set_cons_zero, List.set_cons_succ]
                refine wpAnyH_take (i := 12) (oi := ?oim62) (v := ?vm62) ?him62 (by kernel_rfl) (by kernel_rfl) (by kernel_rfl) ?hQm62 (Or.inl ⟨?hwm62, ?hym62⟩) (by assumption) ?restm62
                case him62 => simp only [List.getElem?_toArray, List.getElem?_cons_succ, List.getElem?_cons_zero]; exact rfl
                case hQm62 => exact fun _ _ _ h => h
                case hwm62 => rfl
                case hym62 => ((intro w hSw; (try dsimp only at hSw); go_simp) <;> with_reducible rfl)
                try simp only [Act.put, List.setIfInBounds_toArray, List.set_cons_zero, List.set_cons_succ]
                refine wpAnyH_ready (rs := [13]) (by kernel_rfl) (by simp) ?_
                refine AllReadyH.cons (o := ?or63_13) ?hor63_13 (fun K hK => ?stepr63_13) (AllReadyH.nil)
                case hor63_13 => simp only [List.getElem?_toArray, List.getElem?_cons_succ, List.getElem?_cons_zero]; exact rfl
                case stepr63_13 =>
                  obtain ⟨y0, y1, y2, y3, x0, x1, x2, x3⟩ := ord_cell hG
                  go_simp
                  have hHv : Below wr.heap.size wr va := hHeld
                  have hG2 := ord_put (u0 := .int .i64 m0) (u1 := .int .i64 m1) (u2 := .int .i64 m2) (u3 := .int .i64 m3) hG
                  refine hK.out _ _ ?hSr63_13 (fun hHeld => ?restr63_13)
                  case hSr63_13 => exact (((hHv.setCell (p := ⟨G, 0, none⟩) hGl _).setCell (p := ⟨G, 1, none⟩) hGl _).setCell (p := ⟨G, 2, none⟩) hGl _).setCell (p := ⟨G, 3, none⟩) hGl _
                  clear hK K
                  try simp only [Act.put, List.setIfInBounds_toArray, List.set_cons_zero, List.set_cons_succ]
                  refine wpAnyH_take (i := 14) (oi := ?oim64) (v := ?vm64) ?him64 (by kernel_rfl) (by kernel_rfl) (by kernel_rfl) ?hQm64 (Or.inl ⟨?hwm64, ?hym64⟩) (by assumption) ?restm64
                  case him64 => simp only [List.getElem?_toArray, List.getElem?_cons_succ, List.getElem?_cons_zero]; exact rfl
                  case hQm64 => exact fun _ _ _ h => h
                  case hwm64 => rfl
                  case hym64 => ((intro w hSw; (try dsimp only at hSw); go_simp) <;> with_reducible rfl)
                  try simp only [Act.put, List.setIfInBounds_toArray, List.set_cons_zero, List.set_cons_succ]
                  refine wpAnyH_done (by kernel_rfl) ?_ _
                  go_upto_region 14 with fail
                  have hHz : Below wr.heap.size wr (((((va.setCell ⟨G, 0, none⟩ (.int .i64 m0)).setCell ⟨G, 1, none⟩ (.int .i64 m1)).setCell ⟨G, 2, none⟩ (.int .i64 m2))).setCell ⟨G, 3, none⟩ (.int .i64 m3)) := hHeld
                  clear hHeld y0 y1 y2 y3 x0 x1 x2 x3 hG
                  generalize (((((va.setCell ⟨G, 0, none⟩ (.int .i64 m0)).setCell ⟨G, 1, none⟩ (.int .i64 m1)).setCell ⟨G, 2, none⟩ (.int .i64 m2))).setCell ⟨G, 3, none⟩ (.int .i64 m3)) = wz at *
                  obtain ⟨y0, y1, y2, y3, -⟩ := ord_cell hG2
                  have HBV := Lib.hid (show Below w7.heap.size w7 wz from hbr.trans (hHz.mono hbr.size))
                  replace kO := (hHz.block _ (heap_lt kO)).trans kO
                  obtain ⟨o0, o1, o2, o3, -⟩ := ord_cell kO
                  replace c1 := (hHz.cell (p := ⟨b, o + k * 8 + 1, none⟩) hbo).trans c1
                  replace c4 := (hHz.cell (p := ⟨b, o + k * 8 + 4, none⟩) hbo).trans c4
                  clear hHz hG2 hbr p0 p1 c0 c2 c3 c5 c6 c7
                  rw [HKD.out] at c1
                  have hii : (num RR (k * 8 + 4) == oi) = false := beq_eq_false_iff_ne.2 HID.out
                  have hij : (num RR (k * 8 + 4) != oi) = true := by simp [HID.out]
                  go_upto_region 16 with fail
                  go_region
                  all_goals go_upto_region 18 with fail
                  all_goals go_region
                  all_goals go_wp2_with fail
                  all_goals go_roundw
                  case rel => exact ⟨k + 1, by omega, by go_num, by rw [HCN.out]; go_num, by rw [HCM.out], HBV.out.drew.drew⟩
                  case measure => simp [intOf]; omega
            case stepr56_11 =>
              go_simp
              have hG : (wr.alloc (.cells #[.int .i64 0, .int .i64 0, .int .i64 0, .int .i64 0] 28)).drew.heap[wr.heap.size]? = _ := heap_alloc_new wr (.cells #[.int .i64 0, .int .i64 0, .int .i64 0, .int .i64 0] 28)
              have hGl : wr.heap.size ≤ wr.heap.size := Nat.le_refl _
              have hHa : Below wr.heap.size wr (wr.alloc (.cells #[.int .i64 0, .int .i64 0, .int .i64 0, .int .i64 0] 28)).drew := ((Below.refl _ _).alloc (Nat.le_refl _) (.cells #[.int .i64 0, .int .i64 0, .int .i64 0, .int .i64 0] 28)).drew
              generalize (wr.alloc (.cells #[.int .i64 0, .int .i64 0, .int .i64 0, .int .i64 0] 28)).drew = va at *
              refine hK.out _ _ ?hSr56_11 (fun hHeld => ?restr56_11)
              case hSr56_11 => exact hHa
              clear hK K
              try simp only [Act.put, List.setIfInBounds_toArray, List.set_cons_zero, List.set_cons_succ]
              refine wpAnyH_ready (rs := [6]) (by kernel_rfl) (by simp) ?_
              refine AllReadyH.cons (o := ?or65_6) ?hor65_6 (fun K hK => ?stepr65_6) (AllReadyH.nil)
              case hor65_6 => simp only [List.getElem?_toArray, List.getElem?_cons_succ, List.getElem?_cons_zero]; exact rfl
              case stepr65_6 =>
                go_simp
                have hHv : Below wr.heap.size wr va := hHeld
                refine (impl_Find A1 n c A2 m d za zb (num RR (k * 8 + 5)) _ (Lst.of_own (TB.below hHv).one) (Lst.of_own (TB.below hHv).two) (by omega) (by omega)).mono ?_
                rintro e vc ⟨⟨s4, f4, ok4, hrel4, rfl⟩, hb4⟩
                generalize f4 0 = m0 at *
                generalize f4 1 = m1 at *
                generalize f4 2 = m2 at *
                generalize f4 3 = m3 at *
                clear hrel4
                replace hG := (hb4.block _ (heap_lt hG)).trans hG
                refine hK.out _ _ ?hSr65_6 (fun hHeld => ?restr65_6)
                case hSr65_6 => exact hHv.trans (hb4.mono hHv.size)
                clear hK K
                try simp only [Act.put, List.setIfInBounds_toArray, List.set_cons_zero, List.set_cons_succ]
                refine wpAnyH_take (i := 7) (oi := ?oim66) (v := ?vm66) ?him66 (by kernel_rfl) (by kernel_rfl) (by kernel_rfl) ?hQm66 (Or.inl ⟨?hwm66, ?hym66⟩) (by assumption) ?restm66
                case him66 => simp only [List.getElem?_toArray, List.getElem?_cons_succ, List.getElem?_cons_zero]; exact rfl
                case hQm66 => exact fun _ _ _ h => h
                case hwm66 => rfl
                case hym66 => ((intro w hSw; (try dsimp only at hSw); go_simp) <;> with_reducible rfl)
                try simp only [Act.put, List.setIfInBounds_toArray, List.set_cons_zero, List.set_cons_succ]
                refine wpAnyH_take (i := 8) (oi := ?oim67) (v := ?vm67) ?him67 (by kernel_rfl) (by kernel_rfl) (by kernel_rfl) ?hQm67 (Or.inl ⟨?hwm67, ?hym67⟩) (by assumption) ?restm67
                case him67 => simp only [List.getElem?_toArray, List.getElem?_cons_succ, List.getElem?_cons_zero]; exact rfl
                case hQm67 => exact fun _ _ _ h => h
                case hwm67 => rfl
                case hym67 => ((intro w hSw; (try dsimp only at hSw); go_simp) <;> with_reducible rfl)
                try simp only [Act.put, List.setIfInBounds_toArray, List.set_cons_zero, List.set_cons_succ]
                refine wpAnyH_take (i := 9) (oi := ?oim68) (v := ?vm68) ?him68 (by kernel_rfl) (by kernel_rfl) (by kernel_rfl) ?hQm68 (Or.inl ⟨?hwm68, ?hym68⟩) (by assumption) ?restm68
                case him68 => simp only [List.getElem?_toArray, List.getElem?_cons_succ, List.getElem?_cons_zero]; exact rfl
                case hQm68 => exact fun _ _ _ h => h
                case hwm68 => rfl
                case hym68 => ((intro w hSw; (try dsimp only at hSw); go_simp) <;> with_reducible rfl)
                try simp only [Act.put, List.setIfInBounds_toArray, List.set_cons_zero, List.set_cons_succ]
                refine wpAnyH_take (i := 10) (oi := ?oim69) (v := ?vm69) ?him69 (by kernel_rfl) (by kernel_rfl) (by kernel_rfl) ?hQm69 (Or.inl ⟨?hwm69, ?hym69⟩) (by assumption) ?restm69
                case him69 => simp only [List.getElem?_toArray, List.getElem?_cons_succ, List.getElem?_cons_zero]; exact rfl
                case hQm69 => exact fun _ _ _ h => h
                case hwm69 => rfl
                case hym69 => ((intro w hSw; (try dsimp only at hSw); go_simp) <;> with_reducible rfl)
                try simp only [Act.put, List.setIfInBounds_toArray, List.set_cons_zero, List.set_cons_succ]
                refine wpAnyH_take (i := 12) (oi := ?oim70) (v := ?vm70) ?him70 (by kernel_rfl) (by kernel_rfl) (by kernel_rfl) ?hQm70 (Or.inl ⟨?hwm70, ?hym70⟩) (by assumption) ?restm70
                case him70 => simp only [List.getElem?_toArray, List.getElem?_cons_succ, List.getElem?_cons_zero]; exact rfl
                case hQm70 => exact fun _ _ _ h => h
                case hwm70 => rfl
                case hym70 => ((intro w hSw; (try dsimp only at hSw); go_simp) <;> with_reducible rfl)
                try simp only [Act.put, List.setIfInBounds_toArray, List.set_cons_zero, List.set_cons_succ]
                refine wpAnyH_ready (rs := [13]) (by kernel_rfl) (by simp) ?_
                refine AllReadyH.cons (o := ?or71_13) ?hor71_13 (fun K hK => ?stepr71_13) (AllReadyH.nil)
                case hor71_13 => simp only [List.getElem?_toArray, List.getElem?_cons_succ, List.getElem?_cons_zero]; exact rfl
                case stepr71_13 =>
                  obtain ⟨y0, y1, y2, y3, x0, x1, x2, x3⟩ := ord_cell hG
                  go_simp
                  have hHv : Below wr.heap.size wr vc := hHeld
                  have hG2 := ord_put (u0 := .int .i64 m0) (u1 := .int .i64 m1) (u2 := .int .i64 m2) (u3 := .int .i64 m3) hG
                  refine hK.out _ _ ?hSr71_13 (fun hHeld => ?restr71_13)
                  case hSr71_13 => exact (((hHv.setCell (p := ⟨wr.heap.size, 0, none⟩) hGl _).setCell (p := ⟨wr.heap.size, 1, none⟩) hGl _).setCell (p := ⟨wr.heap.size, 2, none⟩) hGl _).setCell (p := ⟨wr.heap.size, 3, none⟩) hGl _
                  clear hK K
                  try simp only [Act.put, List.setIfInBounds_toArray, List.set_cons_zero, List.set_cons_succ]
                  refine wpAnyH_take (i := 14) (oi := ?oim72) (v := ?vm72) ?him72 (by kernel_rfl) (by kernel_rfl) (by kernel_rfl) ?hQm72 (Or.inl ⟨?hwm72, ?hym72⟩) (by assumption) ?restm72
                  case him72 => simp only [List.getElem?_toArray, List.getElem?_cons_succ, List.getElem?_cons_zero]; exact rfl
                  case hQm72 => exact fun _ _ _ h => h
                  case hwm72 => rfl
                  case hym72 => ((intro w hSw; (try dsimp only at hSw); go_simp) <;> with_reducible rfl)
                  try simp only [Act.put, List.setIfInBounds_toArray, List.set_cons_zero, List.set_cons_succ]
                  refine wpAnyH_done (by kernel_rfl) ?_ _
                  go_upto_region 14 with fail
                  have hHz : Below wr.heap.size wr (((((vc.setCell ⟨wr.heap.size, 0, none⟩ (.int .i64 m0)).setCell ⟨wr.heap.size, 1, none⟩ (.int .i64 m1)).setCell ⟨wr.heap.size, 2, none⟩ (.int .i64 m2))).setCell ⟨wr.heap.size, 3, none⟩ (.int .i64 m3)) := hHeld
                  clear hHeld y0 y1 y2 y3 x0 x1 x2 x3 hG
                  generalize (((((vc.setCell ⟨wr.heap.size, 0, none⟩ (.int .i64 m0)).setCell ⟨wr.heap.size, 1, none⟩ (.int .i64 m1)).setCell ⟨wr.heap.size, 2, none⟩ (.int .i64 m2))).setCell ⟨wr.heap.size, 3, none⟩ (.int .i64 m3)) = wz at *
                  obtain ⟨y0, y1, y2, y3, -⟩ := ord_cell hG2
                  have HBV := Lib.hid (show Below w7.heap.size w7 wz from hbr.trans (hHz.mono hbr.size))
                  replace kO := (hHz.block _ (heap_lt kO)).trans kO
                  obtain ⟨o0, o1, o2, o3, -⟩ := ord_cell kO
                  replace c1 := (hHz.cell (p := ⟨b, o + k * 8 + 1, none⟩) hbo).trans c1
                  replace c4 := (hHz.cell (p := ⟨b, o + k * 8 + 4, none⟩) hbo).trans c4
                  clear hHz hG2 hbr p0 p1 c0 c2 c3 c5 c6 c7
                  rw [HKD.out] at c1
                  have hii : (num RR (k * 8 + 4) == oi) = false := beq_eq_false_iff_ne.2 HID.out
                  have hij : (num RR (k * 8 + 4) != oi) = true := by simp [HID.out]
                  go_upto_region 16 with fail
                  go_region
                  all_goals go_upto_region 18 with fail
                  all_goals go_region
                  all_goals go_wp2_with fail
                  all_goals go_roundw
                  case rel => exact ⟨k + 1, by omega, by go_num, by rw [HCN.out]; go_num, by rw [HCM.out], HBV.out.drew.drew⟩
                  case measure => simp [intOf]; omega
      · obtain rfl : N' = k := by omega
        have hl1 := HLE.out (ownP oi)
        have hl2 := HLE.out (minP oi)
        rcases HMD.out with hmd | hmd | hmd
        · obtain ⟨e1, e2⟩ := HM1.out hmd
          simp only [cntR, Nat.zero_add] at e1 e2
          subst hmd
          rw [e1]
          have e3 : ((cntR (minP oi) RR N' : Nat) : Int) ≤ 1 := by omega
          go_wp2_with fail
          go_ret
          exact ⟨by first | rfl | simp, D⟩
        · have e1 := HM2.out hmd
          simp only [cntR] at e1
          subst hmd
          rw [e1]
          go_wp2_with fail
          go_ret
          exact ⟨by first | rfl | simp, D⟩
        · obtain ⟨x, hx, e1, e2⟩ := HM3.out (by omega) (by omega)
          simp only [cntR, Nat.zero_add] at e1 e2
          subst hmd
          rw [e1, e2]
          have e3 : (x : Int) ≤ 1 := by omega
          go_wp2_with fail
          go_ret
          exact ⟨by first | rfl | simp, D⟩
end Go.Proofs.Ytdjmejjponlfoaa
