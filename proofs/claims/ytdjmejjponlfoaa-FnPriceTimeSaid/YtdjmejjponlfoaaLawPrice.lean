/-
  The drawn law of price and time.
-/
import Derived.Test.YtdjmejjponlfoaaGD
import Derived.Test.YtdjmejjponlfoaaMtY
import Derived.Test.YtdjmejjponlfoaaGF
import Derived.Test.YtdjmejjponlfoaaGS
import Derived.Test.YtdjmejjponlfoaaLawInts
import Derived.Test.YtdjmejjponlfoaaLawCell
namespace Go.Proofs.Ytdjmejjponlfoaa
open Go.RowKit Wire

theorem m_len {za zb : List Int} {n m : Nat} {rg : Bool} {side oi oa op oq mode : Int} (ha : za.length = n * 4) (hb : zb.length = m * 4) (h : rgB za n zb m side oi oa op oq mode = rg) (hn : n ≤ 20) (hm : m ≤ 20) :
    (mZ1 rg side oi oa op oq mode za zb).length / 4 ≤ 20 ∧ (mZ2 rg side oi oa op oq mode za zb).length / 4 ≤ 20 ∧ (mRR rg side oi oa op oq mode za zb).length / 8 ≤ 41 := by
  cases rg
  · simp [mZ1, mZ2, mRR]
  · have R := rg_oth h ha hb
    obtain ⟨M, N, e1, e2, e3, e4⟩ := mtS_len (side := side) (id := oi) (acct := oa) (pr := op) (mode := mode) (othN side n m) (Z := othZ side za zb) (R := []) (q := oq) 0 R.len rfl
    have hle := R.le
    unfold mZ1 mZ2 mRR mtA
    rw [if_pos rfl, if_pos rfl, if_pos rfl]
    unfold othZ at e1 e3
    rw [e3]
    refine ⟨?_, ?_, by omega⟩ <;> split <;> first | omega | (rw [e1]; omega) | simp_all <;> omega
theorem rg_side {za zb : List Int} {n m : Nat} {side oi oa op oq mode : Int} (h : rgB za n zb m side oi oa op oq mode = true) : side = 1 ∨ side = 2 := by
  have hs := (rg_parts h).2.1
  rcases side_cases side with ⟨rfl, -⟩ | ⟨rfl, -⟩ | ⟨-, -, hno⟩
  · exact .inl rfl
  · exact .inr rfl
  · rw [hno] at hs
    exact absurd hs (by decide)
theorem oth_side {za zb : List Int} {n m : Nat} {side : Int} (h : side = 1 ∨ side = 2) : sideN true (3 - side) n m = othN side n m ∧ sideZ true (3 - side) za zb = othZ side za zb := by
  unfold sideN sideZ othN othZ
  rcases h with rfl | rfl <;> simp
theorem lim_of {side op p : Int} (hs : side = 1 ∨ side = 2) (h : meetB side op p = true) : op ≤ 0 ∨ (0 < op ∧ side = 1 ∧ p ≤ op) ∨ (0 < op ∧ side = 2 ∧ op ≤ p) := by
  rcases Int.lt_or_le 0 op with c | c
  · simp only [meetB, betB, Bool.or_eq_true, beq_iff_eq, Bool.not_eq_true'] at h
    rcases h with h | h
    · omega
    · rcases hs with rfl | rfl
      · rw [if_pos rfl] at h
        have := of_decide_eq_false h
        exact .inr (.inl ⟨c, rfl, by omega⟩)
      · rw [if_neg (by decide)] at h
        have := of_decide_eq_false h
        exact .inr (.inr ⟨c, rfl, by omega⟩)
  · exact .inl c
theorem rg_ord {za zb : List Int} {n m : Nat} {side oi oa op oq mode : Int} (h : rgB za n zb m side oi oa op oq mode = true) (ha : za.length = n * 4) (hb : zb.length = m * 4) : ∃ r, r ≤ othN side n m ∧
    ((mRR true side oi oa op oq mode za zb).length / 8 = r ∨ ((mRR true side oi oa op oq mode za zb).length / 8 = r + 1 ∧ num (mRR true side oi oa op oq mode za zb) (r * 8 + 1) = 4 ∧ num (mRR true side oi oa op oq mode za zb) (r * 8 + 4) = oi)) ∧
    (∀ k, k < r → tellsAt side op (othZ side za zb) (mRR true side oi oa op oq mode za zb) k k) ∧
    (∀ k, k + 1 < r → ∀ s f ok, FindRel true (mZ1 true side oi oa op oq mode za zb) ((mZ1 true side oi oa op oq mode za zb).length / 4) (mZ2 true side oi oa op oq mode za zb) ((mZ2 true side oi oa op oq mode za zb).length / 4) (num (othZ side za zb) (k * 4)) s f ok → ok = false) ∧
    ∀ j k, j < othN side n m → k < othN side n m → j ≠ k → num (othZ side za zb) (j * 4) ≠ num (othZ side za zb) (k * 4) := by
  have R := rg_oth h ha hb
  obtain ⟨d1, d2, d3⟩ := bk_dist (rg_parts h).1
  have hq0 : 0 ≤ oq := by
    have g3 := (rg_parts h).2.2.1
    simp only [incB, inB, Bool.and_eq_true, decide_eq_true_eq] at g3
    omega
  obtain ⟨r, N', M, g, X, e1, e2, e3, e4, e5, e6, e7, e8, e9⟩ := mt_ord (side := side) (id := oi) (acct := oa) (pr := op) (mode := mode) (othN side n m) (Z := othZ side za zb) (R := []) (q := oq) 0 R.len rfl R.qty hq0
  have hr : mRR true side oi oa op oq mode za zb = (mtS side oi oa op mode (othZ side za zb) [] oq).2.1 := by unfold mRR mtA othZ; rw [if_pos rfl]
  have hd : ∀ j k, j < othN side n m → k < othN side n m → j ≠ k → num (othZ side za zb) (j * 4) ≠ num (othZ side za zb) (k * 4) := fun j k hj hk hne => by
    unfold othZ othN at *
    by_cases hs : side = 1
    · simp only [if_pos hs] at *
      exact d2 j k hj hk hne
    · simp only [if_neg hs] at *
      exact d1 j k hj hk hne
  refine ⟨r, e1, ?_, fun k hk => ?_, fun k hk s f ok hf => ?_, hd⟩
  · rw [hr]
    rcases e4 with e | ⟨e, e', e''⟩
    · left
      omega
    · right
      rw [Nat.zero_add] at e' e''
      exact ⟨by omega, e', e''⟩
  · have := e5 k hk
    rw [hr]
    rwa [Nat.zero_add] at this
  · obtain ⟨hy, -⟩ := find_all hf
    rcases Bool.eq_false_or_eq_true ok with c | c
    · exfalso
      have hno : ∀ p, p < M → num (mtS side oi oa op mode (othZ side za zb) [] oq).1 (p * 4) ≠ num (othZ side za zb) (k * 4) := fun p hp e => by
        have ev := e8.val p hp 0 (by omega)
        simp only [Nat.add_zero] at ev
        have hg := e9 p hp
        exact hd (g p) k (e8.lt p hp) (by omega) (by omega) (ev.symm.trans e)
      by_cases hs : side = 1
      · have z1 : mZ1 true side oi oa op oq mode za zb = za := by unfold mZ1; rw [if_pos rfl, if_pos hs]
        have z2 : mZ2 true side oi oa op oq mode za zb = (mtS side oi oa op mode (othZ side za zb) [] oq).1 := by unfold mZ2 mtA othZ; rw [if_pos rfl, if_pos hs]
        have ez : othZ side za zb = zb := if_pos hs
        have en : othN side n m = m := if_pos hs
        rw [z1, z2, ha, e6, show n * 4 / 4 = n by omega, show M * 4 / 4 = M by omega] at hy
        rcases hy c with ⟨j, hj, ej, -⟩ | ⟨j, hj, ej, -⟩
        · rw [ez] at ej
          exact d3 j k hj (by omega) ej
        · exact hno j hj ej
      · have z1 : mZ1 true side oi oa op oq mode za zb = (mtS side oi oa op mode (othZ side za zb) [] oq).1 := by unfold mZ1 mtA othZ; rw [if_pos rfl, if_neg hs, if_neg hs]
        have z2 : mZ2 true side oi oa op oq mode za zb = zb := by unfold mZ2; rw [if_pos rfl, if_neg hs]
        have ez : othZ side za zb = za := if_neg hs
        have en : othN side n m = n := if_neg hs
        rw [z1, z2, hb, e6, show m * 4 / 4 = m by omega, show M * 4 / 4 = M by omega] at hy
        rcases hy c with ⟨j, hj, ej, -⟩ | ⟨j, hj, ej, -⟩
        · exact hno j hj ej
        · rw [ez] at ej
          exact d3 k j (by omega) hj ej.symm
    · exact c
set_option linter.unusedSimpArgs false in
set_option linter.unusedVariables false in
set_option maxHeartbeats 6400000 in
set_option maxRecDepth 100000 in
theorem law_Price (A : Option Addr) (len cap : Nat) (ys : List Int) (w : World) (hrow : IsRow .u8 w A len cap ys) :
    Calls Try.prog 5 #[.slice A len cap] w fun e w' => e = .returned (.bool true) ∧ Below w.heap.size w w' := by
  have hs := src_of_row hrow
  have hl := row_len hrow
  clear hrow
  have hsrc : ∀ w', Below w.heap.size w w' → Src w' w'.heap.size A len := fun w' hb i hi => by
    obtain ⟨b, o, n, h1, h2, h3, h4, h5⟩ := hs i hi
    exact ⟨b, o, n, h1, Nat.lt_of_lt_of_le h2 hb.size, h3, h4, (hb.cell (p := ⟨b, o + i, none⟩) h2).trans h5⟩
  by_cases hbig : 1048576 < len
  · go_enter Try.func5, Try.ntmps5
    go_wp2_with (go_at_call 9; go_in)
    go_ret
    exact ⟨rfl, Below.refl _ _⟩
  go_enter Try.func5, Try.ntmps5
  go_wp2_with (go_at_call 9; go_in)
  refine (DrawMatched_any A len cap _ hs hl).mono ?_
  rintro e w1 ⟨v1, n, za, v2, m, zb, s, oi, oa, op, oq, md, rfl, hn, hm, TB, D⟩
  obtain ⟨A1, c, A2, d, rfl, rfl⟩ := TB.slices
  have hlA : za.length = n * 4 := by have := TB.one.1; rwa [nums_length] at this
  have hlB : zb.length = m * 4 := by have := TB.two.1; rwa [nums_length] at this
  obtain ⟨kB, kO⟩ := two_blocks w1 (.cells #[.slice A1 n c, .slice A2 m d] 26) (.cells #[.int .i64 oi, .int .i64 oa, .int .i64 op, .int .i64 oq] 28)
  have hba : Below w1.heap.size w1 ((w1.alloc (.cells #[.slice A1 n c, .slice A2 m d] 26)).alloc (.cells #[.int .i64 oi, .int .i64 oa, .int .i64 op, .int .i64 oq] 28)) := ((Below.refl _ _).alloc (Nat.le_refl _) _).alloc (by simp) _
  replace D := D.trans (hba.mono D.size)
  replace TB := TB.below hba
  clear hba
  obtain ⟨p0, p1⟩ := cell2 kB
  obtain ⟨o0, o1, o2, o3, -⟩ := ord_cell kO
  go_wp2_with fail
  clear p0 p1 o0 o1 o2 o3
  generalize ((w1.alloc (.cells #[.slice A1 n c, .slice A2 m d] 26)).alloc (.cells #[.int .i64 oi, .int .i64 oa, .int .i64 op, .int .i64 oq] 28)) = w2 at *
  generalize w1.heap.size = X1 at *
  obtain ⟨rg, hrg⟩ : ∃ x, rgB za n zb m s oi oa op oq md = x := ⟨_, rfl⟩
  have HRG := Lib.hid hrg
  have hLN := m_len hlA hlB hrg hn hm
  obtain ⟨Y1, hsY1⟩ : ∃ x, mZ1 rg s oi oa op oq md za zb = x := ⟨_, rfl⟩
  obtain ⟨Y2, hsY2⟩ : ∃ x, mZ2 rg s oi oa op oq md za zb = x := ⟨_, rfl⟩
  obtain ⟨RR, hsRR⟩ : ∃ x, mRR rg s oi oa op oq md za zb = x := ⟨_, rfl⟩
  obtain ⟨lf, hslf⟩ : ∃ x, mLL rg s oi oa op oq md za zb = x := ⟨_, rfl⟩
  rw [hsY1, hsY2, hsRR] at hLN
  obtain ⟨N1, hsN1⟩ : ∃ x, Y1.length / 4 = x := ⟨_, rfl⟩
  obtain ⟨N2, hsN2⟩ : ∃ x, Y2.length / 4 = x := ⟨_, rfl⟩
  obtain ⟨N3, hsN3⟩ : ∃ x, RR.length / 8 = x := ⟨_, rfl⟩
  rw [hsN1, hsN2, hsN3] at hLN
  obtain ⟨hN1, hN2, hN3⟩ := hLN
  have HY1 := Lib.hid hsY1
  have HY2 := Lib.hid hsY2
  have HRR := Lib.hid hsRR
  have Hlf := Lib.hid hslf
  have HN1 := Lib.hid hsN1
  have HN2 := Lib.hid hsN2
  have HN3 := Lib.hid hsN3
  have hcon := (impl_Matched A1 n c A2 m d za zb s oi oa op oq md w2 (Lst.of_own TB.one) (Lst.of_own TB.two) (by omega) (by omega)).mono (fun e w' h => (⟨mans_len h.1, h.2⟩ : _ ∧ _))
  rw [hrg, hsY1, hsY2, hsRR, hslf, hsN1, hsN2, hsN3] at hcon
  refine hcon.mono ?_
  clear hcon
  rintro e w3 ⟨⟨t1, t2, t3, rfl, TI, RI⟩, hbm⟩
  obtain ⟨BI, bI, CI, cI, rfl, rfl⟩ := TI.slices
  obtain ⟨EI, eI, rfl, _, _⟩ := own_slice RI
  replace D := D.trans (hbm.mono D.size)
  replace TB := TB.below hbm
  replace kB := (hbm.block _ (heap_lt kB)).trans kB
  replace kO := (hbm.block _ (heap_lt kO)).trans kO
  clear hbm
  have kN := heap_alloc_new w3 (.cells #[.slice BI N1 bI, .slice CI N2 cI] 26)
  have hba : Below w3.heap.size w3 (w3.alloc (.cells #[.slice BI N1 bI, .slice CI N2 cI] 26)) := (Below.refl _ _).alloc (Nat.le_refl _) _
  replace D := D.trans (hba.mono D.size)
  replace TB := TB.below hba
  replace kB := (hba.block _ (heap_lt kB)).trans kB
  replace kO := (hba.block _ (heap_lt kO)).trans kO
  replace TI := TI.below hba
  replace RI := own_below RI hba
  clear hba
  obtain ⟨p0, p1⟩ := cell2 kB
  obtain ⟨o0, o1, o2, o3, -⟩ := ord_cell kO
  go_wp2_with fail
  clear p0 p1 o0 o1 o2 o3
  generalize w3.alloc (.cells #[.slice BI N1 bI, .slice CI N2 cI] 26) = w4 at *
  generalize w3.heap.size = X2 at *
  have hcon := (spec_Matched A1 n c A2 m d za zb s oi oa op oq md w4 (Lst.of_own TB.one) (Lst.of_own TB.two) (by omega) (by omega) (own_nil TB.one) (own_nil TB.two)).mono (fun e w' h => (⟨mans_len h.1, h.2⟩ : _ ∧ _))
  rw [hrg, hsY1, hsY2, hsRR, hslf, hsN1, hsN2, hsN3] at hcon
  refine hcon.mono ?_
  clear hcon
  rintro e w5 ⟨⟨t1, t2, t3, rfl, TS, RS⟩, hbm⟩
  obtain ⟨BS, bS, CS, cS, rfl, rfl⟩ := TS.slices
  obtain ⟨ES, eS, rfl, _, _⟩ := own_slice RS
  replace D := D.trans (hbm.mono D.size)
  replace TB := TB.below hbm
  replace kB := (hbm.block _ (heap_lt kB)).trans kB
  replace kO := (hbm.block _ (heap_lt kO)).trans kO
  replace TI := TI.below hbm
  replace RI := own_below RI hbm
  replace kN := (hbm.block _ (heap_lt kN)).trans kN
  clear hbm
  clear hsY1 hsY2 hsRR hslf hsN1 hsN2 hsN3 hrg
  have hba : Below w5.heap.size w5 (w5.alloc (.cells #[.slice BS N1 bS, .slice CS N2 cS] 26)) := (Below.refl _ _).alloc (Nat.le_refl _) _
  replace D := D.trans (hba.mono D.size)
  replace TB := TB.below hba
  replace kB := (hba.block _ (heap_lt kB)).trans kB
  replace kO := (hba.block _ (heap_lt kO)).trans kO
  replace TI := TI.below hba
  replace RI := own_below RI hba
  replace kN := (hba.block _ (heap_lt kN)).trans kN
  replace RS := own_below RS hba
  clear hba TS
  go_upto_region 6 with fail
  generalize w5.alloc (.cells #[.slice BS N1 bS, .slice CS N2 cS] 26) = w6 at *
  cases rg
  · skip
    go_wp2_with fail
    refine (sameRecs_same EI ES N3 eI eS RR w6 (Lst.of_own RI) (Lst.of_own RS) (by omega)).mono ?_
    rintro e w7 ⟨rfl, hbs⟩
    replace D := D.trans (hbs.mono D.size)
    replace TB := TB.below hbs
    replace kB := (hbs.block _ (heap_lt kB)).trans kB
    replace kO := (hbs.block _ (heap_lt kO)).trans kO
    replace TI := TI.below hbs
    replace RI := own_below RI hbs
    replace kN := (hbs.block _ (heap_lt kN)).trans kN
    replace RS := own_below RS hbs
    clear hbs
    go_wp2_with fail
    refine (sameRecs_same EI ES N3 eI eS RR w7 (Lst.of_own RI) (Lst.of_own RS) (by omega)).mono ?_
    rintro e w8 ⟨rfl, hbs⟩
    replace D := D.trans (hbs.mono D.size)
    replace TB := TB.below hbs
    replace kB := (hbs.block _ (heap_lt kB)).trans kB
    replace kO := (hbs.block _ (heap_lt kO)).trans kO
    replace TI := TI.below hbs
    replace RI := own_below RI hbs
    replace kN := (hbs.block _ (heap_lt kN)).trans kN
    replace RS := own_below RS hbs
    clear hbs
    go_wp2_with fail
    go_ret
    exact ⟨by first | rfl | simp, D⟩
  · skip
    go_wp2_with fail
    refine (sameRecs_same EI ES N3 eI eS RR w6 (Lst.of_own RI) (Lst.of_own RS) (by omega)).mono ?_
    rintro e w7 ⟨rfl, hbs⟩
    replace D := D.trans (hbs.mono D.size)
    replace TB := TB.below hbs
    replace kB := (hbs.block _ (heap_lt kB)).trans kB
    replace kO := (hbs.block _ (heap_lt kO)).trans kO
    replace TI := TI.below hbs
    replace RI := own_below RI hbs
    replace kN := (hbs.block _ (heap_lt kN)).trans kN
    replace RS := own_below RS hbs
    clear hbs
    clear RS
    have hbk := rg_book HRG.out hlA hlB
    rw [HY1.out, HY2.out, HN1.out, HN2.out] at hbk
    have HBK := Lib.hid hbk
    obtain ⟨r, hrK, hlast, htell, hfnd, hdis⟩ := rg_ord HRG.out hlA hlB
    rw [HRR.out, HN3.out] at hlast
    simp only [HRR.out] at htell
    simp only [HY1.out, HY2.out, HN1.out, HN2.out] at hfnd
    have hbk0 := (rg_parts HRG.out).1
    have HB0 := Lib.hid hbk0
    have HR := Lib.hid (rg_oth HRG.out hlA hlB)
    have hs12 := rg_side HRG.out
    have hwr : IntKind.i64.wrap (3 - s) = 3 - s := by rw [IntKind.wrap_i64]; omega
    clear hbk hbk0
    obtain ⟨Kn, hK⟩ : ∃ x, othN s n m = x := ⟨_, rfl⟩
    obtain ⟨Z, hZ⟩ : ∃ x, othZ s za zb = x := ⟨_, rfl⟩
    rw [hK] at hrK
    simp only [hK, hZ] at hdis
    simp only [hZ] at htell hfnd
    have HK := Lib.hid hK
    have HZ := Lib.hid hZ
    have HTELL := Lib.hid htell
    have HFND := Lib.hid hfnd
    have HDIS := Lib.hid hdis
    have HLAST := Lib.hid hlast
    clear hK hZ htell hfnd hdis hlast
    have hK20 : Kn ≤ 20 := by rw [← HK.out]; exact HR.out.le
    obtain ⟨p0, p1⟩ := cell2 kB
    go_wp2_with fail
    clear p0 p1
    refine (impl_Side A1 n c A2 m d za zb (3 - s) w7 (Lst.of_own TB.one) (Lst.of_own TB.two) (by omega) (by omega)).mono ?_
    rw [HB0.out, (oth_side (n := n) (m := m) (za := za) (zb := zb) hs12).1, (oth_side (n := n) (m := m) (za := za) (zb := zb) hs12).2, HK.out, HZ.out]
    rintro e w8 ⟨⟨r8, rfl, TL⟩, hb8⟩
    replace D := D.trans (hb8.mono D.size)
    replace TB := TB.below hb8
    replace kB := (hb8.block _ (heap_lt kB)).trans kB
    replace kO := (hb8.block _ (heap_lt kO)).trans kO
    replace TI := TI.below hb8
    replace RI := own_below RI hb8
    replace kN := (hb8.block _ (heap_lt kN)).trans kN
    clear hb8 TB kB
    obtain ⟨AL, cL, rfl, hLc, hLm⟩ := own_slice TL
    go_wp2_with fail
    go_loopw [16, 17] (fun q i wr => ∃ k t : Nat, k ≤ N3 ∧ q = .int .i64 (t : Int) ∧ i = .int .i64 (k : Int) ∧ (k < r → t = k - 1) ∧ Below w8.heap.size w8 wr) (fun _ i _ => N3 - (intOf i).toNat)
    case atStart => exact ⟨0, 0, Nat.zero_le _, rfl, rfl, fun _ => rfl, Below.refl _ _⟩
    case round =>
      obtain ⟨k, t0, hk, rfl, rfl, hat, hbr⟩ := hrel
      replace D := D.trans (hbr.mono D.size)
      replace kO := (hbr.block _ (heap_lt kO)).trans kO
      replace TI := TI.below hbr
      replace RI := own_below RI hbr
      replace kN := (hbr.block _ (heap_lt kN)).trans kN
      replace TL := own_below TL hbr
      by_cases hlt : k < N3
      · obtain ⟨b, o, hax, hbo, c0, c1, c2, c3, c4, c5, c6, c7⟩ := (Lst.of_own RI).row8 hlt
        subst hax
        obtain ⟨o0, o1, o2, o3, -⟩ := ord_cell kO
        have hl20 := HLAST.out
        by_cases hr : k < r
        · obtain ⟨hkd, hprc, hmeet⟩ := HTELL.out k hr
          have hlim := lim_of hs12 hmeet
          have hno := HR.out.no k (by rw [HK.out]; omega)
          rw [HZ.out] at hno
          have hnob : (num Z (k * 4) == oi) = false := beq_eq_false_iff_ne.2 hno
          rw [hprc] at c6
          have hat2 := hat hr
          have ht2 : t0 = k ∨ t0 + 1 = k := by omega
          clear hprc hmeet hno hat hat2
          rcases hkd with ⟨hkk, hid⟩ | ⟨hkk, hid⟩
          · rw [hkk] at c1
            rw [hid] at c5
            clear hkk hid hl20
            go_wp2_with fail
            clear c0 c1 c2 c3 c4 c5 c7 o0 o1 o2 o3
            rename World => wo
            go_loopw [16] (fun q wr => ∃ t : Nat, q = .int .i64 (t : Int) ∧ (t = k ∨ t + 1 = k) ∧ Below wo.heap.size wo wr) (fun q _ => k - (intOf q).toNat)
            case atStart => exact ⟨_, rfl, ht2, Below.refl _ _⟩
            case round =>
              clear ht2
              obtain ⟨t, rfl, ht2, hbq⟩ := hrel
              replace D := D.trans (hbq.mono D.size)
              replace kO := (hbq.block _ (heap_lt kO)).trans kO
              replace TI := TI.below hbq
              replace RI := own_below RI hbq
              replace kN := (hbq.block _ (heap_lt kN)).trans kN
              replace TL := own_below TL hbq
              replace c6 := (hbq.cell (p := ⟨b, o + k * 8 + 6, none⟩) hbo).trans c6
              replace hbo : b < wr.heap.size := Nat.lt_of_lt_of_le hbo hbq.size
              obtain ⟨p0, p1⟩ := cell2 kN
              obtain ⟨o0, o1, o2, o3, -⟩ := ord_cell kO
              have hlX := heap_lt kN
              have htK : t < Kn := by omega
              obtain ⟨b2, q2, hax2, hbo2, d0, d1, d2, d3⟩ := (Lst.of_own TL).row4 htK
              subst hax2
              by_cases hte : t = k
              · have HBW := Lib.hid (hbr.trans (hbq.mono hbr.size))
                subst hte
                clear hbq hbr p0 p1 o0 o1 o3 d1 d3
                have hx : (num Z (t * 4) != num Z (t * 4)) = false := by simp
                have hx2 : ((t : Int) == (Kn : Int)) = false := by simp; omega
                have hx3 : (num Z (t * 4 + 2) != num Z (t * 4 + 2)) = false := by simp
                go_upto_region 22 with fail
                go_region
                go_upto_region 24 with fail
                have hlO := heap_lt kO
                rcases hlim with hop | ⟨hop, rfl, hle⟩ | ⟨hop, rfl, hle⟩
                · have hg1 : decide (0 < op) = false := by simp; omega
                  clear hop
                  go_quiet (fail)
                  go_wp2_with fail
                  go_roundw
                  case rel => exact ⟨t + 1, t, by omega, rfl, by go_num, fun _ => by omega, by have hZ := HBW.out; exact ⟨hZ.os, hZ.tape, hZ.output, hZ.size, hZ.block⟩⟩
                  case measure => simp [intOf]; omega
                · have hg1 : decide (0 < op) = true := by simp; omega
                  have hg2 : decide (op < num Z (t * 4 + 2)) = false := by simp; omega
                  clear hop
                  clear hle
                  go_quiet (fail)
                  go_wp2_with fail
                  go_roundw
                  case rel => exact ⟨t + 1, t, by omega, rfl, by go_num, fun _ => by omega, by have hZ := HBW.out; exact ⟨hZ.os, hZ.tape, hZ.output, hZ.size, hZ.block⟩⟩
                  case measure => simp [intOf]; omega
                · have hg1 : decide (0 < op) = true := by simp; omega
                  have hg2 : decide (num Z (t * 4 + 2) < op) = false := by simp; omega
                  clear hop
                  clear hle
                  go_quiet (fail)
                  go_wp2_with fail
                  go_roundw
                  case rel => exact ⟨t + 1, t, by omega, rfl, by go_num, fun _ => by omega, by have hZ := HBW.out; exact ⟨hZ.os, hZ.tape, hZ.output, hZ.size, hZ.block⟩⟩
                  case measure => simp [intOf]; omega
              · have hne : (num Z (t * 4) != num Z (k * 4)) = true := by simp [HDIS.out t k htK (by omega) hte]
                go_upto_region 18 with fail
                refine wp_region_held_drew (S := (fun w' => Below wr.heap.size wr w')) (by kernel_rfl) ?hSm1 (fun hHeld => ?restm1)
                case hSm1 => exact (Below.refl _ _).drew
                refine wpAnyH_take (i := 0) (oi := ?oim2) (v := ?vm2) ?him2 (by kernel_rfl) (by kernel_rfl) (by kernel_rfl) ?hQm2 (Or.inl ⟨?hwm2, ?hym2⟩) (by assumption) ?restm2
                case him2 => simp only [List.getElem?_toArray, List.getElem?_cons_succ, List.getElem?_cons_zero]; exact rfl
                case hQm2 => exact fun _ _ _ h => h
                case hwm2 => rfl
                case hym2 => ((intro w hSw; have t0 := (hSw.cell (p := ⟨X2, 0, none⟩) hlX).trans p0; have t1 := (hSw.cell (p := ⟨X2, 1, none⟩) hlX).trans p1; have t2 := (hSw.cell (p := ⟨b2, q2 + t * 4, none⟩) hbo2).trans d0; go_simp) <;> with_reducible rfl)
                try simp only [Act.put, List.setIfInBounds_toArray, List.set_cons_zero, List.set_cons_succ]
                refine wpAnyH_take (i := 1) (oi := ?oim3) (v := ?vm3) ?him3 (by kernel_rfl) (by kernel_rfl) (by kernel_rfl) ?hQm3 (Or.inl ⟨?hwm3, ?hym3⟩) (by assumption) ?restm3
                case him3 => simp only [List.getElem?_toArray, List.getElem?_cons_succ, List.getElem?_cons_zero]; exact rfl
                case hQm3 => exact fun _ _ _ h => h
                case hwm3 => rfl
                case hym3 => ((intro w hSw; (try dsimp only at hSw); go_simp) <;> with_reducible rfl)
                try simp only [Act.put, List.setIfInBounds_toArray, List.set_cons_zero, List.set_cons_succ]
                refine wpAnyH_take (i := 2) (oi := ?oim4) (v := ?vm4) ?him4 (by kernel_rfl) (by kernel_rfl) (by kernel_rfl) ?hQm4 (Or.inl ⟨?hwm4, ?hym4⟩) (by assumption) ?restm4
                case him4 => simp only [List.getElem?_toArray, List.getElem?_cons_succ, List.getElem?_cons_zero]; exact rfl
                case hQm4 => exact fun _ _ _ h => h
                case hwm4 => rfl
                case hym4 => ((intro w hSw; (try dsimp only at hSw); go_simp) <;> with_reducible rfl)
                try simp only [Act.put, List.setIfInBounds_toArray, List.set_cons_zero, List.set_cons_succ]
                refine wpAnyH_take (i := 3) (oi := ?oim5) (v := ?vm5) ?him5 (by kernel_rfl) (by kernel_rfl) (by kernel_rfl) ?hQm5 (Or.inl ⟨?hwm5, ?hym5⟩) (by assumption) ?restm5
                case him5 => simp only [List.getElem?_toArray, List.getElem?_cons_succ, List.getElem?_cons_zero]; exact rfl
                case hQm5 => exact fun _ _ _ h => h
                case hwm5 => rfl
                case hym5 => ((intro w hSw; (try dsimp only at hSw); go_simp) <;> with_reducible rfl)
                try simp only [Act.put, List.setIfInBounds_toArray, List.set_cons_zero, List.set_cons_succ]
                refine wpAnyH_take (i := 4) (oi := ?oim6) (v := ?vm6) ?him6 (by kernel_rfl) (by kernel_rfl) (by kernel_rfl) ?hQm6 (Or.inl ⟨?hwm6, ?hym6⟩) (by assumption) ?restm6
                case him6 => simp only [List.getElem?_toArray, List.getElem?_cons_succ, List.getElem?_cons_zero]; exact rfl
                case hQm6 => exact fun _ _ _ h => h
                case hwm6 => rfl
                case hym6 => ((intro w hSw; (try dsimp only at hSw); go_simp) <;> with_reducible rfl)
                try simp only [Act.put, List.setIfInBounds_toArray, List.set_cons_zero, List.set_cons_succ]
                refine wpAnyH_take (i := 5) (oi := ?oim7) (v := ?vm7) ?him7 (by kernel_rfl) (by kernel_rfl) (by kernel_rfl) ?hQm7 (Or.inl ⟨?hwm7, ?hym7⟩) (by assumption) ?restm7
                case him7 => simp only [List.getElem?_toArray, List.getElem?_cons_succ, List.getElem?_cons_zero]; exact rfl
                case hQm7 => exact fun _ _ _ h => h
                case hwm7 => rfl
                case hym7 => ((intro w hSw; have t0 := (hSw.cell (p := ⟨X2, 0, none⟩) hlX).trans p0; have t1 := (hSw.cell (p := ⟨X2, 1, none⟩) hlX).trans p1; have t2 := (hSw.cell (p := ⟨b2, q2 + t * 4, none⟩) hbo2).trans d0; go_simp) <;> with_reducible rfl)
                try simp only [Act.put, List.setIfInBounds_toArray, List.set_cons_zero, List.set_cons_succ]
                refine wpAnyH_ready (rs := [6, 11]) (by kernel_rfl) (by simp) ?_
                refine AllReadyH.cons (o := ?or8_6) ?hor8_6 (fun K hK => ?stepr8_6) (AllReadyH.cons (o := ?or8_11) ?hor8_11 (fun K hK => ?stepr8_11) (AllReadyH.nil))
                case hor8_6 => simp only [List.getElem?_toArray, List.getElem?_cons_succ, List.getElem?_cons_zero]; exact rfl
                case hor8_11 => simp only [List.getElem?_toArray, List.getElem?_cons_succ, List.getElem?_cons_zero]; exact rfl
                case stepr8_6 =>
                  go_simp
                  have hHv : Below wr.heap.size wr wr.drew := hHeld
                  refine (impl_Find BI N1 bI CI N2 cI Y1 Y2 (num Z (t * 4)) _ (Lst.of_own (TI.below hHv).one) (Lst.of_own (TI.below hHv).two) (by omega) (by omega)).mono ?_
                  rintro e vc ⟨⟨s4, f4, ok4, hrel4, rfl⟩, hb4⟩
                  rw [HBK.out] at hrel4
                  obtain rfl := HFND.out t (by omega) _ _ _ hrel4
                  clear hrel4
                  generalize f4 0 = m0 at *
                  generalize f4 1 = m1 at *
                  generalize f4 2 = m2 at *
                  generalize f4 3 = m3 at *
                  refine hK.out _ _ ?hSr8_6 (fun hHeld => ?restr8_6)
                  case hSr8_6 => exact hHv.trans (hb4.mono hHv.size)
                  clear hK K
                  try simp only [Act.put, List.setIfInBounds_toArray, List.set_cons_zero, List.set_cons_succ]
                  refine wpAnyH_take (i := 7) (oi := ?oim9) (v := ?vm9) ?him9 (by kernel_rfl) (by kernel_rfl) (by kernel_rfl) ?hQm9 (Or.inl ⟨?hwm9, ?hym9⟩) (by assumption) ?restm9
                  case him9 => simp only [List.getElem?_toArray, List.getElem?_cons_succ, List.getElem?_cons_zero]; exact rfl
                  case hQm9 => exact fun _ _ _ h => h
                  case hwm9 => rfl
                  case hym9 => ((intro w hSw; (try dsimp only at hSw); go_simp) <;> with_reducible rfl)
                  try simp only [Act.put, List.setIfInBounds_toArray, List.set_cons_zero, List.set_cons_succ]
                  refine wpAnyH_take (i := 8) (oi := ?oim10) (v := ?vm10) ?him10 (by kernel_rfl) (by kernel_rfl) (by kernel_rfl) ?hQm10 (Or.inl ⟨?hwm10, ?hym10⟩) (by assumption) ?restm10
                  case him10 => simp only [List.getElem?_toArray, List.getElem?_cons_succ, List.getElem?_cons_zero]; exact rfl
                  case hQm10 => exact fun _ _ _ h => h
                  case hwm10 => rfl
                  case hym10 => ((intro w hSw; (try dsimp only at hSw); go_simp) <;> with_reducible rfl)
                  try simp only [Act.put, List.setIfInBounds_toArray, List.set_cons_zero, List.set_cons_succ]
                  refine wpAnyH_take (i := 9) (oi := ?oim11) (v := ?vm11) ?him11 (by kernel_rfl) (by kernel_rfl) (by kernel_rfl) ?hQm11 (Or.inl ⟨?hwm11, ?hym11⟩) (by assumption) ?restm11
                  case him11 => simp only [List.getElem?_toArray, List.getElem?_cons_succ, List.getElem?_cons_zero]; exact rfl
                  case hQm11 => exact fun _ _ _ h => h
                  case hwm11 => rfl
                  case hym11 => ((intro w hSw; (try dsimp only at hSw); go_simp) <;> with_reducible rfl)
                  try simp only [Act.put, List.setIfInBounds_toArray, List.set_cons_zero, List.set_cons_succ]
                  refine wpAnyH_take (i := 10) (oi := ?oim12) (v := ?vm12) ?him12 (by kernel_rfl) (by kernel_rfl) (by kernel_rfl) ?hQm12 (Or.inl ⟨?hwm12, ?hym12⟩) (by assumption) ?restm12
                  case him12 => simp only [List.getElem?_toArray, List.getElem?_cons_succ, List.getElem?_cons_zero]; exact rfl
                  case hQm12 => exact fun _ _ _ h => h
                  case hwm12 => rfl
                  case hym12 => ((intro w hSw; (try dsimp only at hSw); go_simp) <;> with_reducible rfl)
                  try simp only [Act.put, List.setIfInBounds_toArray, List.set_cons_zero, List.set_cons_succ]
                  refine wpAnyH_ready (rs := [11]) (by kernel_rfl) (by simp) ?_
                  refine AllReadyH.cons (o := ?or13_11) ?hor13_11 (fun K hK => ?stepr13_11) (AllReadyH.nil)
                  case hor13_11 => simp only [List.getElem?_toArray, List.getElem?_cons_succ, List.getElem?_cons_zero]; exact rfl
                  case stepr13_11 =>
                    go_simp
                    have hG := heap_alloc_new vc (.cells #[.int .i64 0, .int .i64 0, .int .i64 0, .int .i64 0] 28)
                    have hHv : Below wr.heap.size wr vc := hHeld
                    have hGl : wr.heap.size ≤ vc.heap.size := hHv.size
                    have hHa := hHv.alloc hHv.size (.cells #[.int .i64 0, .int .i64 0, .int .i64 0, .int .i64 0] 28)
                    generalize vc.alloc (.cells #[.int .i64 0, .int .i64 0, .int .i64 0, .int .i64 0] 28) = va at *
                    generalize vc.heap.size = G at *
                    refine hK.out _ _ ?hSr13_11 (fun hHeld => ?restr13_11)
                    case hSr13_11 => exact hHa
                    clear hK K
                    try simp only [Act.put, List.setIfInBounds_toArray, List.set_cons_zero, List.set_cons_succ]
                    refine wpAnyH_take (i := 12) (oi := ?oim14) (v := ?vm14) ?him14 (by kernel_rfl) (by kernel_rfl) (by kernel_rfl) ?hQm14 (Or.inl ⟨?hwm14, ?hym14⟩) (by assumption) ?restm14
                    case him14 => simp only [List.getElem?_toArray, List.getElem?_cons_succ, List.getElem?_cons_zero]; exact rfl
                    case hQm14 => exact fun _ _ _ h => h
                    case hwm14 => rfl
                    case hym14 => ((intro w hSw; (try dsimp only at hSw); go_simp) <;> with_reducible rfl)
                    try simp only [Act.put, List.setIfInBounds_toArray, List.set_cons_zero, List.set_cons_succ]
                    refine wpAnyH_ready (rs := [13]) (by kernel_rfl) (by simp) ?_
                    refine AllReadyH.cons (o := ?or15_13) ?hor15_13 (fun K hK => ?stepr15_13) (AllReadyH.nil)
                    case hor15_13 => simp only [List.getElem?_toArray, List.getElem?_cons_succ, List.getElem?_cons_zero]; exact rfl
                    case stepr15_13 =>
                      obtain ⟨y0, y1, y2, y3, x0, x1, x2, x3⟩ := ord_cell hG
                      go_simp
                      have hHv : Below wr.heap.size wr va := hHeld
                      refine hK.out _ _ ?hSr15_13 (fun hHeld => ?restr15_13)
                      case hSr15_13 => exact (((hHv.setCell (p := ⟨G, 0, none⟩) hGl _).setCell (p := ⟨G, 1, none⟩) hGl _).setCell (p := ⟨G, 2, none⟩) hGl _).setCell (p := ⟨G, 3, none⟩) hGl _
                      clear hK K
                      try simp only [Act.put, List.setIfInBounds_toArray, List.set_cons_zero, List.set_cons_succ]
                      refine wpAnyH_take (i := 14) (oi := ?oim16) (v := ?vm16) ?him16 (by kernel_rfl) (by kernel_rfl) (by kernel_rfl) ?hQm16 (Or.inl ⟨?hwm16, ?hym16⟩) (by assumption) ?restm16
                      case him16 => simp only [List.getElem?_toArray, List.getElem?_cons_succ, List.getElem?_cons_zero]; exact rfl
                      case hQm16 => exact fun _ _ _ h => h
                      case hwm16 => rfl
                      case hym16 => ((intro w hSw; (try dsimp only at hSw); go_simp) <;> with_reducible rfl)
                      try simp only [Act.put, List.setIfInBounds_toArray, List.set_cons_zero, List.set_cons_succ]
                      refine wpAnyH_done (by kernel_rfl) ?_ _
                      have hHz : Below wr.heap.size wr (((((va.setCell ⟨G, 0, none⟩ (.int .i64 m0)).setCell ⟨G, 1, none⟩ (.int .i64 m1)).setCell ⟨G, 2, none⟩ (.int .i64 m2))).setCell ⟨G, 3, none⟩ (.int .i64 m3)) := hHeld
                      clear hHeld y0 y1 y2 y3 x0 x1 x2 x3 hG
                      generalize (((((va.setCell ⟨G, 0, none⟩ (.int .i64 m0)).setCell ⟨G, 1, none⟩ (.int .i64 m1)).setCell ⟨G, 2, none⟩ (.int .i64 m2))).setCell ⟨G, 3, none⟩ (.int .i64 m3)) = wz at *
                      have HBV := Lib.hid (hbq.trans (hHz.mono hbq.size))
                      clear hHz hbq p0 p1 c6 d0 d1 d2 d3
                      go_wp2_with fail
                      go_roundw
                      case rel => exact ⟨t + 1, by go_num, .inl (by omega), HBV.out⟩
                      case measure => simp [intOf]; omega
                case stepr8_11 =>
                  go_simp
                  have hG : (wr.alloc (.cells #[.int .i64 0, .int .i64 0, .int .i64 0, .int .i64 0] 28)).drew.heap[wr.heap.size]? = _ := heap_alloc_new wr (.cells #[.int .i64 0, .int .i64 0, .int .i64 0, .int .i64 0] 28)
                  have hGl : wr.heap.size ≤ wr.heap.size := Nat.le_refl _
                  have hHa : Below wr.heap.size wr (wr.alloc (.cells #[.int .i64 0, .int .i64 0, .int .i64 0, .int .i64 0] 28)).drew := ((Below.refl _ _).alloc (Nat.le_refl _) (.cells #[.int .i64 0, .int .i64 0, .int .i64 0, .int .i64 0] 28)).drew
                  generalize (wr.alloc (.cells #[.int .i64 0, .int .i64 0, .int .i64 0, .int .i64 0] 28)).drew = va at *
                  refine hK.out _ _ ?hSr8_11 (fun hHeld => ?restr8_11)
                  case hSr8_11 => exact hHa
                  clear hK K
                  try simp only [Act.put, List.setIfInBounds_toArray, List.set_cons_zero, List.set_cons_succ]
                  refine wpAnyH_ready (rs := [6]) (by kernel_rfl) (by simp) ?_
                  refine AllReadyH.cons (o := ?or17_6) ?hor17_6 (fun K hK => ?stepr17_6) (AllReadyH.nil)
                  case hor17_6 => simp only [List.getElem?_toArray, List.getElem?_cons_succ, List.getElem?_cons_zero]; exact rfl
                  case stepr17_6 =>
                    go_simp
                    have hHv : Below wr.heap.size wr va := hHeld
                    refine (impl_Find BI N1 bI CI N2 cI Y1 Y2 (num Z (t * 4)) _ (Lst.of_own (TI.below hHv).one) (Lst.of_own (TI.below hHv).two) (by omega) (by omega)).mono ?_
                    rintro e vc ⟨⟨s4, f4, ok4, hrel4, rfl⟩, hb4⟩
                    rw [HBK.out] at hrel4
                    obtain rfl := HFND.out t (by omega) _ _ _ hrel4
                    clear hrel4
                    generalize f4 0 = m0 at *
                    generalize f4 1 = m1 at *
                    generalize f4 2 = m2 at *
                    generalize f4 3 = m3 at *
                    replace hG := (hb4.block _ (heap_lt hG)).trans hG
                    refine hK.out _ _ ?hSr17_6 (fun hHeld => ?restr17_6)
                    case hSr17_6 => exact hHv.trans (hb4.mono hHv.size)
                    clear hK K
                    try simp only [Act.put, List.setIfInBounds_toArray, List.set_cons_zero, List.set_cons_succ]
                    refine wpAnyH_take (i := 7) (oi := ?oim18) (v := ?vm18) ?him18 (by kernel_rfl) (by kernel_rfl) (by kernel_rfl) ?hQm18 (Or.inl ⟨?hwm18, ?hym18⟩) (by assumption) ?restm18
                    case him18 => simp only [List.getElem?_toArray, List.getElem?_cons_succ, List.getElem?_cons_zero]; exact rfl
                    case hQm18 => exact fun _ _ _ h => h
                    case hwm18 => rfl
                    case hym18 => ((intro w hSw; (try dsimp only at hSw); go_simp) <;> with_reducible rfl)
                    try simp only [Act.put, List.setIfInBounds_toArray, List.set_cons_zero, List.set_cons_succ]
                    refine wpAnyH_take (i := 8) (oi := ?oim19) (v := ?vm19) ?him19 (by kernel_rfl) (by kernel_rfl) (by kernel_rfl) ?hQm19 (Or.inl ⟨?hwm19, ?hym19⟩) (by assumption) ?restm19
                    case him19 => simp only [List.getElem?_toArray, List.getElem?_cons_succ, List.getElem?_cons_zero]; exact rfl
                    case hQm19 => exact fun _ _ _ h => h
                    case hwm19 => rfl
                    case hym19 => ((intro w hSw; (try dsimp only at hSw); go_simp) <;> with_reducible rfl)
                    try simp only [Act.put, List.setIfInBounds_toArray, List.set_cons_zero, List.set_cons_succ]
                    refine wpAnyH_take (i := 9) (oi := ?oim20) (v := ?vm20) ?him20 (by kernel_rfl) (by kernel_rfl) (by kernel_rfl) ?hQm20 (Or.inl ⟨?hwm20, ?hym20⟩) (by assumption) ?restm20
                    case him20 => simp only [List.getElem?_toArray, List.getElem?_cons_succ, List.getElem?_cons_zero]; exact rfl
                    case hQm20 => exact fun _ _ _ h => h
                    case hwm20 => rfl
                    case hym20 => ((intro w hSw; (try dsimp only at hSw); go_simp) <;> with_reducible rfl)
                    try simp only [Act.put, List.setIfInBounds_toArray, List.set_cons_zero, List.set_cons_succ]
                    refine wpAnyH_take (i := 10) (oi := ?oim21) (v := ?vm21) ?him21 (by kernel_rfl) (by kernel_rfl) (by kernel_rfl) ?hQm21 (Or.inl ⟨?hwm21, ?hym21⟩) (by assumption) ?restm21
                    case him21 => simp only [List.getElem?_toArray, List.getElem?_cons_succ, List.getElem?_cons_zero]; exact rfl
                    case hQm21 => exact fun _ _ _ h => h
                    case hwm21 => rfl
                    case hym21 => ((intro w hSw; (try dsimp only at hSw); go_simp) <;> with_reducible rfl)
                    try simp only [Act.put, List.setIfInBounds_toArray, List.set_cons_zero, List.set_cons_succ]
                    refine wpAnyH_take (i := 12) (oi := ?oim22) (v := ?vm22) ?him22 (by kernel_rfl) (by kernel_rfl) (by kernel_rfl) ?hQm22 (Or.inl ⟨?hwm22, ?hym22⟩) (by assumption) ?restm22
                    case him22 => simp only [List.getElem?_toArray, List.getElem?_cons_succ, List.getElem?_cons_zero]; exact rfl
                    case hQm22 => exact fun _ _ _ h => h
                    case hwm22 => rfl
                    case hym22 => ((intro w hSw; (try dsimp only at hSw); go_simp) <;> with_reducible rfl)
                    try simp only [Act.put, List.setIfInBounds_toArray, List.set_cons_zero, List.set_cons_succ]
                    refine wpAnyH_ready (rs := [13]) (by kernel_rfl) (by simp) ?_
                    refine AllReadyH.cons (o := ?or23_13) ?hor23_13 (fun K hK => ?stepr23_13) (AllReadyH.nil)
                    case hor23_13 => simp only [List.getElem?_toArray, List.getElem?_cons_succ, List.getElem?_cons_zero]; exact rfl
                    case stepr23_13 =>
                      obtain ⟨y0, y1, y2, y3, x0, x1, x2, x3⟩ := ord_cell hG
                      go_simp
                      have hHv : Below wr.heap.size wr vc := hHeld
                      refine hK.out _ _ ?hSr23_13 (fun hHeld => ?restr23_13)
                      case hSr23_13 => exact (((hHv.setCell (p := ⟨wr.heap.size, 0, none⟩) hGl _).setCell (p := ⟨wr.heap.size, 1, none⟩) hGl _).setCell (p := ⟨wr.heap.size, 2, none⟩) hGl _).setCell (p := ⟨wr.heap.size, 3, none⟩) hGl _
                      clear hK K
                      try simp only [Act.put, List.setIfInBounds_toArray, List.set_cons_zero, List.set_cons_succ]
                      refine wpAnyH_take (i := 14) (oi := ?oim24) (v := ?vm24) ?him24 (by kernel_rfl) (by kernel_rfl) (by kernel_rfl) ?hQm24 (Or.inl ⟨?hwm24, ?hym24⟩) (by assumption) ?restm24
                      case him24 => simp only [List.getElem?_toArray, List.getElem?_cons_succ, List.getElem?_cons_zero]; exact rfl
                      case hQm24 => exact fun _ _ _ h => h
                      case hwm24 => rfl
                      case hym24 => ((intro w hSw; (try dsimp only at hSw); go_simp) <;> with_reducible rfl)
                      try simp only [Act.put, List.setIfInBounds_toArray, List.set_cons_zero, List.set_cons_succ]
                      refine wpAnyH_done (by kernel_rfl) ?_ _
                      have hHz : Below wr.heap.size wr (((((vc.setCell ⟨wr.heap.size, 0, none⟩ (.int .i64 m0)).setCell ⟨wr.heap.size, 1, none⟩ (.int .i64 m1)).setCell ⟨wr.heap.size, 2, none⟩ (.int .i64 m2))).setCell ⟨wr.heap.size, 3, none⟩ (.int .i64 m3)) := hHeld
                      clear hHeld y0 y1 y2 y3 x0 x1 x2 x3 hG
                      generalize (((((vc.setCell ⟨wr.heap.size, 0, none⟩ (.int .i64 m0)).setCell ⟨wr.heap.size, 1, none⟩ (.int .i64 m1)).setCell ⟨wr.heap.size, 2, none⟩ (.int .i64 m2))).setCell ⟨wr.heap.size, 3, none⟩ (.int .i64 m3)) = wz at *
                      have HBV := Lib.hid (hbq.trans (hHz.mono hbq.size))
                      clear hHz hbq p0 p1 c6 d0 d1 d2 d3
                      go_wp2_with fail
                      go_roundw
                      case rel => exact ⟨t + 1, by go_num, .inl (by omega), HBV.out⟩
                      case measure => simp [intOf]; omega
          · rw [hkk] at c1
            rw [hid] at c4
            clear hkk hid hl20
            go_wp2_with fail
            clear c0 c1 c2 c3 c4 c5 c7 o0 o1 o2 o3
            rename World => wo
            go_loopw [16] (fun q wr => ∃ t : Nat, q = .int .i64 (t : Int) ∧ (t = k ∨ t + 1 = k) ∧ Below wo.heap.size wo wr) (fun q _ => k - (intOf q).toNat)
            case atStart => exact ⟨_, rfl, ht2, Below.refl _ _⟩
            case round =>
              clear ht2
              obtain ⟨t, rfl, ht2, hbq⟩ := hrel
              replace D := D.trans (hbq.mono D.size)
              replace kO := (hbq.block _ (heap_lt kO)).trans kO
              replace TI := TI.below hbq
              replace RI := own_below RI hbq
              replace kN := (hbq.block _ (heap_lt kN)).trans kN
              replace TL := own_below TL hbq
              replace c6 := (hbq.cell (p := ⟨b, o + k * 8 + 6, none⟩) hbo).trans c6
              replace hbo : b < wr.heap.size := Nat.lt_of_lt_of_le hbo hbq.size
              obtain ⟨p0, p1⟩ := cell2 kN
              obtain ⟨o0, o1, o2, o3, -⟩ := ord_cell kO
              have hlX := heap_lt kN
              have htK : t < Kn := by omega
              obtain ⟨b2, q2, hax2, hbo2, d0, d1, d2, d3⟩ := (Lst.of_own TL).row4 htK
              subst hax2
              by_cases hte : t = k
              · have HBW := Lib.hid (hbr.trans (hbq.mono hbr.size))
                subst hte
                clear hbq hbr p0 p1 o0 o1 o3 d1 d3
                have hx : (num Z (t * 4) != num Z (t * 4)) = false := by simp
                have hx2 : ((t : Int) == (Kn : Int)) = false := by simp; omega
                have hx3 : (num Z (t * 4 + 2) != num Z (t * 4 + 2)) = false := by simp
                go_upto_region 22 with fail
                go_region
                go_upto_region 24 with fail
                have hlO := heap_lt kO
                rcases hlim with hop | ⟨hop, rfl, hle⟩ | ⟨hop, rfl, hle⟩
                · have hg1 : decide (0 < op) = false := by simp; omega
                  clear hop
                  go_quiet (fail)
                  go_wp2_with fail
                  go_roundw
                  case rel => exact ⟨t + 1, t, by omega, rfl, by go_num, fun _ => by omega, by have hZ := HBW.out; exact ⟨hZ.os, hZ.tape, hZ.output, hZ.size, hZ.block⟩⟩
                  case measure => simp [intOf]; omega
                · have hg1 : decide (0 < op) = true := by simp; omega
                  have hg2 : decide (op < num Z (t * 4 + 2)) = false := by simp; omega
                  clear hop
                  clear hle
                  go_quiet (fail)
                  go_wp2_with fail
                  go_roundw
                  case rel => exact ⟨t + 1, t, by omega, rfl, by go_num, fun _ => by omega, by have hZ := HBW.out; exact ⟨hZ.os, hZ.tape, hZ.output, hZ.size, hZ.block⟩⟩
                  case measure => simp [intOf]; omega
                · have hg1 : decide (0 < op) = true := by simp; omega
                  have hg2 : decide (num Z (t * 4 + 2) < op) = false := by simp; omega
                  clear hop
                  clear hle
                  go_quiet (fail)
                  go_wp2_with fail
                  go_roundw
                  case rel => exact ⟨t + 1, t, by omega, rfl, by go_num, fun _ => by omega, by have hZ := HBW.out; exact ⟨hZ.os, hZ.tape, hZ.output, hZ.size, hZ.block⟩⟩
                  case measure => simp [intOf]; omega
              · have hne : (num Z (t * 4) != num Z (k * 4)) = true := by simp [HDIS.out t k htK (by omega) hte]
                go_upto_region 18 with fail
                refine wp_region_held_drew (S := (fun w' => Below wr.heap.size wr w')) (by kernel_rfl) ?hSm25 (fun hHeld => ?restm25)
                case hSm25 => exact (Below.refl _ _).drew
                refine wpAnyH_take (i := 0) (oi := ?oim26) (v := ?vm26) ?him26 (by kernel_rfl) (by kernel_rfl) (by kernel_rfl) ?hQm26 (Or.inl ⟨?hwm26, ?hym26⟩) (by assumption) ?restm26
                case him26 => simp only [List.getElem?_toArray, List.getElem?_cons_succ, List.getElem?_cons_zero]; exact rfl
                case hQm26 => exact fun _ _ _ h => h
                case hwm26 => rfl
                case hym26 => ((intro w hSw; have t0 := (hSw.cell (p := ⟨X2, 0, none⟩) hlX).trans p0; have t1 := (hSw.cell (p := ⟨X2, 1, none⟩) hlX).trans p1; have t2 := (hSw.cell (p := ⟨b2, q2 + t * 4, none⟩) hbo2).trans d0; go_simp) <;> with_reducible rfl)
                try simp only [Act.put, List.setIfInBounds_toArray, List.set_cons_zero, List.set_cons_succ]
                refine wpAnyH_take (i := 1) (oi := ?oim27) (v := ?vm27) ?him27 (by kernel_rfl) (by kernel_rfl) (by kernel_rfl) ?hQm27 (Or.inl ⟨?hwm27, ?hym27⟩) (by assumption) ?restm27
                case him27 => simp only [List.getElem?_toArray, List.getElem?_cons_succ, List.getElem?_cons_zero]; exact rfl
                case hQm27 => exact fun _ _ _ h => h
                case hwm27 => rfl
                case hym27 => ((intro w hSw; (try dsimp only at hSw); go_simp) <;> with_reducible rfl)
                try simp only [Act.put, List.setIfInBounds_toArray, List.set_cons_zero, List.set_cons_succ]
                refine wpAnyH_take (i := 2) (oi := ?oim28) (v := ?vm28) ?him28 (by kernel_rfl) (by kernel_rfl) (by kernel_rfl) ?hQm28 (Or.inl ⟨?hwm28, ?hym28⟩) (by assumption) ?restm28
                case him28 => simp only [List.getElem?_toArray, List.getElem?_cons_succ, List.getElem?_cons_zero]; exact rfl
                case hQm28 => exact fun _ _ _ h => h
                case hwm28 => rfl
                case hym28 => ((intro w hSw; (try dsimp only at hSw); go_simp) <;> with_reducible rfl)
                try simp only [Act.put, List.setIfInBounds_toArray, List.set_cons_zero, List.set_cons_succ]
                refine wpAnyH_take (i := 3) (oi := ?oim29) (v := ?vm29) ?him29 (by kernel_rfl) (by kernel_rfl) (by kernel_rfl) ?hQm29 (Or.inl ⟨?hwm29, ?hym29⟩) (by assumption) ?restm29
                case him29 => simp only [List.getElem?_toArray, List.getElem?_cons_succ, List.getElem?_cons_zero]; exact rfl
                case hQm29 => exact fun _ _ _ h => h
                case hwm29 => rfl
                case hym29 => ((intro w hSw; (try dsimp only at hSw); go_simp) <;> with_reducible rfl)
                try simp only [Act.put, List.setIfInBounds_toArray, List.set_cons_zero, List.set_cons_succ]
                refine wpAnyH_take (i := 4) (oi := ?oim30) (v := ?vm30) ?him30 (by kernel_rfl) (by kernel_rfl) (by kernel_rfl) ?hQm30 (Or.inl ⟨?hwm30, ?hym30⟩) (by assumption) ?restm30
                case him30 => simp only [List.getElem?_toArray, List.getElem?_cons_succ, List.getElem?_cons_zero]; exact rfl
                case hQm30 => exact fun _ _ _ h => h
                case hwm30 => rfl
                case hym30 => ((intro w hSw; (try dsimp only at hSw); go_simp) <;> with_reducible rfl)
                try simp only [Act.put, List.setIfInBounds_toArray, List.set_cons_zero, List.set_cons_succ]
                refine wpAnyH_take (i := 5) (oi := ?oim31) (v := ?vm31) ?him31 (by kernel_rfl) (by kernel_rfl) (by kernel_rfl) ?hQm31 (Or.inl ⟨?hwm31, ?hym31⟩) (by assumption) ?restm31
                case him31 => simp only [List.getElem?_toArray, List.getElem?_cons_succ, List.getElem?_cons_zero]; exact rfl
                case hQm31 => exact fun _ _ _ h => h
                case hwm31 => rfl
                case hym31 => ((intro w hSw; have t0 := (hSw.cell (p := ⟨X2, 0, none⟩) hlX).trans p0; have t1 := (hSw.cell (p := ⟨X2, 1, none⟩) hlX).trans p1; have t2 := (hSw.cell (p := ⟨b2, q2 + t * 4, none⟩) hbo2).trans d0; go_simp) <;> with_reducible rfl)
                try simp only [Act.put, List.setIfInBounds_toArray, List.set_cons_zero, List.set_cons_succ]
                refine wpAnyH_ready (rs := [6, 11]) (by kernel_rfl) (by simp) ?_
                refine AllReadyH.cons (o := ?or32_6) ?hor32_6 (fun K hK => ?stepr32_6) (AllReadyH.cons (o := ?or32_11) ?hor32_11 (fun K hK => ?stepr32_11) (AllReadyH.nil))
                case hor32_6 => simp only [List.getElem?_toArray, List.getElem?_cons_succ, List.getElem?_cons_zero]; exact rfl
                case hor32_11 => simp only [List.getElem?_toArray, List.getElem?_cons_succ, List.getElem?_cons_zero]; exact rfl
                case stepr32_6 =>
                  go_simp
                  have hHv : Below wr.heap.size wr wr.drew := hHeld
                  refine (impl_Find BI N1 bI CI N2 cI Y1 Y2 (num Z (t * 4)) _ (Lst.of_own (TI.below hHv).one) (Lst.of_own (TI.below hHv).two) (by omega) (by omega)).mono ?_
                  rintro e vc ⟨⟨s4, f4, ok4, hrel4, rfl⟩, hb4⟩
                  rw [HBK.out] at hrel4
                  obtain rfl := HFND.out t (by omega) _ _ _ hrel4
                  clear hrel4
                  generalize f4 0 = m0 at *
                  generalize f4 1 = m1 at *
                  generalize f4 2 = m2 at *
                  generalize f4 3 = m3 at *
                  refine hK.out _ _ ?hSr32_6 (fun hHeld => ?restr32_6)
                  case hSr32_6 => exact hHv.trans (hb4.mono hHv.size)
                  clear hK K
                  try simp only [Act.put, List.setIfInBounds_toArray, List.set_cons_zero, List.set_cons_succ]
                  refine wpAnyH_take (i := 7) (oi := ?oim33) (v := ?vm33) ?him33 (by kernel_rfl) (by kernel_rfl) (by kernel_rfl) ?hQm33 (Or.inl ⟨?hwm33, ?hym33⟩) (by assumption) ?restm33
                  case him33 => simp only [List.getElem?_toArray, List.getElem?_cons_succ, List.getElem?_cons_zero]; exact rfl
                  case hQm33 => exact fun _ _ _ h => h
                  case hwm33 => rfl
                  case hym33 => ((intro w hSw; (try dsimp only at hSw); go_simp) <;> with_reducible rfl)
                  try simp only [Act.put, List.setIfInBounds_toArray, List.set_cons_zero, List.set_cons_succ]
                  refine wpAnyH_take (i := 8) (oi := ?oim34) (v := ?vm34) ?him34 (by kernel_rfl) (by kernel_rfl) (by kernel_rfl) ?hQm34 (Or.inl ⟨?hwm34, ?hym34⟩) (by assumption) ?restm34
                  case him34 => simp only [List.getElem?_toArray, List.getElem?_cons_succ, List.getElem?_cons_zero]; exact rfl
                  case hQm34 => exact fun _ _ _ h => h
                  case hwm34 => rfl
                  case hym34 => ((intro w hSw; (try dsimp only at hSw); go_simp) <;> with_reducible rfl)
                  try simp only [Act.put, List.setIfInBounds_toArray, List.set_cons_zero, List.set_cons_succ]
                  refine wpAnyH_take (i := 9) (oi := ?oim35) (v := ?vm35) ?him35 (by kernel_rfl) (by kernel_rfl) (by kernel_rfl) ?hQm35 (Or.inl ⟨?hwm35, ?hym35⟩) (by assumption) ?restm35
                  case him35 => simp only [List.getElem?_toArray, List.getElem?_cons_succ, List.getElem?_cons_zero]; exact rfl
                  case hQm35 => exact fun _ _ _ h => h
                  case hwm35 => rfl
                  case hym35 => ((intro w hSw; (try dsimp only at hSw); go_simp) <;> with_reducible rfl)
                  try simp only [Act.put, List.setIfInBounds_toArray, List.set_cons_zero, List.set_cons_succ]
                  refine wpAnyH_take (i := 10) (oi := ?oim36) (v := ?vm36) ?him36 (by kernel_rfl) (by kernel_rfl) (by kernel_rfl) ?hQm36 (Or.inl ⟨?hwm36, ?hym36⟩) (by assumption) ?restm36
                  case him36 => simp only [List.getElem?_toArray, List.getElem?_cons_succ, List.getElem?_cons_zero]; exact rfl
                  case hQm36 => exact fun _ _ _ h => h
                  case hwm36 => rfl
                  case hym36 => ((intro w hSw; (try dsimp only at hSw); go_simp) <;> with_reducible rfl)
                  try simp only [Act.put, List.setIfInBounds_toArray, List.set_cons_zero, List.set_cons_succ]
                  refine wpAnyH_ready (rs := [11]) (by kernel_rfl) (by simp) ?_
                  refine AllReadyH.cons (o := ?or37_11) ?hor37_11 (fun K hK => ?stepr37_11) (AllReadyH.nil)
                  case hor37_11 => simp only [List.getElem?_toArray, List.getElem?_cons_succ, List.getElem?_cons_zero]; exact rfl
                  case stepr37_11 =>
                    go_simp
                    have hG := heap_alloc_new vc (.cells #[.int .i64 0, .int .i64 0, .int .i64 0, .int .i64 0] 28)
                    have hHv : Below wr.heap.size wr vc := hHeld
                    have hGl : wr.heap.size ≤ vc.heap.size := hHv.size
                    have hHa := hHv.alloc hHv.size (.cells #[.int .i64 0, .int .i64 0, .int .i64 0, .int .i64 0] 28)
                    generalize vc.alloc (.cells #[.int .i64 0, .int .i64 0, .int .i64 0, .int .i64 0] 28) = va at *
                    generalize vc.heap.size = G at *
                    refine hK.out _ _ ?hSr37_11 (fun hHeld => ?restr37_11)
                    case hSr37_11 => exact hHa
                    clear hK K
                    try simp only [Act.put, List.setIfInBounds_toArray, List.set_cons_zero, List.set_cons_succ]
                    refine wpAnyH_take (i := 12) (oi := ?oim38) (v := ?vm38) ?him38 (by kernel_rfl) (by kernel_rfl) (by kernel_rfl) ?hQm38 (Or.inl ⟨?hwm38, ?hym38⟩) (by assumption) ?restm38
                    case him38 => simp only [List.getElem?_toArray, List.getElem?_cons_succ, List.getElem?_cons_zero]; exact rfl
                    case hQm38 => exact fun _ _ _ h => h
                    case hwm38 => rfl
                    case hym38 => ((intro w hSw; (try dsimp only at hSw); go_simp) <;> with_reducible rfl)
                    try simp only [Act.put, List.setIfInBounds_toArray, List.set_cons_zero, List.set_cons_succ]
                    refine wpAnyH_ready (rs := [13]) (by kernel_rfl) (by simp) ?_
                    refine AllReadyH.cons (o := ?or39_13) ?hor39_13 (fun K hK => ?stepr39_13) (AllReadyH.nil)
                    case hor39_13 => simp only [List.getElem?_toArray, List.getElem?_cons_succ, List.getElem?_cons_zero]; exact rfl
                    case stepr39_13 =>
                      obtain ⟨y0, y1, y2, y3, x0, x1, x2, x3⟩ := ord_cell hG
                      go_simp
                      have hHv : Below wr.heap.size wr va := hHeld
                      refine hK.out _ _ ?hSr39_13 (fun hHeld => ?restr39_13)
                      case hSr39_13 => exact (((hHv.setCell (p := ⟨G, 0, none⟩) hGl _).setCell (p := ⟨G, 1, none⟩) hGl _).setCell (p := ⟨G, 2, none⟩) hGl _).setCell (p := ⟨G, 3, none⟩) hGl _
                      clear hK K
                      try simp only [Act.put, List.setIfInBounds_toArray, List.set_cons_zero, List.set_cons_succ]
                      refine wpAnyH_take (i := 14) (oi := ?oim40) (v := ?vm40) ?him40 (by kernel_rfl) (by kernel_rfl) (by kernel_rfl) ?hQm40 (Or.inl ⟨?hwm40, ?hym40⟩) (by assumption) ?restm40
                      case him40 => simp only [List.getElem?_toArray, List.getElem?_cons_succ, List.getElem?_cons_zero]; exact rfl
                      case hQm40 => exact fun _ _ _ h => h
                      case hwm40 => rfl
                      case hym40 => ((intro w hSw; (try dsimp only at hSw); go_simp) <;> with_reducible rfl)
                      try simp only [Act.put, List.setIfInBounds_toArray, List.set_cons_zero, List.set_cons_succ]
                      refine wpAnyH_done (by kernel_rfl) ?_ _
                      have hHz : Below wr.heap.size wr (((((va.setCell ⟨G, 0, none⟩ (.int .i64 m0)).setCell ⟨G, 1, none⟩ (.int .i64 m1)).setCell ⟨G, 2, none⟩ (.int .i64 m2))).setCell ⟨G, 3, none⟩ (.int .i64 m3)) := hHeld
                      clear hHeld y0 y1 y2 y3 x0 x1 x2 x3 hG
                      generalize (((((va.setCell ⟨G, 0, none⟩ (.int .i64 m0)).setCell ⟨G, 1, none⟩ (.int .i64 m1)).setCell ⟨G, 2, none⟩ (.int .i64 m2))).setCell ⟨G, 3, none⟩ (.int .i64 m3)) = wz at *
                      have HBV := Lib.hid (hbq.trans (hHz.mono hbq.size))
                      clear hHz hbq p0 p1 c6 d0 d1 d2 d3
                      go_wp2_with fail
                      go_roundw
                      case rel => exact ⟨t + 1, by go_num, .inl (by omega), HBV.out⟩
                      case measure => simp [intOf]; omega
                case stepr32_11 =>
                  go_simp
                  have hG : (wr.alloc (.cells #[.int .i64 0, .int .i64 0, .int .i64 0, .int .i64 0] 28)).drew.heap[wr.heap.size]? = _ := heap_alloc_new wr (.cells #[.int .i64 0, .int .i64 0, .int .i64 0, .int .i64 0] 28)
                  have hGl : wr.heap.size ≤ wr.heap.size := Nat.le_refl _
                  have hHa : Below wr.heap.size wr (wr.alloc (.cells #[.int .i64 0, .int .i64 0, .int .i64 0, .int .i64 0] 28)).drew := ((Below.refl _ _).alloc (Nat.le_refl _) (.cells #[.int .i64 0, .int .i64 0, .int .i64 0, .int .i64 0] 28)).drew
                  generalize (wr.alloc (.cells #[.int .i64 0, .int .i64 0, .int .i64 0, .int .i64 0] 28)).drew = va at *
                  refine hK.out _ _ ?hSr32_11 (fun hHeld => ?restr32_11)
                  case hSr32_11 => exact hHa
                  clear hK K
                  try simp only [Act.put, List.setIfInBounds_toArray, List.set_cons_zero, List.set_cons_succ]
                  refine wpAnyH_ready (rs := [6]) (by kernel_rfl) (by simp) ?_
                  refine AllReadyH.cons (o := ?or41_6) ?hor41_6 (fun K hK => ?stepr41_6) (AllReadyH.nil)
                  case hor41_6 => simp only [List.getElem?_toArray, List.getElem?_cons_succ, List.getElem?_cons_zero]; exact rfl
                  case stepr41_6 =>
                    go_simp
                    have hHv : Below wr.heap.size wr va := hHeld
                    refine (impl_Find BI N1 bI CI N2 cI Y1 Y2 (num Z (t * 4)) _ (Lst.of_own (TI.below hHv).one) (Lst.of_own (TI.below hHv).two) (by omega) (by omega)).mono ?_
                    rintro e vc ⟨⟨s4, f4, ok4, hrel4, rfl⟩, hb4⟩
                    rw [HBK.out] at hrel4
                    obtain rfl := HFND.out t (by omega) _ _ _ hrel4
                    clear hrel4
                    generalize f4 0 = m0 at *
                    generalize f4 1 = m1 at *
                    generalize f4 2 = m2 at *
                    generalize f4 3 = m3 at *
                    replace hG := (hb4.block _ (heap_lt hG)).trans hG
                    refine hK.out _ _ ?hSr41_6 (fun hHeld => ?restr41_6)
                    case hSr41_6 => exact hHv.trans (hb4.mono hHv.size)
                    clear hK K
                    try simp only [Act.put, List.setIfInBounds_toArray, List.set_cons_zero, List.set_cons_succ]
                    refine wpAnyH_take (i := 7) (oi := ?oim42) (v := ?vm42) ?him42 (by kernel_rfl) (by kernel_rfl) (by kernel_rfl) ?hQm42 (Or.inl ⟨?hwm42, ?hym42⟩) (by assumption) ?restm42
                    case him42 => simp only [List.getElem?_toArray, List.getElem?_cons_succ, List.getElem?_cons_zero]; exact rfl
                    case hQm42 => exact fun _ _ _ h => h
                    case hwm42 => rfl
                    case hym42 => ((intro w hSw; (try dsimp only at hSw); go_simp) <;> with_reducible rfl)
                    try simp only [Act.put, List.setIfInBounds_toArray, List.set_cons_zero, List.set_cons_succ]
                    refine wpAnyH_take (i := 8) (oi := ?oim43) (v := ?vm43) ?him43 (by kernel_rfl) (by kernel_rfl) (by kernel_rfl) ?hQm43 (Or.inl ⟨?hwm43, ?hym43⟩) (by assumption) ?restm43
                    case him43 => simp only [List.getElem?_toArray, List.getElem?_cons_succ, List.getElem?_cons_zero]; exact rfl
                    case hQm43 => exact fun _ _ _ h => h
                    case hwm43 => rfl
                    case hym43 => ((intro w hSw; (try dsimp only at hSw); go_simp) <;> with_reducible rfl)
                    try simp only [Act.put, List.setIfInBounds_toArray, List.set_cons_zero, List.set_cons_succ]
                    refine wpAnyH_take (i := 9) (oi := ?oim44) (v := ?vm44) ?him44 (by kernel_rfl) (by kernel_rfl) (by kernel_rfl) ?hQm44 (Or.inl ⟨?hwm44, ?hym44⟩) (by assumption) ?restm44
                    case him44 => simp only [List.getElem?_toArray, List.getElem?_cons_succ, List.getElem?_cons_zero]; exact rfl
                    case hQm44 => exact fun _ _ _ h => h
                    case hwm44 => rfl
                    case hym44 => ((intro w hSw; (try dsimp only at hSw); go_simp) <;> with_reducible rfl)
                    try simp only [Act.put, List.setIfInBounds_toArray, List.set_cons_zero, List.set_cons_succ]
                    refine wpAnyH_take (i := 10) (oi := ?oim45) (v := ?vm45) ?him45 (by kernel_rfl) (by kernel_rfl) (by kernel_rfl) ?hQm45 (Or.inl ⟨?hwm45, ?hym45⟩) (by assumption) ?restm45
                    case him45 => simp only [List.getElem?_toArray, List.getElem?_cons_succ, List.getElem?_cons_zero]; exact rfl
                    case hQm45 => exact fun _ _ _ h => h
                    case hwm45 => rfl
                    case hym45 => ((intro w hSw; (try dsimp only at hSw); go_simp) <;> with_reducible rfl)
                    try simp only [Act.put, List.setIfInBounds_toArray, List.set_cons_zero, List.set_cons_succ]
                    refine wpAnyH_take (i := 12) (oi := ?oim46) (v := ?vm46) ?him46 (by kernel_rfl) (by kernel_rfl) (by kernel_rfl) ?hQm46 (Or.inl ⟨?hwm46, ?hym46⟩) (by assumption) ?restm46
                    case him46 => simp only [List.getElem?_toArray, List.getElem?_cons_succ, List.getElem?_cons_zero]; exact rfl
                    case hQm46 => exact fun _ _ _ h => h
                    case hwm46 => rfl
                    case hym46 => ((intro w hSw; (try dsimp only at hSw); go_simp) <;> with_reducible rfl)
                    try simp only [Act.put, List.setIfInBounds_toArray, List.set_cons_zero, List.set_cons_succ]
                    refine wpAnyH_ready (rs := [13]) (by kernel_rfl) (by simp) ?_
                    refine AllReadyH.cons (o := ?or47_13) ?hor47_13 (fun K hK => ?stepr47_13) (AllReadyH.nil)
                    case hor47_13 => simp only [List.getElem?_toArray, List.getElem?_cons_succ, List.getElem?_cons_zero]; exact rfl
                    case stepr47_13 =>
                      obtain ⟨y0, y1, y2, y3, x0, x1, x2, x3⟩ := ord_cell hG
                      go_simp
                      have hHv : Below wr.heap.size wr vc := hHeld
                      refine hK.out _ _ ?hSr47_13 (fun hHeld => ?restr47_13)
                      case hSr47_13 => exact (((hHv.setCell (p := ⟨wr.heap.size, 0, none⟩) hGl _).setCell (p := ⟨wr.heap.size, 1, none⟩) hGl _).setCell (p := ⟨wr.heap.size, 2, none⟩) hGl _).setCell (p := ⟨wr.heap.size, 3, none⟩) hGl _
                      clear hK K
                      try simp only [Act.put, List.setIfInBounds_toArray, List.set_cons_zero, List.set_cons_succ]
                      refine wpAnyH_take (i := 14) (oi := ?oim48) (v := ?vm48) ?him48 (by kernel_rfl) (by kernel_rfl) (by kernel_rfl) ?hQm48 (Or.inl ⟨?hwm48, ?hym48⟩) (by assumption) ?restm48
                      case him48 => simp only [List.getElem?_toArray, List.getElem?_cons_succ, List.getElem?_cons_zero]; exact rfl
                      case hQm48 => exact fun _ _ _ h => h
                      case hwm48 => rfl
                      case hym48 => ((intro w hSw; (try dsimp only at hSw); go_simp) <;> with_reducible rfl)
                      try simp only [Act.put, List.setIfInBounds_toArray, List.set_cons_zero, List.set_cons_succ]
                      refine wpAnyH_done (by kernel_rfl) ?_ _
                      have hHz : Below wr.heap.size wr (((((vc.setCell ⟨wr.heap.size, 0, none⟩ (.int .i64 m0)).setCell ⟨wr.heap.size, 1, none⟩ (.int .i64 m1)).setCell ⟨wr.heap.size, 2, none⟩ (.int .i64 m2))).setCell ⟨wr.heap.size, 3, none⟩ (.int .i64 m3)) := hHeld
                      clear hHeld y0 y1 y2 y3 x0 x1 x2 x3 hG
                      generalize (((((vc.setCell ⟨wr.heap.size, 0, none⟩ (.int .i64 m0)).setCell ⟨wr.heap.size, 1, none⟩ (.int .i64 m1)).setCell ⟨wr.heap.size, 2, none⟩ (.int .i64 m2))).setCell ⟨wr.heap.size, 3, none⟩ (.int .i64 m3)) = wz at *
                      have HBV := Lib.hid (hbq.trans (hHz.mono hbq.size))
                      clear hHz hbq p0 p1 c6 d0 d1 d2 d3
                      go_wp2_with fail
                      go_roundw
                      case rel => exact ⟨t + 1, by go_num, .inl (by omega), HBV.out⟩
                      case measure => simp [intOf]; omega
        · obtain ⟨hN, hk4, hid⟩ : N3 = r + 1 ∧ num RR (k * 8 + 1) = 4 ∧ num RR (k * 8 + 4) = oi := by
            rcases hl20 with hl | ⟨hl, hl1, hl2⟩
            · omega
            · obtain rfl : r = k := by omega
              exact ⟨hl, hl1, hl2⟩
          rw [hk4] at c1
          rw [hid] at c4
          clear hk4 hid hl20
          have hii : (oi == oi) = true := by simp
          go_wp2_with fail
          go_roundw
          case rel => exact ⟨k + 1, t0, by omega, rfl, by go_num, fun h => absurd h (by omega), hbr⟩
          case measure => simp [intOf]; omega
      · obtain rfl : N3 = k := by omega
        go_wp2_with fail
        go_ret
        exact ⟨by first | rfl | simp, D⟩
end Go.Proofs.Ytdjmejjponlfoaa
