/-
 ExE, ExS, ExU.
-/
import Derived.Test.YtgjjdnojiegidaaGreatDoorTak
import Derived.Test.YtgjjdnojiegidaaGreatDoorHI
import Derived.Test.YtgjjdnojiegidaaGreatDoorRestS
import Derived.Test.YtgjjdnojiegidaaGreatDoorGM
import Derived.Test.YtgjjdnojiegidaaGreatDoorHX
namespace Go.Proofs.YtgjjdnojiegidaaGreatDoor
open Go.RowKit Wire
set_option maxHeartbeats 6400000
set_option maxRecDepth 100000
set_option linter.unusedSimpArgs false
set_option linter.unusedVariables false

theorem tSk {w : World} {base S i : Nat} {T : TypeId} {r1 r2 u : Value} {n1 n2 : Nat} {z1 z2 : List Int} {cs : Array Value} (h : TwoRows w base r1 n1 z1 r2 n2 z2) (hS : w.heap[S]? = some (.cells cs T (0, 0))) (hne : 65 ≠ T) : TwoRows (w.setCell ⟨S, i, none⟩ u) base r1 n1 z1 r2 n2 z2 :=
 ⟨oSk h.one hS hne, oSk h.two hS hne, h.apart⟩
theorem tGr {w w' : World} {base base' N : Nat} {v r1 r2 : Value} {n1 n2 : Nat} {z1 z2 : List Int} {xs : List Value} (h : TwoRows w base r1 n1 z1 r2 n2 z2) (hr : w.ownsRow base' 48 8 v N xs) (hg : w.grownBy w' v.ownBlock) : TwoRows w' base r1 n1 z1 r2 n2 z2 := by
 have k : ∀ {r : Value} {n : Nat} {z : List Int}, w.ownsRow base 65 4 r n (nums z) → r.ownBlock = none ∨ r.ownBlock ≠ v.ownBlock := fun {r n z} ho => by
  cases e : r.ownBlock with
  | none => exact .inl rfl
  | some q => exact .inr (fun c => mt_apart ho hr (by decide) q e c.symm)
 exact ⟨h.one.kept hg (k h.one), h.two.kept hg (k h.two), h.apart⟩
theorem rec_ne {w : World} {base N S : Nat} {v : Value} {xs : List Value} {cs : Array Value} {T : TypeId} (h : w.ownsRow base 48 8 v N xs) (hS : w.heap[S]? = some (.cells cs T (0, 0))) (hne : T ≠ 48) : some S ≠ v.ownBlock := fun e => by
 obtain ⟨c1, f1, g1⟩ := Lib.ownsRow_kind h _ e.symm
 rw [hS] at g1
 injection g1 with g1
 injection g1 with _ g1
 exact hne g1
theorem ne_kind {w : World} {S R : Nat} {cs ds : Array Value} {T U : TypeId} (h : w.heap[S]? = some (.cells cs T (0, 0))) (k : w.heap[R]? = some (.cells ds U (0, 0))) (hne : T ≠ U) : S ≠ R := fun e => by
 rw [e, k] at h
 injection h with h
 injection h with _ h
 exact hne h.symm
theorem two_set_at {w : World} {base S i : Nat} {r1 r2 u : Value} {n1 n2 : Nat} {z1 z2 : List Int} (h : TwoRows w base r1 n1 z1 r2 n2 z2) (hS : S < base) : TwoRows (w.setCell ⟨S, i, none⟩ u) base r1 n1 z1 r2 n2 z2 :=
 h.kept (setN_grown w S i u) hS
theorem cz2 {w : World} {S : Nat} {a b : Value} {T : TypeId} (h : w.heap[S]? = some (.cells #[a, b] T (0, 0))) : w.cell? ⟨S, 0, none⟩ = some a ∧ w.cell? ⟨S, 1, none⟩ = some b ∧ w.frozen? ⟨S, 0, none⟩ = false ∧ w.frozen? ⟨S, 1, none⟩ = false := by
 refine ⟨?_, ?_, ?_, ?_⟩ <;> simp [World.cell?, World.frozen?, h]
theorem side_room {sd : Int} {N1 N2 : Nat} (h : sideOkB sd = true) : (if sd = 1 then N1 else N2) = sideN true sd N1 N2 := by
 rcases side_cases sd with ⟨rfl, -⟩ | ⟨rfl, -⟩ | ⟨-, -, hno⟩
 · rfl
 · rfl
 · rw [hno] at h; cases h
theorem insR_0 (R : List Int) (p0 p1 p2 p3 p4 p5 p6 p7 : Int) : insR R 0 p0 p1 p2 p3 p4 p5 p6 p7 = [p0, p1, p2, p3, p4, p5, p6, p7] ++ R := by
 simp [insR]
theorem m_len2 {za zb : List Int} {n m : Nat} {side oi oa op oq mode : Int} (ha : za.length = n * 4) (hb : zb.length = m * 4) (h : rgB za n zb m side oi oa op oq mode = true) (hn : n ≤ 20) (hm : m ≤ 20) :
 (mZ1 true side oi oa op oq mode za zb).length / 4 ≤ 20 ∧ (mZ2 true side oi oa op oq mode za zb).length / 4 ≤ 20 ∧ (mRR true side oi oa op oq mode za zb).length / 8 ≤ 41 := by
 have R := rg_oth h ha hb
 obtain ⟨M, N, e1, e2, e3, e4⟩ := mtS_len (side := side) (id := oi) (acct := oa) (pr := op) (mode := mode) (othN side n m) (Z := othZ side za zb) (R := []) (q := oq) 0 R.len rfl
 have hle := R.le
 unfold mZ1 mZ2 mRR mtA
 rw [if_pos rfl, if_pos rfl, if_pos rfl]
 unfold othZ at e1 e3
 rw [e3]
 refine ⟨?_, ?_, by omega⟩ <;> split <;> first | omega | (rw [e1]; omega) | simp_all <;> omega
theorem impl_entered (A : Option Addr) (n c : Nat) (B : Option Addr) (m d : Nat) (za zb : List Int) (k sy ac id sd pr qt md : Int) (w : World) (ha : Lst w w.heap.size 4 A n za) (hb : Lst w w.heap.size 4 B m zb) (hn : n ≤ 1048576) (hm : m ≤ 1048576) (HRG : Hid (rgB za n zb m sd id ac pr qt md = true)) (HPR : Hid ((k = 1 ∨ k = 5) → 1 ≤ pr)) :
 Calls Tryz.prog 60 #[.agg #[.slice A n c, .slice B m d], .agg #[.int .i64 k, .int .i64 sy, .int .i64 ac, .int .i64 id, .int .i64 sd, .int .i64 pr, .int .i64 qt, .int .i64 md]] w fun e w' => EAns w' w.heap.size (plaR id ac pr qt md sd (decide (k = 1) || decide (k = 5)) za zb) e ∧ Below w.heap.size w w' := by
 have hrp := rg_parts HRG.out
 obtain ⟨-, -, -, -, -, hn20, hm20, -, -, -, -⟩ := hrp
 have hlA : za.length = n * 4 := ha.1
 have hlB' : zb.length = m * 4 := hb.1
 have hLN := m_len2 hlA hlB' HRG.out hn20 hm20
 obtain ⟨Y1, hsY1⟩ : ∃ x, mZ1 true sd id ac pr qt md za zb = x := ⟨_, rfl⟩
 obtain ⟨Y2, hsY2⟩ : ∃ x, mZ2 true sd id ac pr qt md za zb = x := ⟨_, rfl⟩
 obtain ⟨RR, hsRR⟩ : ∃ x, mRR true sd id ac pr qt md za zb = x := ⟨_, rfl⟩
 obtain ⟨lf, hslf⟩ : ∃ x, mLL true sd id ac pr qt md za zb = x := ⟨_, rfl⟩
 rw [hsY1, hsY2, hsRR] at hLN
 obtain ⟨N1, hsN1⟩ : ∃ x, Y1.length / 4 = x := ⟨_, rfl⟩
 obtain ⟨N2, hsN2⟩ : ∃ x, Y2.length / 4 = x := ⟨_, rfl⟩
 obtain ⟨N3, hsN3⟩ : ∃ x, RR.length / 8 = x := ⟨_, rfl⟩
 rw [hsN1, hsN2, hsN3] at hLN
 obtain ⟨hN1, hN2, hN3⟩ := hLN
 have HY1 := Lib.hid hsY1
 have HY2 := Lib.hid hsY2
 have HRR := Lib.hid hsRR
 have Hlf := Lib.hid hslf
 have HN1 := Lib.hid hsN1
 have HN2 := Lib.hid hsN2
 have HN3 := Lib.hid hsN3
 have hcon0 := fun (wx : World) (h1 : Lst wx wx.heap.size 4 A n za) (h2 : Lst wx wx.heap.size 4 B m zb) => (impl_Matched A n c B m d za zb sd id ac pr qt md wx h1 h2 hn hm).mono (fun e w' h => (⟨mans_len h.1, h.2⟩ : _ ∧ _))
 rw [HRG.out, hsY1, hsY2, hsRR, hslf, hsN1, hsN2, hsN3] at hcon0
 have HCON := Lib.hid hcon0
 clear hcon0 hsY1 hsY2 hsRR hslf hsN1 hsN2 hsN3 hn20 hm20
 obtain ⟨kB, kC, kZ⟩ := three_blocks w (.cells #[.slice A n c, .slice B m d] 30) (.cells #[.int .i64 k, .int .i64 sy, .int .i64 ac, .int .i64 id, .int .i64 sd, .int .i64 pr, .int .i64 qt, .int .i64 md] 35) (.cells #[.slice none 0 0, .slice none 0 0] 30)
 have D : Below w.heap.size w (((w.alloc (.cells #[.slice A n c, .slice B m d] 30)).alloc (.cells #[.int .i64 k, .int .i64 sy, .int .i64 ac, .int .i64 id, .int .i64 sd, .int .i64 pr, .int .i64 qt, .int .i64 md] 35)).alloc (.cells #[.slice none 0 0, .slice none 0 0] 30)) := (((Below.refl _ _).alloc (Nat.le_refl _) _).alloc (by simp) _).alloc (by simp; omega) _
 replace ha := ha.later D
 replace hb := hb.later D
 go_enter Tryz.func60, Tryz.ntmps60
 go_wp2_with fail
 generalize (((w.alloc (.cells #[.slice A n c, .slice B m d] 30)).alloc (.cells #[.int .i64 k, .int .i64 sy, .int .i64 ac, .int .i64 id, .int .i64 sd, .int .i64 pr, .int .i64 qt, .int .i64 md] 35)).alloc (.cells #[.slice none 0 0, .slice none 0 0] 30)) = w0 at *
 refine (impl_orderOf k sy ac id sd pr qt md w0).mono ?_
 rintro e w1 ⟨rfl, hb1⟩
 replace ha := ha.later hb1
 replace hb := hb.later hb1
 replace kB := bk1 hb1 kB
 replace kC := bk1 hb1 kC
 replace kZ := bk1 hb1 kZ
 replace D := D.trans (hb1.mono D.size)
 clear hb1
 have hXO : w.heap.size + 1 + 1 < w1.heap.size := hlT kZ
 go_upto_region 2 with fail
 have kO := heap_alloc_new w1 (.cells #[.int .i64 id, .int .i64 ac, .int .i64 pr, .int .i64 qt] 65)
 have hba : Below w1.heap.size w1 (w1.alloc (.cells #[.int .i64 id, .int .i64 ac, .int .i64 pr, .int .i64 qt] 65)) := (Below.refl _ _).alloc (Nat.le_refl _) _
 replace ha := ha.later hba
 replace hb := hb.later hba
 replace kB := bk1 hba kB
 replace kC := bk1 hba kC
 replace kZ := bk1 hba kZ
 replace D := D.trans (hba.mono D.size)
 clear hba
 generalize w1.alloc (.cells #[.int .i64 id, .int .i64 ac, .int .i64 pr, .int .i64 qt] 65) = w2 at *
 generalize w1.heap.size = XO at *
 obtain ⟨c0, c1, c2, c3, c4, c5, c6, c7⟩ := cmd_cell kC
 obtain ⟨p0, p1⟩ := rcell2 kB
 obtain ⟨o0, o1, o2, o3⟩ := rrcell4 kO
 have hl2 := hlT kO
 have hw2 := D.size
 have lC := hlT kC
 have lZ := hlT kZ
 go_wp2_with fail
 refine (HCON.out w2 ha hb).mono ?_
 clear HCON
 rintro e w3 ⟨⟨t1, t2, t3, rfl, TM, RM⟩, hb3⟩
 obtain ⟨B1, b1, B2, b2, rfl, rfl⟩ := TM.slices
 obtain ⟨E1, e1, rfl, _, _⟩ := oSl RM
 clear c0 c1 c2 c3 c4 c5 c6 c7 p0 p1 o0 o1 o2 o3 ha hb
 replace kB := bk1 hb3 kB
 replace kC := bk1 hb3 kC
 replace kZ := bk1 hb3 kZ
 replace D := D.trans (hb3.mono D.size)
 replace kO := bk1 hb3 kO
 have Q : Below w2.heap.size w2 w3 := hb3
 have hQ0 := hb3.size
 clear hb3
 go_upto_region 3 with fail
 have kN := heap_alloc_new w3 (.cells #[.slice B1 N1 b1, .slice B2 N2 b2] 30)
 have hba : Below w3.heap.size w3 (w3.alloc (.cells #[.slice B1 N1 b1, .slice B2 N2 b2] 30)) := (Below.refl _ _).alloc (Nat.le_refl _) _
 have hRX : ∀ q, (Value.slice E1 N3 e1).ownBlock = some q → w2.heap.size ≤ q ∧ q < w3.heap.size := fun q hq => RM.lt q hq
 replace kB := bk1 hba kB
 replace kC := bk1 hba kC
 replace kZ := bk1 hba kZ
 replace D := D.trans (hba.mono D.size)
 replace kO := bk1 hba kO
 replace Q := Q.trans (hba.mono Q.size)
 replace TM := TM.below hba
 replace RM := oBw RM hba
 clear hba
 generalize w3.alloc (.cells #[.slice B1 N1 b1, .slice B2 N2 b2] 30) = w4 at *
 have hNX0 : w2.heap.size ≤ w3.heap.size := hQ0
 have hXNw := Nat.le_of_lt (hlT kN)
 generalize w3.heap.size = XN at *
 obtain ⟨o0, o1, o2, o3⟩ := rrcell4 kO
 go_wp2_with fail
 refine (impl_orderRec 1 id ac pr qt w4).mono ?_
 rintro e w5 ⟨rfl, hb5⟩
 replace hXNw := Nat.le_trans hXNw hb5.size
 clear o0 o1 o2 o3
 replace kB := bk1 hb5 kB
 replace kC := bk1 hb5 kC
 replace kZ := bk1 hb5 kZ
 replace D := D.trans (hb5.mono D.size)
 replace kO := bk1 hb5 kO
 replace Q := Q.trans (hb5.mono Q.size)
 replace TM := TM.below hb5
 replace RM := oBw RM hb5
 replace kN := bk1 hb5 kN
 clear hb5
 have kA := heap_alloc_new w5 (.cells #[.int .i64 0, .int .i64 1, .int .i64 0, .int .i64 ac, .int .i64 id, .int .i64 0, .int .i64 pr, .int .i64 qt] 48)
 have hba : Below w5.heap.size w5 (w5.alloc (.cells #[.int .i64 0, .int .i64 1, .int .i64 0, .int .i64 ac, .int .i64 id, .int .i64 0, .int .i64 pr, .int .i64 qt] 48)) := (Below.refl _ _).alloc (Nat.le_refl _) _
 go_wp2_with fail
 replace kB := bk1 hba kB
 replace kC := bk1 hba kC
 replace kZ := bk1 hba kZ
 replace D := D.trans (hba.mono D.size)
 replace kO := bk1 hba kO
 replace Q := Q.trans (hba.mono Q.size)
 replace TM := TM.below hba
 replace RM := oBw RM hba
 replace kN := bk1 hba kN
 clear hba
 have hne : some w5.heap.size ≠ (Value.slice E1 N3 e1).ownBlock := fun e => by obtain ⟨c1, f1, g1⟩ := Lib.ownsRow_kind RM _ e.symm; have h1 := (hRX _ e.symm).2; have h2 := hXNw; omega
 generalize w5.alloc (.cells #[.int .i64 0, .int .i64 1, .int .i64 0, .int .i64 ac, .int .i64 id, .int .i64 0, .int .i64 pr, .int .i64 qt] 48) = w6 at *
 generalize w5.heap.size = XA at *
 have hI := impl_InsertR w2.heap.size N3 0 XA 0 1 0 ac id 0 pr qt (.slice E1 N3 e1) RR w6 RM Q.size (by omega) (Nat.zero_le _) kA hne
 rw [show ((0 : Nat) : Int) = 0 from rfl, insR_0] at hI
 refine hI.mono ?_
 clear hI
 rintro e w7 ⟨⟨v7, rfl, RI⟩, hg7⟩
 have TI := tGr TM RM hg7
 have nb : ∀ q, q < w2.heap.size → some q ≠ (Value.slice E1 N3 e1).ownBlock := fun q hq e => by have := (hRX q e.symm).1; omega
 replace kC := (hg7.block _ (hlT kC) (nb _ lC)).trans kC
 replace kZ := (hg7.block _ (hlT kZ) (nb _ lZ)).trans kZ
 replace kO := (hg7.block _ (hlT kO) (nb _ hl2)).trans kO
 replace kN := (hg7.block _ (hlT kN) (fun e => by have := (hRX _ e.symm).2; omega)).trans kN
 replace D := D.grown hg7 D.size (fun q hq => by have := (hRX q hq).1; omega)
 obtain ⟨E7, e7, rfl, _, _⟩ := oSl RI
 clear hg7 kB kA hne TM RM Q nb hRX
 have hNX : w2.heap.size ≤ XN := hNX0
 have hNZ : XN ≠ w.heap.size + 1 + 1 := by omega
 obtain ⟨i0, hi, hz0, hz1, hz2⟩ := info_parts rec_info
 by_cases hl : lf = 0
 · have tl : (lf == 0) = true := by simp [hl]
   have HP := Lib.hid (show plaR id ac pr qt md sd (decide (k = 1) || decide (k = 5)) za zb = (Y1, Y2, ackR ac id pr qt ++ RR) by unfold plaR; rw [Hlf.out, HY1.out, HY2.out, HRR.out, if_pos hl])
   clear hl
   obtain ⟨p0, p1⟩ := rcell2 kN
   obtain ⟨z0, z1, g0, g1⟩ := cz2 kZ
   have HZ := Lib.hid (show ((w7.setCell ⟨w.heap.size + 1 + 1, 0, none⟩ (.slice B1 N1 b1)).setCell ⟨w.heap.size + 1 + 1, 1, none⟩ (.slice B2 N2 b2)).heap[w.heap.size + 1 + 1]? = some (.cells #[.slice B1 N1 b1, .slice B2 N2 b2] 30 (0, 0)) from zS1 (zS0 kZ))
   replace TI := tSk (i := 1) (u := .slice B2 N2 b2) (tSk (i := 0) (u := .slice B1 N1 b1) TI kZ (by decide)) (zS0 (u := .slice B1 N1 b1) kZ) (by decide)
   replace RI := oSk (i := 1) (u := .slice B2 N2 b2) (oSk (i := 0) (u := .slice B1 N1 b1) RI kZ (by decide)) (zS0 (u := .slice B1 N1 b1) kZ) (by decide)
   replace D := (D.setCell (p := ⟨w.heap.size + 1 + 1, 0, none⟩) le2 (.slice B1 N1 b1)).setCell (p := ⟨w.heap.size + 1 + 1, 1, none⟩) le2 (.slice B2 N2 b2)
   have HT := Lib.hid TI
   have HR := Lib.hid RI
   have HD := Lib.hid D
   clear kZ TI RI D
   go_wp2_with fail
   clear z0 z1
   obtain ⟨z0, z1, -⟩ := cz2 HZ.out
   refine bodyPost_ret (v := .tuple #[.agg #[.slice B1 N1 b1, .slice B2 N2 b2], .slice E7 (N3 + 1) e7]) (by simp [results, Tryz.results60, go_sem, z0, z1]) rfl ⟨?_, HD.out⟩
   rw [HP.out]
   exact ⟨_, _, _, _, _, _, rfl, HT.out.mono hw2, oMn HR.out hw2⟩
 · have tl : (lf == 0) = false := by simp [hl]
   obtain ⟨o0, o1, o2, o3⟩ := rrcell4 kO
   have of3 := mfree kO 3
   go_upto_region 7 with fail
   clear o0 o1 o2 o3 of3
   have nC := ne_kind kC kO (by decide)
   have nN := ne_kind kN kO (by decide)
   have nZ := ne_kind kZ kO (by decide)
   replace RI := oSk (i := 3) (u := .int .i64 lf) RI kO (by decide)
   replace TI := two_set_at (i := 3) (u := .int .i64 lf) TI hl2
   replace D := D.setCell (p := ⟨XO, 3, none⟩) (show w.heap.size ≤ XO by omega) (.int .i64 lf)
   replace kC := mSo (i := 3) (u := .int .i64 lf) kC nC
   replace kN := mSo (i := 3) (u := .int .i64 lf) kN nN
   replace kZ := mSo (i := 3) (u := .int .i64 lf) kZ nZ
   replace kO := mset4_3 (u := .int .i64 lf) kO
   clear nC nN nZ
   generalize w7.setCell ⟨XO, 3, none⟩ (.int .i64 lf) = w8 at *
   obtain ⟨c0, c1, c2, c3, c4, c5, c6, c7⟩ := cmd_cell kC
   go_wp2_with fail
   refine ((impl_toRest k w8).mono (fun e w' h => (⟨h.1, h.2.symm⟩ : _ ∧ _))).mono ?_
   rintro e _ ⟨rfl, rfl⟩
   obtain ⟨rs, hrs⟩ : ∃ x, (decide (k = 1) || decide (k = 5)) = x := ⟨_, rfl⟩
   rw [hrs]
   have HRS := Lib.hid hrs
   clear hrs
   have HL := Lib.hid hl
   clear hl
   cases rs
   · have HP := Lib.hid (show plaR id ac pr qt md sd (decide (k = 1) || decide (k = 5)) za zb = (Y1, Y2, ackR ac id pr qt ++ RR ++ canR id ac pr lf) by unfold plaR; rw [HRS.out, Hlf.out, HY1.out, HY2.out, HRR.out, if_neg HL.out, if_neg (by simp)])
     clear c0 c1 c2 c3 c4 c5 c6 c7
     obtain ⟨p0, p1⟩ := rcell2 kN
     obtain ⟨o0, o1, o2, o3⟩ := rrcell4 kO
     go_upto_region 8 with fail
     clear p0 p1 o0 o1 o2 o3
     refine wp_region_held_drew (S := (fun w' => w'.heap[XN]? = some (.cells #[.slice B1 N1 b1, .slice B2 N2 b2] 30 (0, 0)) ∧ w'.heap[XO]? = some (.cells #[.int .i64 id, .int .i64 ac, .int .i64 pr, .int .i64 lf] 65 (0, 0)))) (by kernel_rfl) ?hSm57 (fun zH => ?restm57)
     case hSm57 => exact ⟨kN, kO⟩
     refine tkY 0 (hy := by ((intro wS hSw; obtain ⟨t0, t1⟩ := rcell2 hSw.1; go_simp) <;> with_reducible rfl)) (h := ?_)
     refine tkV 1 ?_
     refine tkY 2 (hy := by ((intro wS hSw; obtain ⟨t0, t1, t2, t3⟩ := rrcell4 hSw.2; go_simp) <;> with_reducible rfl)) (h := ?_)
     refine rd1 3 (fun K hK => ?_)
     replace D := D.drew
     replace TI := TI.below (Below.refl _ _).drew
     replace RI := oBw RI (Below.refl _ _).drew
     go_simp
     refine (impl_orderRec 4 id ac pr lf _).mono ?_
     rintro e v3 ⟨rfl, hb3⟩
     replace kC := bk1 hb3 kC
     replace kZ := bk1 hb3 kZ
     replace kO := bk1 hb3 kO
     replace kN := bk1 hb3 kN
     replace D := D.trans (hb3.mono D.size)
     replace TI := TI.below hb3
     replace RI := oBw RI hb3
     clear hb3
     refine hK.out _ _ (⟨kN, kO⟩) (fun zH => ?_)
     clear hK K
     try simp only [Act.put, sA, sB, sC]
     refine rd1 4 (fun K hK => ?_)
     go_simp
     have hnew := World.news_of_block (show (v3.alloc (.cells #[.int .i64 0, .int .i64 4, .int .i64 0, .int .i64 ac, .int .i64 id, .int .i64 0, .int .i64 pr, .int .i64 lf] 48)).heap[v3.heap.size]? = _ from heap_alloc_new v3 (.cells #[.int .i64 0, .int .i64 4, .int .i64 0, .int .i64 ac, .int .i64 id, .int .i64 0, .int .i64 pr, .int .i64 lf] 48))
     have hba : Below v3.heap.size v3 (v3.alloc (.cells #[.int .i64 0, .int .i64 4, .int .i64 0, .int .i64 ac, .int .i64 id, .int .i64 0, .int .i64 pr, .int .i64 lf] 48)) := (Below.refl _ _).alloc (Nat.le_refl _) _
     replace kC := bk1 hba kC
     replace kZ := bk1 hba kZ
     replace kO := bk1 hba kO
     replace kN := bk1 hba kN
     replace D := D.trans (hba.mono D.size)
     replace TI := TI.below hba
     replace RI := oBw RI hba
     clear hba
     generalize v3.alloc (.cells #[.int .i64 0, .int .i64 4, .int .i64 0, .int .i64 ac, .int .i64 id, .int .i64 0, .int .i64 pr, .int .i64 lf] 48) = va at *
     generalize v3.heap.size = xn at *
     refine hK.out _ _ (⟨kN, kO⟩) (fun zH => ?_)
     clear hK K
     try simp only [Act.put, sA, sB, sC]
     refine rd1 5 (fun K hK => ?_)
     have hlow : w2.heap.size ≤ va.heap.size := Nat.le_of_lt (Nat.lt_of_le_of_lt hNX (hlT kN))
     refine sAa _ rfl _ _ 31 rfl w2.heap.size 48 i0 _ 8 64 Tryz.underlying31 hi hz0 hz1 hz2 rfl (by decide) _ _ _ rfl RI ⟨xn, 0, none⟩ 1 1 [.int .i64 0, .int .i64 4, .int .i64 0, .int .i64 ac, .int .i64 id, .int .i64 0, .int .i64 pr, .int .i64 lf] rfl rfl hnew (nums_one (canR id ac pr lf)) (by unfold maxLen; omega) (by omega) hlow ?_
     intro v' wq hown hgrow _ hat
     have nZ := rec_ne RI kZ (by decide)
     have nO := rec_ne RI kO (by decide)
     have nN := rec_ne RI kN (by decide)
     replace TI := tGr TI RI hgrow
     replace D := D.grown hgrow D.size (fun q hq => Nat.le_trans hw2 (RI.lt q hq).1)
     replace kZ := (hgrow.block _ (hlT kZ) nZ).trans kZ
     replace kO := (hgrow.block _ (hlT kO) nO).trans kO
     replace kN := (hgrow.block _ (hlT kN) nN).trans kN
     obtain ⟨E9, e9, rfl, _, _⟩ := oSl hown
     replace RI := hown
     clear hown hgrow hat nZ nO nN hnew hlow kC
     refine hK.out _ _ (⟨kN, kO⟩) (fun zH => ?_)
     clear hK K
     try simp only [Act.put, sA, sB, sC]
     refine rd1 6 (fun K hK => ?_)
     obtain ⟨z0, z1, g0, g1⟩ := cz2 kZ
     go_simp
     clear z0 z1 g0 g1
     have nO := ne_kind kO kZ (by decide)
     have HZ := Lib.hid (show ((wq.setCell ⟨w.heap.size + 1 + 1, 0, none⟩ (.slice B1 N1 b1)).setCell ⟨w.heap.size + 1 + 1, 1, none⟩ (.slice B2 N2 b2)).heap[w.heap.size + 1 + 1]? = some (.cells #[.slice B1 N1 b1, .slice B2 N2 b2] 30 (0, 0)) from zS1 (zS0 kZ))
     replace TI := tSk (i := 1) (u := .slice B2 N2 b2) (tSk (i := 0) (u := .slice B1 N1 b1) TI kZ (by decide)) (zS0 (u := .slice B1 N1 b1) kZ) (by decide)
     replace RI := oSk (i := 1) (u := .slice B2 N2 b2) (oSk (i := 0) (u := .slice B1 N1 b1) RI kZ (by decide)) (zS0 (u := .slice B1 N1 b1) kZ) (by decide)
     replace D := (D.setCell (p := ⟨w.heap.size + 1 + 1, 0, none⟩) le2 (.slice B1 N1 b1)).setCell (p := ⟨w.heap.size + 1 + 1, 1, none⟩) le2 (.slice B2 N2 b2)
     replace kO := mSo (i := 1) (u := .slice B2 N2 b2) (mSo (i := 0) (u := .slice B1 N1 b1) kO nO) nO
     replace kN := mSo (i := 1) (u := .slice B2 N2 b2) (mSo (i := 0) (u := .slice B1 N1 b1) kN hNZ) hNZ
     refine hK.out _ _ (⟨kN, kO⟩) (fun zH => ?_)
     clear hK K
     try simp only [Act.put, sA, sB, sC]
     refine tkV 7 ?_
     refine dn1 ?_
     generalize ((wq.setCell ⟨w.heap.size + 1 + 1, 0, none⟩ (.slice B1 N1 b1)).setCell ⟨w.heap.size + 1 + 1, 1, none⟩ (.slice B2 N2 b2)) = wf at *
     have HR := Lib.hid RI
     have HT := Lib.hid TI
     have HD := Lib.hid D
     clear zH kN kO kZ RI TI D
     go_wp2_with fail
     obtain ⟨z0, z1, -⟩ := cz2 HZ.out
     refine bodyPost_ret (v := .tuple #[.agg #[.slice B1 N1 b1, .slice B2 N2 b2], .slice E9 (N3 + 1 + 1) e9]) (by simp [results, Tryz.results60, go_sem, z0, z1]) rfl ⟨?_, HD.out⟩
     rw [HP.out]
     exact ⟨_, _, _, _, _, _, rfl, HT.out.mono hw2, oMn (by rw [nums_append]; exact HR.out) hw2⟩
   · have HBM : Hid (bookB Y1 N1 Y2 N2 = true) := Lib.hid (by have := rg_book HRG.out hlA hlB'; rw [HY1.out, HY2.out, HN1.out, HN2.out] at this; exact this)
     obtain ⟨p0, p1⟩ := rcell2 kN
     go_wp2_with fail
     refine (impl_hasRoom B1 N1 b1 B2 N2 b2 Y1 Y2 sd w8 (Lst.of_own TI.one) (Lst.of_own TI.two) (by omega) (by omega)).mono ?_
     rintro e w9 ⟨rfl, hb9⟩
     rw [HBM.out]
     clear p0 p1 c0 c1 c2 c3 c4 c5 c6 c7
     replace kC := bk1 hb9 kC
     replace kZ := bk1 hb9 kZ
     replace kO := bk1 hb9 kO
     replace kN := bk1 hb9 kN
     replace D := D.trans (hb9.mono D.size)
     replace TI := TI.below hb9
     replace RI := oBw RI hb9
     clear hb9
     have HSN := Lib.hid (side_room (N1 := N1) (N2 := N2) (rg_parts HRG.out).2.1)
     by_cases hp : sideN true sd N1 N2 < 20
     rotate_left
     · rw [decide_eq_false hp]
       have HP := Lib.hid (show plaR id ac pr qt md sd (decide (k = 1) || decide (k = 5)) za zb = (Y1, Y2, ackR ac id pr qt ++ RR ++ canR id ac pr lf) by unfold plaR; rw [HRS.out, Hlf.out, HY1.out, HY2.out, HRR.out, if_neg HL.out, if_neg (by rw [HN1.out, HN2.out, HSN.out]; simp [hp])])
       clear hp
       obtain ⟨p0, p1⟩ := rcell2 kN
       obtain ⟨o0, o1, o2, o3⟩ := rrcell4 kO
       go_upto_region 8 with fail
       clear p0 p1 o0 o1 o2 o3
       refine wp_region_held_drew (S := (fun w' => w'.heap[XN]? = some (.cells #[.slice B1 N1 b1, .slice B2 N2 b2] 30 (0, 0)) ∧ w'.heap[XO]? = some (.cells #[.int .i64 id, .int .i64 ac, .int .i64 pr, .int .i64 lf] 65 (0, 0)))) (by kernel_rfl) ?hSm66 (fun zH => ?restm66)
       case hSm66 => exact ⟨kN, kO⟩
       refine tkY 0 (hy := by ((intro wS hSw; obtain ⟨t0, t1⟩ := rcell2 hSw.1; go_simp) <;> with_reducible rfl)) (h := ?_)
       refine tkV 1 ?_
       refine tkY 2 (hy := by ((intro wS hSw; obtain ⟨t0, t1, t2, t3⟩ := rrcell4 hSw.2; go_simp) <;> with_reducible rfl)) (h := ?_)
       refine rd1 3 (fun K hK => ?_)
       replace D := D.drew
       replace TI := TI.below (Below.refl _ _).drew
       replace RI := oBw RI (Below.refl _ _).drew
       go_simp
       refine (impl_orderRec 4 id ac pr lf _).mono ?_
       rintro e v3 ⟨rfl, hb3⟩
       replace kC := bk1 hb3 kC
       replace kZ := bk1 hb3 kZ
       replace kO := bk1 hb3 kO
       replace kN := bk1 hb3 kN
       replace D := D.trans (hb3.mono D.size)
       replace TI := TI.below hb3
       replace RI := oBw RI hb3
       clear hb3
       refine hK.out _ _ (⟨kN, kO⟩) (fun zH => ?_)
       clear hK K
       try simp only [Act.put, sA, sB, sC]
       refine rd1 4 (fun K hK => ?_)
       go_simp
       have hnew := World.news_of_block (show (v3.alloc (.cells #[.int .i64 0, .int .i64 4, .int .i64 0, .int .i64 ac, .int .i64 id, .int .i64 0, .int .i64 pr, .int .i64 lf] 48)).heap[v3.heap.size]? = _ from heap_alloc_new v3 (.cells #[.int .i64 0, .int .i64 4, .int .i64 0, .int .i64 ac, .int .i64 id, .int .i64 0, .int .i64 pr, .int .i64 lf] 48))
       have hba : Below v3.heap.size v3 (v3.alloc (.cells #[.int .i64 0, .int .i64 4, .int .i64 0, .int .i64 ac, .int .i64 id, .int .i64 0, .int .i64 pr, .int .i64 lf] 48)) := (Below.refl _ _).alloc (Nat.le_refl _) _
       replace kC := bk1 hba kC
       replace kZ := bk1 hba kZ
       replace kO := bk1 hba kO
       replace kN := bk1 hba kN
       replace D := D.trans (hba.mono D.size)
       replace TI := TI.below hba
       replace RI := oBw RI hba
       clear hba
       generalize v3.alloc (.cells #[.int .i64 0, .int .i64 4, .int .i64 0, .int .i64 ac, .int .i64 id, .int .i64 0, .int .i64 pr, .int .i64 lf] 48) = va at *
       generalize v3.heap.size = xn at *
       refine hK.out _ _ (⟨kN, kO⟩) (fun zH => ?_)
       clear hK K
       try simp only [Act.put, sA, sB, sC]
       refine rd1 5 (fun K hK => ?_)
       have hlow : w2.heap.size ≤ va.heap.size := Nat.le_of_lt (Nat.lt_of_le_of_lt hNX (hlT kN))
       refine sAa _ rfl _ _ 31 rfl w2.heap.size 48 i0 _ 8 64 Tryz.underlying31 hi hz0 hz1 hz2 rfl (by decide) _ _ _ rfl RI ⟨xn, 0, none⟩ 1 1 [.int .i64 0, .int .i64 4, .int .i64 0, .int .i64 ac, .int .i64 id, .int .i64 0, .int .i64 pr, .int .i64 lf] rfl rfl hnew (nums_one (canR id ac pr lf)) (by unfold maxLen; omega) (by omega) hlow ?_
       intro v' wq hown hgrow _ hat
       have nZ := rec_ne RI kZ (by decide)
       have nO := rec_ne RI kO (by decide)
       have nN := rec_ne RI kN (by decide)
       replace TI := tGr TI RI hgrow
       replace D := D.grown hgrow D.size (fun q hq => Nat.le_trans hw2 (RI.lt q hq).1)
       replace kZ := (hgrow.block _ (hlT kZ) nZ).trans kZ
       replace kO := (hgrow.block _ (hlT kO) nO).trans kO
       replace kN := (hgrow.block _ (hlT kN) nN).trans kN
       obtain ⟨E9, e9, rfl, _, _⟩ := oSl hown
       replace RI := hown
       clear hown hgrow hat nZ nO nN hnew hlow kC
       refine hK.out _ _ (⟨kN, kO⟩) (fun zH => ?_)
       clear hK K
       try simp only [Act.put, sA, sB, sC]
       refine rd1 6 (fun K hK => ?_)
       obtain ⟨z0, z1, g0, g1⟩ := cz2 kZ
       go_simp
       clear z0 z1 g0 g1
       have nO := ne_kind kO kZ (by decide)
       have HZ := Lib.hid (show ((wq.setCell ⟨w.heap.size + 1 + 1, 0, none⟩ (.slice B1 N1 b1)).setCell ⟨w.heap.size + 1 + 1, 1, none⟩ (.slice B2 N2 b2)).heap[w.heap.size + 1 + 1]? = some (.cells #[.slice B1 N1 b1, .slice B2 N2 b2] 30 (0, 0)) from zS1 (zS0 kZ))
       replace TI := tSk (i := 1) (u := .slice B2 N2 b2) (tSk (i := 0) (u := .slice B1 N1 b1) TI kZ (by decide)) (zS0 (u := .slice B1 N1 b1) kZ) (by decide)
       replace RI := oSk (i := 1) (u := .slice B2 N2 b2) (oSk (i := 0) (u := .slice B1 N1 b1) RI kZ (by decide)) (zS0 (u := .slice B1 N1 b1) kZ) (by decide)
       replace D := (D.setCell (p := ⟨w.heap.size + 1 + 1, 0, none⟩) le2 (.slice B1 N1 b1)).setCell (p := ⟨w.heap.size + 1 + 1, 1, none⟩) le2 (.slice B2 N2 b2)
       replace kO := mSo (i := 1) (u := .slice B2 N2 b2) (mSo (i := 0) (u := .slice B1 N1 b1) kO nO) nO
       replace kN := mSo (i := 1) (u := .slice B2 N2 b2) (mSo (i := 0) (u := .slice B1 N1 b1) kN hNZ) hNZ
       refine hK.out _ _ (⟨kN, kO⟩) (fun zH => ?_)
       clear hK K
       try simp only [Act.put, sA, sB, sC]
       refine tkV 7 ?_
       refine dn1 ?_
       generalize ((wq.setCell ⟨w.heap.size + 1 + 1, 0, none⟩ (.slice B1 N1 b1)).setCell ⟨w.heap.size + 1 + 1, 1, none⟩ (.slice B2 N2 b2)) = wf at *
       have HR := Lib.hid RI
       have HT := Lib.hid TI
       have HD := Lib.hid D
       clear zH kN kO kZ RI TI D
       go_wp2_with fail
       obtain ⟨z0, z1, -⟩ := cz2 HZ.out
       refine bodyPost_ret (v := .tuple #[.agg #[.slice B1 N1 b1, .slice B2 N2 b2], .slice E9 (N3 + 1 + 1) e9]) (by simp [results, Tryz.results60, go_sem, z0, z1]) rfl ⟨?_, HD.out⟩
       rw [HP.out]
       exact ⟨_, _, _, _, _, _, rfl, HT.out.mono hw2, oMn (by rw [nums_append]; exact HR.out) hw2⟩
     rw [decide_eq_true hp]
     have HP := Lib.hid (show plaR id ac pr qt md sd (decide (k = 1) || decide (k = 5)) za zb = (rest1 sd pr Y1 N1 [id, ac, pr, lf], rest2 sd pr Y2 N2 [id, ac, pr, lf], ackR ac id pr qt ++ RR) by unfold plaR; rw [HRS.out, Hlf.out, HY1.out, HY2.out, HRR.out, if_neg HL.out, if_pos (by rw [HN1.out, HN2.out, HSN.out]; simp [hp]), HN1.out, HN2.out])
     have HRO : Hid (restOk sd id ac pr lf Y1 N1 Y2 N2 = true) := Lib.hid (by have := place_ok HRG.out hlA hlB' (by rw [Hlf.out]; exact HL.out) (HPR.out (by have := HRS.out; simpa using this)) (by rw [HY1.out, HY2.out, HN1.out, HN2.out, HSN.out]; exact hp); rw [HY1.out, HY2.out, HN1.out, HN2.out, Hlf.out] at this; exact this)
     clear hp
     obtain ⟨p0, p1⟩ := rcell2 kN
     obtain ⟨o0, o1, o2, o3⟩ := rrcell4 kO
     obtain ⟨c0, c1, c2, c3, c4, c5, c6, c7⟩ := cmd_cell kC
     go_wp2_with fail
     have hcon := impl_Rested B1 N1 b1 B2 N2 b2 Y1 Y2 sd id ac pr lf w9 (Lst.of_own TI.one) (Lst.of_own TI.two) (by omega) (by omega)
     rw [HRO.out] at hcon
     refine hcon.mono ?_
     clear hcon TI
     rintro e wr ⟨⟨t1, t2, rfl, TI⟩, hbr⟩
     simp only [onN_true, onZ_true] at TI
     have hbase := Nat.le_trans hw2 (Nat.le_of_lt (Nat.lt_of_le_of_lt hNX (hlT kN)))
     obtain ⟨A9, a9, B9, b9, rfl, rfl⟩ := TI.slices
     clear p0 p1 o0 o1 o2 o3 c0 c1 c2 c3 c4 c5 c6 c7
     replace kZ := bk1 hbr kZ
     replace kN := bk1 hbr kN
     replace D := D.trans (hbr.mono D.size)
     replace RI := oBw RI hbr
     clear hbr kC kO
     replace TI := TI.mono hbase
     obtain ⟨n0, n1, m0, m1⟩ := cz2 kN
     go_upto_region 10 with fail
     clear n0 n1 m0 m1
     have nN := fun e : XN = w.heap.size + 1 + 1 => hNZ e
     replace TI := tSk (i := 1) (u := .slice B9 (restN2 sd N2) b9) (tSk (i := 0) (u := .slice A9 (restN1 sd N1) a9) TI kN (by decide)) (zS0 (u := .slice A9 (restN1 sd N1) a9) kN) (by decide)
     replace RI := oSk (i := 1) (u := .slice B9 (restN2 sd N2) b9) (oSk (i := 0) (u := .slice A9 (restN1 sd N1) a9) RI kN (by decide)) (zS0 (u := .slice A9 (restN1 sd N1) a9) kN) (by decide)
     replace D := (D.setCell (p := ⟨XN, 0, none⟩) (show w.heap.size ≤ XN by omega) (.slice A9 (restN1 sd N1) a9)).setCell (p := ⟨XN, 1, none⟩) (show w.heap.size ≤ XN by omega) (.slice B9 (restN2 sd N2) b9)
     replace kZ := mSo (i := 1) (u := .slice B9 (restN2 sd N2) b9) (mSo (i := 0) (u := .slice A9 (restN1 sd N1) a9) kZ (fun e => hNZ e.symm)) (fun e => hNZ e.symm)
     have kN' := zS1 (u := .slice B9 (restN2 sd N2) b9) (zS0 (u := .slice A9 (restN1 sd N1) a9) kN)
     clear kN
     have kN := kN'
     clear kN'
     generalize (wr.setCell ⟨XN, 0, none⟩ (.slice A9 (restN1 sd N1) a9)).setCell ⟨XN, 1, none⟩ (.slice B9 (restN2 sd N2) b9) = ws at *
     obtain ⟨p0, p1⟩ := rcell2 kN
     obtain ⟨z0, z1, g0, g1⟩ := cz2 kZ
     have HZ := Lib.hid (show ((ws.setCell ⟨w.heap.size + 1 + 1, 0, none⟩ (.slice A9 (restN1 sd N1) a9)).setCell ⟨w.heap.size + 1 + 1, 1, none⟩ (.slice B9 (restN2 sd N2) b9)).heap[w.heap.size + 1 + 1]? = some (.cells #[.slice A9 (restN1 sd N1) a9, .slice B9 (restN2 sd N2) b9] 30 (0, 0)) from zS1 (zS0 kZ))
     replace TI := tSk (i := 1) (u := .slice B9 (restN2 sd N2) b9) (tSk (i := 0) (u := .slice A9 (restN1 sd N1) a9) TI kZ (by decide)) (zS0 (u := .slice A9 (restN1 sd N1) a9) kZ) (by decide)
     replace RI := oSk (i := 1) (u := .slice B9 (restN2 sd N2) b9) (oSk (i := 0) (u := .slice A9 (restN1 sd N1) a9) RI kZ (by decide)) (zS0 (u := .slice A9 (restN1 sd N1) a9) kZ) (by decide)
     replace D := (D.setCell (p := ⟨w.heap.size + 1 + 1, 0, none⟩) le2 (.slice A9 (restN1 sd N1) a9)).setCell (p := ⟨w.heap.size + 1 + 1, 1, none⟩) le2 (.slice B9 (restN2 sd N2) b9)
     have HT := Lib.hid TI
     have HR := Lib.hid RI
     have HD := Lib.hid D
     clear kZ TI RI D
     go_wp2_with fail
     clear z0 z1
     obtain ⟨z0, z1, -⟩ := cz2 HZ.out
     refine bodyPost_ret (v := .tuple #[.agg #[.slice A9 (restN1 sd N1) a9, .slice B9 (restN2 sd N2) b9], .slice E7 (N3 + 1) e7]) (by simp [results, Tryz.results60, go_sem, z0, z1]) rfl ⟨?_, HD.out⟩
     rw [HP.out]
     exact ⟨_, _, _, _, _, _, rfl, HT.out, oMn HR.out hw2⟩
end Go.Proofs.YtgjjdnojiegidaaGreatDoor

namespace Go.Proofs.YtgjjdnojiegidaaGreatDoor
open Go.RowKit Wire
set_option maxHeartbeats 6400000
set_option maxRecDepth 100000
set_option linter.unusedSimpArgs false
set_option linter.unusedVariables false

theorem xheap_lt (w : World) (o : Obj) {k : Nat} (h : k < w.heap.size) : (w.alloc o).heap[k]? = w.heap[k]? := by
 rw [show (w.alloc o).heap = w.heap.push o from rfl, Array.getElem?_push, if_neg (by omega)]
theorem own_set_order {w : World} {base S n : Nat} {v u : Value} {zs : List Int} {id a p c : Int} (h : w.ownsRow base 65 4 v n (nums zs)) (hS : w.heap[S]? = some (.cells #[.int .i64 id, .int .i64 a, .int .i64 p, .int .i64 c] 65 (0, 0))) (hno : noId zs n id) : (w.setCell ⟨S, 3, none⟩ u).ownsRow base 65 4 v n (nums zs) := by
 refine ⟨h.1, ?_⟩
 have hl : zs.length = n * 4 := by have := h.1; rwa [nums_length] at this
 rcases h.2 with h0 | ⟨g, cap, cur, e1, hb, hg, hn, hc, hz, ht⟩
 · exact .inl h0
 · by_cases hgS : g = S
   · subst hgS
     rw [hS] at hg
     injection hg with hg
     injection hg with hg
     subst hg
     have hcap : cap = 1 := by simp at hz; omega
     subst hcap
     rcases Nat.eq_zero_or_pos n with h0 | h0
     · subst h0
       refine .inr ⟨g, 1, _, e1, hb, mset4_3 (u := u) hS, hn, hc, rfl, ?_⟩
       have : zs = [] := List.eq_nil_of_length_eq_zero (by omega)
       subst this
       rfl
     · obtain rfl : n = 1 := by omega
       have h1 : (nums zs)[0]? = some (.int .i64 id) := by rw [← ht]; rfl
       rw [nums_get (by omega)] at h1
       injection h1 with h1
       injection h1 with _ h1
       exact absurd h1 (hno 0 (by omega))
   · exact .inr ⟨g, cap, cur, e1, hb, mSo hg hgS, hn, hc, hz, ht⟩
theorem two_set_order {w : World} {base S n1 n2 : Nat} {r1 r2 u : Value} {z1 z2 : List Int} {id a p c : Int} (h : TwoRows w base r1 n1 z1 r2 n2 z2) (hS : w.heap[S]? = some (.cells #[.int .i64 id, .int .i64 a, .int .i64 p, .int .i64 c] 65 (0, 0))) (h1 : noId z1 n1 id) (h2 : noId z2 n2 id) : TwoRows (w.setCell ⟨S, 3, none⟩ u) base r1 n1 z1 r2 n2 z2 :=
 ⟨own_set_order h.one hS h1, own_set_order h.two hS h2, h.apart⟩
theorem rg_noId2 {za zb : List Int} {n m : Nat} {sd id ac pr qt md : Int} (h : rgB za n zb m sd id ac pr qt md = true) (ha : za.length = n * 4) (hb : zb.length = m * 4) :
 noId (mZ1 true sd id ac pr qt md za zb) ((mZ1 true sd id ac pr qt md za zb).length / 4) id ∧ noId (mZ2 true sd id ac pr qt md za zb) ((mZ2 true sd id ac pr qt md za zb).length / 4) id := by
 have R := rg_oth h ha hb
 obtain ⟨-, hso, -, -, -, -, -, -, -, hq, -⟩ := rg_parts h
 obtain ⟨M, g, e1, e2, e3⟩ := mt_sub (side := sd) (id := id) (acct := ac) (pr := pr) (mode := md) (othN sd n m) (R := []) (q := qt) R.len R.qty (by omega)
 obtain ⟨no1, no2⟩ := rg_noId h
 have hno := R.no
 have hT : (mtA sd id ac pr qt md za zb).1.length = M * 4 := e1
 have hTn : noId (mtA sd id ac pr qt md za zb).1 M id := fun k hk => by
  have := e3.val k hk 0 (by omega)
  simp only [Nat.add_zero] at this
  intro c
  exact hno (g k) (e3.lt k hk) (this.symm.trans c)
 have ea : za.length / 4 = n := by omega
 have eb : zb.length / 4 = m := by omega
 have eT : (mtA sd id ac pr qt md za zb).1.length / 4 = M := by omega
 unfold mZ1 mZ2
 rw [if_pos rfl, if_pos rfl]
 by_cases hs : sd = 1
 · rw [if_pos hs, if_pos hs, ea, eT]
   exact ⟨no1, hTn⟩
 · rw [if_neg hs, if_neg hs, eb, eT]
   exact ⟨hTn, no2⟩
theorem spec_l4Ack (k sy ac id sd pr qt md : Int) (w : World) :
 Calls Tryz.prog 65 #[.agg #[.int .i64 k, .int .i64 sy, .int .i64 ac, .int .i64 id, .int .i64 sd, .int .i64 pr, .int .i64 qt, .int .i64 md]] w fun e w' => e = .returned (.agg #[.int .i64 0, .int .i64 1, .int .i64 0, .int .i64 ac, .int .i64 id, .int .i64 0, .int .i64 pr, .int .i64 qt]) ∧ Below w.heap.size w w' := by
 go_enter Tryz.func65, Tryz.ntmps65
 go_wp2_with fail
 exact bodyPost_ret (v := .agg #[.int .i64 0, .int .i64 1, .int .i64 0, .int .i64 ac, .int .i64 id, .int .i64 0, .int .i64 pr, .int .i64 qt]) (by simp [results, Tryz.results65, go_sem]) rfl ⟨rfl, by go_grown⟩
theorem spec_l4Reject (k sy ac id sd pr qt md code : Int) (w : World) :
 Calls Tryz.prog 19 #[.agg #[.int .i64 k, .int .i64 sy, .int .i64 ac, .int .i64 id, .int .i64 sd, .int .i64 pr, .int .i64 qt, .int .i64 md], .int .i64 code] w fun e w' => (∃ v, e = .returned v ∧ w'.ownsRow w.heap.size 48 8 v 1 (nums [0, 2, 0, ac, id, code, 0, 0])) ∧ Below w.heap.size w w' := by
 go_enter Tryz.func19, Tryz.ntmps19
 have D : Below w.heap.size w ((w.alloc (.cells #[.int .i64 k, .int .i64 sy, .int .i64 ac, .int .i64 id, .int .i64 sd, .int .i64 pr, .int .i64 qt, .int .i64 md] 35)).alloc (.cells #[.int .i64 0, .int .i64 2, .int .i64 0, .int .i64 ac, .int .i64 id, .int .i64 code, .int .i64 0, .int .i64 0] 48)) := ((Below.refl _ _).alloc (Nat.le_refl _) _).alloc (by simp) _
 have HD := Lib.hid D
 clear D
 go_wp2_with fail
 go_ret
 exact ⟨⟨_, rfl, rfl, .inr ⟨w.heap.size + 1, 1, #[.int .i64 0, .int .i64 2, .int .i64 0, .int .i64 ac, .int .i64 id, .int .i64 code, .int .i64 0, .int .i64 0], by simp, by omega, heap_alloc_new (w.alloc (.cells #[.int .i64 k, .int .i64 sy, .int .i64 ac, .int .i64 id, .int .i64 sd, .int .i64 pr, .int .i64 qt, .int .i64 md] 35)) (.cells #[.int .i64 0, .int .i64 2, .int .i64 0, .int .i64 ac, .int .i64 id, .int .i64 code, .int .i64 0, .int .i64 0] 48) |> fun h => by simpa using h, Nat.le_refl _, by unfold maxLen; omega, rfl, rfl⟩⟩, HD.out⟩
theorem spec_l4GoneX (i a p c : Int) (w : World) :
 Calls Tryz.prog 40 #[.agg #[.int .i64 i, .int .i64 a, .int .i64 p, .int .i64 c]] w fun e w' => e = .returned (.agg #[.int .i64 0, .int .i64 4, .int .i64 0, .int .i64 a, .int .i64 i, .int .i64 0, .int .i64 p, .int .i64 c]) ∧ Below w.heap.size w w' := by
 go_enter Tryz.func40, Tryz.ntmps40
 go_wp2_with fail
 exact bodyPost_ret (v := .agg #[.int .i64 0, .int .i64 4, .int .i64 0, .int .i64 a, .int .i64 i, .int .i64 0, .int .i64 p, .int .i64 c]) (by simp [results, Tryz.results40, go_sem]) rfl ⟨rfl, by go_grown⟩
theorem oN8 {w : World} {base sz n c : Nat} {e : TypeId} {A : Option Addr} {xs : List Value} (h : w.ownsRow base e sz (.slice A n c) n xs) : A = none → n = 0 ∧ c = 0 := fun hA => by
 subst hA
 rcases h.2 with ⟨e1, h0⟩ | ⟨g, cap, cur, e1, -⟩
 · injection e1 with _ _ e3
   exact ⟨h0, e3⟩
 · cases e1
theorem own_cap {w : World} {base sz n c : Nat} {e : TypeId} {A : Option Addr} {xs : List Value} (h : w.ownsRow base e sz (.slice A n c) n xs) : n ≤ c := by
 obtain ⟨A', c', e', h1, -⟩ := oSl h
 injection e' with _ _ e3
 omega
theorem spec_l2RestB (O1 : Option Addr) (n c : Nat) (O2 : Option Addr) (m d : Nat) (za zb : List Int) (sd oi oa op oq : Int) (w : World) (hs : sd = 1 ∨ sd = 2) (ha : Lst w w.heap.size 4 O1 n za) (hb : Lst w w.heap.size 4 O2 m zb) (hn : n ≤ 1048576) (hm : m ≤ 1048576) (hO1 : O1 = none → n = 0 ∧ c = 0) (hO2 : O2 = none → m = 0 ∧ d = 0) (hnc : n ≤ c) (hmd : m ≤ d) :
 Calls Tryz.prog 71 #[.agg #[.slice O1 n c, .slice O2 m d], .int .i64 sd, .agg #[.int .i64 oi, .int .i64 oa, .int .i64 op, .int .i64 oq]] w fun e w' => (∃ v1 v2, e = .returned (.agg #[v1, v2]) ∧ TwoRows w' w.heap.size v1 (restN1 sd n) (rest1 sd op za n [oi, oa, op, oq]) v2 (restN2 sd m) (rest2 sd op zb m [oi, oa, op, oq])) ∧ Below w.heap.size w w' := by
 rcases hs with rfl | rfl
 · exact (spec_l2Rest1 O1 n c O2 m d za zb oi oa op oq w ha hb hn hm hO1 hO2 hnc hmd).mono fun e w' ⟨⟨v1, v2, he, hT, _⟩, hB⟩ => ⟨⟨v1, v2, he, hT⟩, hB⟩
 · exact (spec_l2Rest2 O1 n c O2 m d za zb oi oa op oq w ha hb hn hm hO1 hO2 hnc hmd).mono fun e w' ⟨⟨v1, v2, he, hT, _⟩, hB⟩ => ⟨⟨v1, v2, he, hT⟩, hB⟩
theorem spec_l4Place (base : Nat) (A : Option Addr) (n c : Nat) (B : Option Addr) (m d : Nat) (za zb : List Int) (k sy ac id s0 pr qt md sd : Int) (rs : Bool) (w : World) (hT : TwoRows w base (.slice A n c) n za (.slice B m d) m zb) (hbase : base ≤ w.heap.size) (HRG : Hid (rgB za n zb m sd id ac pr qt md = true)) :
 Calls Tryz.prog 45 #[.agg #[.slice A n c, .slice B m d], .agg #[.int .i64 k, .int .i64 sy, .int .i64 ac, .int .i64 id, .int .i64 s0, .int .i64 pr, .int .i64 qt, .int .i64 md], .int .i64 sd, .bool rs] w fun e w' => EAns w' base (plaR id ac pr qt md sd rs za zb) e ∧ Below w.heap.size w w' := by
 have hrp := rg_parts HRG.out
 obtain ⟨-, hso, -, -, -, hn20, hm20, hq1, hq2, hqa, hqb⟩ := hrp
 have hs : sd = 1 ∨ sd = 2 := by rcases side_cases sd with ⟨h, -⟩ | ⟨h, -⟩ | ⟨-, -, h⟩; exact .inl h; exact .inr h; rw [h] at hso; cases hso
 have hlA : za.length = n * 4 := by have := hT.one.1; rwa [nums_length] at this
 have hlB' : zb.length = m * 4 := by have := hT.two.1; rwa [nums_length] at this
 have hLN := m_len2 hlA hlB' HRG.out hn20 hm20
 have HNO := Lib.hid (rg_noId2 HRG.out hlA hlB')
 obtain ⟨Y1, hsY1⟩ : ∃ x, mZ1 true sd id ac pr qt md za zb = x := ⟨_, rfl⟩
 have HY1 := Lib.hid hsY1
 obtain ⟨Y2, hsY2⟩ : ∃ x, mZ2 true sd id ac pr qt md za zb = x := ⟨_, rfl⟩
 have HY2 := Lib.hid hsY2
 obtain ⟨RR, hsRR⟩ : ∃ x, mRR true sd id ac pr qt md za zb = x := ⟨_, rfl⟩
 have HRR := Lib.hid hsRR
 obtain ⟨lf, hslf⟩ : ∃ x, mLL true sd id ac pr qt md za zb = x := ⟨_, rfl⟩
 have Hlf := Lib.hid hslf
 rw [hsY1, hsY2, hsRR] at hLN
 have HLN := Lib.hid hLN
 have HSD := Lib.hid hs
 have HQ1 := Lib.hid hq1
 have HQ2 := Lib.hid hq2
 have hcon0 := fun (wx : World) (h1 : TwoRows wx base (.slice A n c) n za (.slice B m d) m zb) (h2 : base ≤ wx.heap.size) => spec_l3Match base A n c B m d za zb sd id ac pr qt md wx hs h1 h2 hn20 hm20 hq1 hq2 (by omega) (by omega)
 unfold LAns at hcon0
 rw [hsY1, hsY2, hsRR, hslf] at hcon0
 have HCON := Lib.hid hcon0
 clear hcon0 hsY1 hsY2 hsRR hslf hLN hs hq1 hq2
 obtain ⟨kB, kC, kZ⟩ := three_blocks w (.cells #[.slice A n c, .slice B m d] 30) (.cells #[.int .i64 k, .int .i64 sy, .int .i64 ac, .int .i64 id, .int .i64 s0, .int .i64 pr, .int .i64 qt, .int .i64 md] 35) (.cells #[.slice none 0 0, .slice none 0 0] 30)
 have D : Below w.heap.size w (((w.alloc (.cells #[.slice A n c, .slice B m d] 30)).alloc (.cells #[.int .i64 k, .int .i64 sy, .int .i64 ac, .int .i64 id, .int .i64 s0, .int .i64 pr, .int .i64 qt, .int .i64 md] 35)).alloc (.cells #[.slice none 0 0, .slice none 0 0] 30)) := (((Below.refl _ _).alloc (Nat.le_refl _) _).alloc (by simp) _).alloc (by simp; omega) _
 replace hT := hT.below D
 go_enter Tryz.func45, Tryz.ntmps45
 go_upto_region 1 with fail
 generalize (((w.alloc (.cells #[.slice A n c, .slice B m d] 30)).alloc (.cells #[.int .i64 k, .int .i64 sy, .int .i64 ac, .int .i64 id, .int .i64 s0, .int .i64 pr, .int .i64 qt, .int .i64 md] 35)).alloc (.cells #[.slice none 0 0, .slice none 0 0] 30)) = w0 at *
 obtain ⟨c0, c1, c2, c3, c4, c5, c6, c7⟩ := cmd_cell kC
 have hXO : w.heap.size + 1 + 1 < w0.heap.size := hlT kZ
 go_upto_region 2 with fail
 clear c0 c1 c2 c3 c4 c5 c6 c7
 have kO := heap_alloc_new w0 (.cells #[.int .i64 id, .int .i64 ac, .int .i64 pr, .int .i64 qt] 65)
 have hba : Below w0.heap.size w0 (w0.alloc (.cells #[.int .i64 id, .int .i64 ac, .int .i64 pr, .int .i64 qt] 65)) := (Below.refl _ _).alloc (Nat.le_refl _) _
 replace hT := hT.below hba
 replace kB := bk1 hba kB
 replace kC := bk1 hba kC
 replace kZ := bk1 hba kZ
 replace D := D.trans (hba.mono D.size)
 clear hba
 generalize w0.alloc (.cells #[.int .i64 id, .int .i64 ac, .int .i64 pr, .int .i64 qt] 65) = w2 at *
 generalize w0.heap.size = XO at *
 obtain ⟨c0, c1, c2, c3, c4, c5, c6, c7⟩ := cmd_cell kC
 obtain ⟨p0, p1⟩ := rcell2 kB
 obtain ⟨o0, o1, o2, o3⟩ := rrcell4 kO
 have hl2 := hlT kO
 have hw2 := D.size
 have lC := hlT kC
 have lZ := hlT kZ
 go_wp2_with fail
 refine (HCON.out w2 hT (Nat.le_trans hbase hw2)).mono ?_
 clear HCON
 rintro e w3 ⟨⟨t1, t2, t3, N1, N2, N3, rfl, TM, RM, hN3x⟩, hb3⟩
 obtain ⟨B1, b1, B2, b2, rfl, rfl⟩ := TM.slices
 obtain ⟨E1, e1, rfl, _, _⟩ := oSl RM
 clear c0 c1 c2 c3 c4 c5 c6 c7 p0 p1 o0 o1 o2 o3 hT hN3x
 obtain ⟨HN1, HN2, HN3⟩ : Hid (Y1.length / 4 = N1) ∧ Hid (Y2.length / 4 = N2) ∧ Hid (RR.length / 8 = N3) := by have h1 := TM.one.1; have h2 := TM.two.1; have h3 := RM.1; rw [nums_length] at h1 h2 h3; exact ⟨Lib.hid (by omega), Lib.hid (by omega), Lib.hid (by omega)⟩
 obtain ⟨hN1, hN2, hN3⟩ : N1 ≤ 20 ∧ N2 ≤ 20 ∧ N3 ≤ 41 := by have h := HLN.out; rw [HN1.out, HN2.out, HN3.out] at h; exact h
 replace kB := bk1 hb3 kB
 replace kC := bk1 hb3 kC
 replace kZ := bk1 hb3 kZ
 replace D := D.trans (hb3.mono D.size)
 replace kO := bk1 hb3 kO
 have hQ0 := hb3.size
 clear hb3
 go_upto_region 3 with fail
 have kN := heap_alloc_new w3 (.cells #[.slice B1 N1 b1, .slice B2 N2 b2] 30)
 have hba : Below w3.heap.size w3 (w3.alloc (.cells #[.slice B1 N1 b1, .slice B2 N2 b2] 30)) := (Below.refl _ _).alloc (Nat.le_refl _) _
 replace kB := bk1 hba kB
 replace kC := bk1 hba kC
 replace kZ := bk1 hba kZ
 replace D := D.trans (hba.mono D.size)
 replace kO := bk1 hba kO
 replace TM := TM.below hba
 replace RM := oBw RM hba
 clear hba
 have hNX : w2.heap.size ≤ w3.heap.size := hQ0
 generalize w3.alloc (.cells #[.slice B1 N1 b1, .slice B2 N2 b2] 30) = w4 at *
 generalize w3.heap.size = XN at *
 obtain ⟨c0, c1, c2, c3, c4, c5, c6, c7⟩ := cmd_cell kC
 go_wp2_with fail
 refine (spec_l4Ack k sy ac id s0 pr qt md w4).mono ?_
 rintro e w5 ⟨rfl, hb5⟩
 clear c0 c1 c2 c3 c4 c5 c6 c7
 replace kB := bk1 hb5 kB
 replace kC := bk1 hb5 kC
 replace kZ := bk1 hb5 kZ
 replace D := D.trans (hb5.mono D.size)
 replace kO := bk1 hb5 kO
 replace TM := TM.below hb5
 replace RM := oBw RM hb5
 replace kN := bk1 hb5 kN
 clear hb5
 obtain ⟨i0, hi, hz0, hz1, hz2⟩ := info_parts rec_info
 have lC5 := hlT kC
 have lZ5 := hlT kZ
 have lO5 := hlT kO
 have lN5 := hlT kN
 have hw5 := D.size
 have ownA : (w5.alloc (.cells #[.int .i64 0, .int .i64 1, .int .i64 0, .int .i64 ac, .int .i64 id, .int .i64 0, .int .i64 pr, .int .i64 qt] 48)).ownsRow w5.heap.size 48 8 (.slice (some ⟨w5.heap.size, 0, none⟩) 1 1) 1 (nums (ackR ac id pr qt)) := ⟨rfl, .inr ⟨w5.heap.size, 1, #[.int .i64 0, .int .i64 1, .int .i64 0, .int .i64 ac, .int .i64 id, .int .i64 0, .int .i64 pr, .int .i64 qt], rfl, Nat.le_refl _, heap_alloc_new w5 (.cells #[.int .i64 0, .int .i64 1, .int .i64 0, .int .i64 ac, .int .i64 id, .int .i64 0, .int .i64 pr, .int .i64 qt] 48), Nat.le_refl _, by unfold maxLen; omega, rfl, rfl⟩⟩
 have hba : Below w5.heap.size w5 (w5.alloc (.cells #[.int .i64 0, .int .i64 1, .int .i64 0, .int .i64 ac, .int .i64 id, .int .i64 0, .int .i64 pr, .int .i64 qt] 48)) := (Below.refl _ _).alloc (Nat.le_refl _) _
 replace kB := bk1 hba kB
 replace kC := bk1 hba kC
 replace kZ := bk1 hba kZ
 replace D := D.trans (hba.mono D.size)
 replace kO := bk1 hba kO
 replace TM := TM.below hba
 replace RM := oBw RM hba
 replace kN := bk1 hba kN
 clear hba
 have hl5 : w5.heap.size ≤ (w5.alloc (.cells #[.int .i64 0, .int .i64 1, .int .i64 0, .int .i64 ac, .int .i64 id, .int .i64 0, .int .i64 pr, .int .i64 qt] 48)).heap.size := by simp
 have hE1 := oN8 RM
 have hE2 := Lst.newsN (Lst.of_own RM)
 have hE3 : (nums RR).length = N3 * 8 := RM.1
 go_wp2_with (at_builtin; refine wAn _ rfl _ _ 31 rfl w5.heap.size 48 i0 _ 8 64 Tryz.underlying31 hi hz0 hz1 hz2 rfl (by decide) _ _ _ rfl ownA E1 N3 e1 hE1 (nums RR) rfl hE3 hE2 (nums_one RR) (by unfold maxLen; omega) (by omega) hl5 ?_)
 intro v7 w7 RI hg7
 clear hl5 hE1 hE2 hE3
 have nX : ∀ q, q < w5.heap.size → some q ≠ some w5.heap.size := fun q hq e => by injection e with e; omega
 have TI : TwoRows w7 base (.slice B1 N1 b1) N1 Y1 (.slice B2 N2 b2) N2 Y2 := tGr TM ownA hg7
 replace kC := (hg7.block _ (hlT kC) (nX _ lC5)).trans kC
 replace kZ := (hg7.block _ (hlT kZ) (nX _ lZ5)).trans kZ
 replace kO := (hg7.block _ (hlT kO) (nX _ lO5)).trans kO
 replace kN := (hg7.block _ (hlT kN) (nX _ lN5)).trans kN
 replace D := D.grown hg7 D.size (fun q hq => by have e : some w5.heap.size = some q := hq; injection e with e; omega)
 obtain ⟨E7, e7, rfl, _, _⟩ := oSl RI
 rw [← nums_append] at RI
 have hb5x : base ≤ w5.heap.size := Nat.le_trans hbase hw5
 have hw7 : w5.heap.size ≤ w7.heap.size := Nat.le_trans (by simp) hg7.size
 clear hg7 TM RM ownA kB nX
 obtain ⟨o0, o1, o2, o3⟩ := rrcell4 kO
 have of3 := mfree kO 3
 have hno : noId Y1 N1 id ∧ noId Y2 N2 id := by have h := HNO.out; rw [HY1.out, HY2.out, HN1.out, HN2.out] at h; exact h
 go_upto_region 6 with fail
 clear o0 o1 o2 o3 of3
 have nC := ne_kind kC kO (by decide)
 have nN := ne_kind kN kO (by decide)
 have nZ := ne_kind kZ kO (by decide)
 replace RI := oSk (i := 3) (u := .int .i64 lf) RI kO (by decide)
 replace TI := two_set_order (u := .int .i64 lf) TI kO hno.1 hno.2
 replace D := D.setCell (p := ⟨XO, 3, none⟩) (show w.heap.size ≤ XO by omega) (.int .i64 lf)
 replace kC := mSo (i := 3) (u := .int .i64 lf) kC nC
 replace kN := mSo (i := 3) (u := .int .i64 lf) kN nN
 replace kZ := mSo (i := 3) (u := .int .i64 lf) kZ nZ
 replace kO := mset4_3 (u := .int .i64 lf) kO
 clear nC nN nZ hno
 have hw8 : w5.heap.size ≤ (w7.setCell ⟨XO, 3, none⟩ (.int .i64 lf)).heap.size := by simpa [World.setCell] using hw7
 clear hw7
 generalize w7.setCell ⟨XO, 3, none⟩ (.int .i64 lf) = w8 at *
 have hNZ : XN ≠ w.heap.size + 1 + 1 := by omega
 by_cases hl : lf = 0
 · have tl : (lf == 0) = true := by simp [hl]
   have HP := Lib.hid (show plaR id ac pr qt md sd rs za zb = (Y1, Y2, ackR ac id pr qt ++ RR) by unfold plaR; rw [Hlf.out, HY1.out, HY2.out, HRR.out, if_pos hl])
   clear hl
   obtain ⟨p0, p1⟩ := rcell2 kN
   obtain ⟨z0, z1, g0, g1⟩ := cz2 kZ
   have HZ := Lib.hid (show ((w8.setCell ⟨w.heap.size + 1 + 1, 0, none⟩ (.slice B1 N1 b1)).setCell ⟨w.heap.size + 1 + 1, 1, none⟩ (.slice B2 N2 b2)).heap[w.heap.size + 1 + 1]? = some (.cells #[.slice B1 N1 b1, .slice B2 N2 b2] 30 (0, 0)) from zS1 (zS0 kZ))
   have HT := Lib.hid (tSk (i := 1) (u := .slice B2 N2 b2) (tSk (i := 0) (u := .slice B1 N1 b1) TI kZ (by decide)) (zS0 (u := .slice B1 N1 b1) kZ) (by decide))
   have HR := Lib.hid (oSk (i := 1) (u := .slice B2 N2 b2) (oSk (i := 0) (u := .slice B1 N1 b1) RI kZ (by decide)) (zS0 (u := .slice B1 N1 b1) kZ) (by decide))
   have HD := Lib.hid ((D.setCell (p := ⟨w.heap.size + 1 + 1, 0, none⟩) le2 (.slice B1 N1 b1)).setCell (p := ⟨w.heap.size + 1 + 1, 1, none⟩) le2 (.slice B2 N2 b2))
   clear kZ TI RI D
   go_wp2_with fail
   clear z0 z1
   obtain ⟨z0, z1, -⟩ := cz2 HZ.out
   refine bodyPost_ret (v := .tuple #[.agg #[.slice B1 N1 b1, .slice B2 N2 b2], .slice E7 (1 + N3) e7]) (by simp [results, Tryz.results45, go_sem, z0, z1]) rfl ⟨?_, HD.out⟩
   rw [HP.out]
   exact ⟨_, _, _, _, _, _, rfl, HT.out, oMn HR.out hb5x⟩
 have tl : (lf == 0) = false := by simp [hl]
 have HL := Lib.hid hl
 clear hl
 cases rs
 · have HP := Lib.hid (show plaR id ac pr qt md sd false za zb = (Y1, Y2, ackR ac id pr qt ++ RR ++ canR id ac pr lf) by unfold plaR; rw [Hlf.out, HY1.out, HY2.out, HRR.out, if_neg HL.out, if_neg (by simp)])
   obtain ⟨o0, o1, o2, o3⟩ := rrcell4 kO
   go_wp2_with fail
   refine (spec_l4GoneX id ac pr lf w8).mono ?_
   rintro e wg ⟨rfl, hbg⟩
   have hwg := Nat.le_trans hw8 hbg.size
   clear o0 o1 o2 o3
   replace kZ := bk1 hbg kZ
   replace kO := bk1 hbg kO
   replace kN := bk1 hbg kN
   replace D := D.trans (hbg.mono D.size)
   replace TI := TI.below hbg
   replace RI := oBw RI hbg
   clear hbg
   have nZ := rec_ne (RI.alloc (.cells #[.int .i64 0, .int .i64 4, .int .i64 0, .int .i64 ac, .int .i64 id, .int .i64 0, .int .i64 pr, .int .i64 lf] 48)) ((xheap_lt wg _ (hlT kZ)).trans kZ) (by decide)
   have nN := rec_ne (RI.alloc (.cells #[.int .i64 0, .int .i64 4, .int .i64 0, .int .i64 ac, .int .i64 id, .int .i64 0, .int .i64 pr, .int .i64 lf] 48)) ((xheap_lt wg _ (hlT kN)).trans kN) (by decide)
   have hbs := D.size
   have hov := RI.lt
   have hlw : w5.heap.size ≤ (wg.alloc (.cells #[.int .i64 0, .int .i64 4, .int .i64 0, .int .i64 ac, .int .i64 id, .int .i64 0, .int .i64 pr, .int .i64 lf] 48)).heap.size := by simp; omega
   go_wp2_with (at_builtin; refine wpList_append_own_at _ rfl _ _ 31 rfl w5.heap.size 48 i0 _ 8 64 Tryz.underlying31 hi hz0 hz1 hz2 rfl (by decide) _ _ _ rfl (RI.alloc _) ⟨wg.heap.size, 0, none⟩ 1 1 [.int .i64 0, .int .i64 4, .int .i64 0, .int .i64 ac, .int .i64 id, .int .i64 0, .int .i64 pr, .int .i64 lf] rfl rfl (World.news_of_block (heap_alloc_new wg _)) (nums_one (canR id ac pr lf)) (by unfold maxLen; omega) (by omega) hlw ?_)
   intro v9 wq RQ hgq _ _
   replace TI := tGr (TI.alloc (.cells #[.int .i64 0, .int .i64 4, .int .i64 0, .int .i64 ac, .int .i64 id, .int .i64 0, .int .i64 pr, .int .i64 lf] 48)) (RI.alloc (.cells #[.int .i64 0, .int .i64 4, .int .i64 0, .int .i64 ac, .int .i64 id, .int .i64 0, .int .i64 pr, .int .i64 lf] 48)) hgq
   replace D := (D.alloc D.size (.cells #[.int .i64 0, .int .i64 4, .int .i64 0, .int .i64 ac, .int .i64 id, .int .i64 0, .int .i64 pr, .int .i64 lf] 48)).grown hgq (by simp; omega) (fun q hq => by have := (hov q hq).1; omega)
   replace kZ := (hgq.block _ (by have := hlT kZ; simp; omega) nZ).trans ((xheap_lt wg _ (hlT kZ)).trans kZ)
   replace kN := (hgq.block _ (by have := hlT kN; simp; omega) nN).trans ((xheap_lt wg _ (hlT kN)).trans kN)
   clear RI kO nZ nN hov hbs hlw hgq
   obtain ⟨E9, e9, rfl, _, _⟩ := oSl RQ
   have RI := RQ
   clear RQ
   obtain ⟨p0, p1⟩ := rcell2 kN
   obtain ⟨z0, z1, g0, g1⟩ := cz2 kZ
   have HZ := Lib.hid (show ((wq.setCell ⟨w.heap.size + 1 + 1, 0, none⟩ (.slice B1 N1 b1)).setCell ⟨w.heap.size + 1 + 1, 1, none⟩ (.slice B2 N2 b2)).heap[w.heap.size + 1 + 1]? = some (.cells #[.slice B1 N1 b1, .slice B2 N2 b2] 30 (0, 0)) from zS1 (zS0 kZ))
   have HT := Lib.hid (tSk (i := 1) (u := .slice B2 N2 b2) (tSk (i := 0) (u := .slice B1 N1 b1) TI kZ (by decide)) (zS0 (u := .slice B1 N1 b1) kZ) (by decide))
   have HR := Lib.hid (oSk (i := 1) (u := .slice B2 N2 b2) (oSk (i := 0) (u := .slice B1 N1 b1) RI kZ (by decide)) (zS0 (u := .slice B1 N1 b1) kZ) (by decide))
   have HD := Lib.hid ((D.setCell (p := ⟨w.heap.size + 1 + 1, 0, none⟩) le2 (.slice B1 N1 b1)).setCell (p := ⟨w.heap.size + 1 + 1, 1, none⟩) le2 (.slice B2 N2 b2))
   clear kZ TI RI D
   go_wp2_with fail
   clear z0 z1
   obtain ⟨z0, z1, -⟩ := cz2 HZ.out
   refine bodyPost_ret (v := .tuple #[.agg #[.slice B1 N1 b1, .slice B2 N2 b2], .slice E9 (1 + N3 + 1) e9]) (by simp [results, Tryz.results45, go_sem, z0, z1]) rfl ⟨?_, HD.out⟩
   rw [HP.out]
   exact ⟨_, _, _, _, _, _, rfl, HT.out, oMn (by rw [nums_append]; exact HR.out) hb5x⟩
 have HSN := Lib.hid (side_room (N1 := N1) (N2 := N2) (rg_parts HRG.out).2.1)
 obtain ⟨p0, p1⟩ := rcell2 kN
 go_wp2_with fail
 refine (spec_l2ListO B1 N1 b1 B2 N2 b2 sd w8).mono ?_
 rintro e w9 ⟨rfl, hb9⟩
 obtain ⟨LA, lc, hLL⟩ : ∃ LA lc, (if sd = 1 then Value.slice B1 N1 b1 else .slice B2 N2 b2) = .slice LA (sideN true sd N1 N2) lc := by rw [← HSN.out]; split <;> exact ⟨_, _, rfl⟩
 rw [hLL]
 clear hLL p0 p1
 replace kZ := bk1 hb9 kZ
 replace kO := bk1 hb9 kO
 replace kN := bk1 hb9 kN
 replace D := D.trans (hb9.mono D.size)
 replace TI := TI.below hb9
 replace RI := oBw RI hb9
 replace hw8 := Nat.le_trans hw8 hb9.size
 clear hb9
 by_cases hp : sideN true sd N1 N2 < 20
 rotate_left
 · have hpc : decide ((sideN true sd N1 N2 : Int) < 20) = false := decide_eq_false (by omega)
   have HP := Lib.hid (show plaR id ac pr qt md sd true za zb = (Y1, Y2, ackR ac id pr qt ++ RR ++ canR id ac pr lf) by unfold plaR; rw [Hlf.out, HY1.out, HY2.out, HRR.out, if_neg HL.out, if_neg (by rw [HN1.out, HN2.out, HSN.out]; simp [hp])])
   obtain ⟨o0, o1, o2, o3⟩ := rrcell4 kO
   go_wp2_with fail
   refine (spec_l4GoneX id ac pr lf w9).mono ?_
   rintro e wg ⟨rfl, hbg⟩
   have hwg := Nat.le_trans hw8 hbg.size
   clear o0 o1 o2 o3
   replace kZ := bk1 hbg kZ
   replace kO := bk1 hbg kO
   replace kN := bk1 hbg kN
   replace D := D.trans (hbg.mono D.size)
   replace TI := TI.below hbg
   replace RI := oBw RI hbg
   clear hbg
   have nZ := rec_ne (RI.alloc (.cells #[.int .i64 0, .int .i64 4, .int .i64 0, .int .i64 ac, .int .i64 id, .int .i64 0, .int .i64 pr, .int .i64 lf] 48)) ((xheap_lt wg _ (hlT kZ)).trans kZ) (by decide)
   have nN := rec_ne (RI.alloc (.cells #[.int .i64 0, .int .i64 4, .int .i64 0, .int .i64 ac, .int .i64 id, .int .i64 0, .int .i64 pr, .int .i64 lf] 48)) ((xheap_lt wg _ (hlT kN)).trans kN) (by decide)
   have hbs := D.size
   have hov := RI.lt
   have hlw : w5.heap.size ≤ (wg.alloc (.cells #[.int .i64 0, .int .i64 4, .int .i64 0, .int .i64 ac, .int .i64 id, .int .i64 0, .int .i64 pr, .int .i64 lf] 48)).heap.size := by simp; omega
   go_wp2_with (at_builtin; refine wpList_append_own_at _ rfl _ _ 31 rfl w5.heap.size 48 i0 _ 8 64 Tryz.underlying31 hi hz0 hz1 hz2 rfl (by decide) _ _ _ rfl (RI.alloc _) ⟨wg.heap.size, 0, none⟩ 1 1 [.int .i64 0, .int .i64 4, .int .i64 0, .int .i64 ac, .int .i64 id, .int .i64 0, .int .i64 pr, .int .i64 lf] rfl rfl (World.news_of_block (heap_alloc_new wg _)) (nums_one (canR id ac pr lf)) (by unfold maxLen; omega) (by omega) hlw ?_)
   intro v9 wq RQ hgq _ _
   replace TI := tGr (TI.alloc (.cells #[.int .i64 0, .int .i64 4, .int .i64 0, .int .i64 ac, .int .i64 id, .int .i64 0, .int .i64 pr, .int .i64 lf] 48)) (RI.alloc (.cells #[.int .i64 0, .int .i64 4, .int .i64 0, .int .i64 ac, .int .i64 id, .int .i64 0, .int .i64 pr, .int .i64 lf] 48)) hgq
   replace D := (D.alloc D.size (.cells #[.int .i64 0, .int .i64 4, .int .i64 0, .int .i64 ac, .int .i64 id, .int .i64 0, .int .i64 pr, .int .i64 lf] 48)).grown hgq (by simp; omega) (fun q hq => by have := (hov q hq).1; omega)
   replace kZ := (hgq.block _ (by have := hlT kZ; simp; omega) nZ).trans ((xheap_lt wg _ (hlT kZ)).trans kZ)
   replace kN := (hgq.block _ (by have := hlT kN; simp; omega) nN).trans ((xheap_lt wg _ (hlT kN)).trans kN)
   clear RI kO nZ nN hov hbs hlw hgq
   obtain ⟨E9, e9, rfl, _, _⟩ := oSl RQ
   have RI := RQ
   clear RQ
   obtain ⟨p0, p1⟩ := rcell2 kN
   obtain ⟨z0, z1, g0, g1⟩ := cz2 kZ
   have HZ := Lib.hid (show ((wq.setCell ⟨w.heap.size + 1 + 1, 0, none⟩ (.slice B1 N1 b1)).setCell ⟨w.heap.size + 1 + 1, 1, none⟩ (.slice B2 N2 b2)).heap[w.heap.size + 1 + 1]? = some (.cells #[.slice B1 N1 b1, .slice B2 N2 b2] 30 (0, 0)) from zS1 (zS0 kZ))
   have HT := Lib.hid (tSk (i := 1) (u := .slice B2 N2 b2) (tSk (i := 0) (u := .slice B1 N1 b1) TI kZ (by decide)) (zS0 (u := .slice B1 N1 b1) kZ) (by decide))
   have HR := Lib.hid (oSk (i := 1) (u := .slice B2 N2 b2) (oSk (i := 0) (u := .slice B1 N1 b1) RI kZ (by decide)) (zS0 (u := .slice B1 N1 b1) kZ) (by decide))
   have HD := Lib.hid ((D.setCell (p := ⟨w.heap.size + 1 + 1, 0, none⟩) le2 (.slice B1 N1 b1)).setCell (p := ⟨w.heap.size + 1 + 1, 1, none⟩) le2 (.slice B2 N2 b2))
   clear kZ TI RI D
   go_wp2_with fail
   clear z0 z1
   obtain ⟨z0, z1, -⟩ := cz2 HZ.out
   refine bodyPost_ret (v := .tuple #[.agg #[.slice B1 N1 b1, .slice B2 N2 b2], .slice E9 (1 + N3 + 1) e9]) (by simp [results, Tryz.results45, go_sem, z0, z1]) rfl ⟨?_, HD.out⟩
   rw [HP.out]
   exact ⟨_, _, _, _, _, _, rfl, HT.out, oMn (by rw [nums_append]; exact HR.out) hb5x⟩
 have hpc : decide ((sideN true sd N1 N2 : Int) < 20) = true := decide_eq_true (by omega)
 have HP := Lib.hid (show plaR id ac pr qt md sd true za zb = (rest1 sd pr Y1 N1 [id, ac, pr, lf], rest2 sd pr Y2 N2 [id, ac, pr, lf], ackR ac id pr qt ++ RR) by unfold plaR; rw [Hlf.out, HY1.out, HY2.out, HRR.out, if_neg HL.out, if_pos (by rw [HN1.out, HN2.out, HSN.out]; simp [hp]), HN1.out, HN2.out])
 clear hp
 obtain ⟨p0, p1⟩ := rcell2 kN
 obtain ⟨o0, o1, o2, o3⟩ := rrcell4 kO
 go_wp2_with fail
 refine (spec_l2RestB B1 N1 b1 B2 N2 b2 Y1 Y2 sd id ac pr lf w9 HSD.out (Lst.of_own TI.one) (Lst.of_own TI.two) (by omega) (by omega) (oN8 TI.one) (oN8 TI.two) (own_cap TI.one) (own_cap TI.two)).mono ?_
 rintro e wr ⟨⟨t1, t2, rfl, TR⟩, hbr⟩
 clear TI p0 p1 o0 o1 o2 o3
 obtain ⟨A9, a9, B9, b9, rfl, rfl⟩ := TR.slices
 have TI := TR.mono (Nat.le_trans hb5x hw8)
 clear TR
 replace kZ := bk1 hbr kZ
 replace kN := bk1 hbr kN
 replace D := D.trans (hbr.mono D.size)
 replace RI := oBw RI hbr
 clear hbr kC kO hpc
 obtain ⟨n0, n1, m0, m1⟩ := cz2 kN
 go_upto_region 9 with fail
 clear n0 n1 m0 m1
 replace TI := tSk (i := 1) (u := .slice B9 (restN2 sd N2) b9) (tSk (i := 0) (u := .slice A9 (restN1 sd N1) a9) TI kN (by decide)) (zS0 (u := .slice A9 (restN1 sd N1) a9) kN) (by decide)
 replace RI := oSk (i := 1) (u := .slice B9 (restN2 sd N2) b9) (oSk (i := 0) (u := .slice A9 (restN1 sd N1) a9) RI kN (by decide)) (zS0 (u := .slice A9 (restN1 sd N1) a9) kN) (by decide)
 replace D := (D.setCell (p := ⟨XN, 0, none⟩) (show w.heap.size ≤ XN by omega) (.slice A9 (restN1 sd N1) a9)).setCell (p := ⟨XN, 1, none⟩) (show w.heap.size ≤ XN by omega) (.slice B9 (restN2 sd N2) b9)
 replace kZ := mSo (i := 1) (u := .slice B9 (restN2 sd N2) b9) (mSo (i := 0) (u := .slice A9 (restN1 sd N1) a9) kZ (fun e => hNZ e.symm)) (fun e => hNZ e.symm)
 have kN' := zS1 (u := .slice B9 (restN2 sd N2) b9) (zS0 (u := .slice A9 (restN1 sd N1) a9) kN)
 clear kN
 have kN := kN'
 clear kN'
 generalize (wr.setCell ⟨XN, 0, none⟩ (.slice A9 (restN1 sd N1) a9)).setCell ⟨XN, 1, none⟩ (.slice B9 (restN2 sd N2) b9) = ws at *
 obtain ⟨p0, p1⟩ := rcell2 kN
 obtain ⟨z0, z1, g0, g1⟩ := cz2 kZ
 have HZ := Lib.hid (show ((ws.setCell ⟨w.heap.size + 1 + 1, 0, none⟩ (.slice A9 (restN1 sd N1) a9)).setCell ⟨w.heap.size + 1 + 1, 1, none⟩ (.slice B9 (restN2 sd N2) b9)).heap[w.heap.size + 1 + 1]? = some (.cells #[.slice A9 (restN1 sd N1) a9, .slice B9 (restN2 sd N2) b9] 30 (0, 0)) from zS1 (zS0 kZ))
 have HT := Lib.hid (tSk (i := 1) (u := .slice B9 (restN2 sd N2) b9) (tSk (i := 0) (u := .slice A9 (restN1 sd N1) a9) TI kZ (by decide)) (zS0 (u := .slice A9 (restN1 sd N1) a9) kZ) (by decide))
 have HR := Lib.hid (oSk (i := 1) (u := .slice B9 (restN2 sd N2) b9) (oSk (i := 0) (u := .slice A9 (restN1 sd N1) a9) RI kZ (by decide)) (zS0 (u := .slice A9 (restN1 sd N1) a9) kZ) (by decide))
 have HD := Lib.hid ((D.setCell (p := ⟨w.heap.size + 1 + 1, 0, none⟩) le2 (.slice A9 (restN1 sd N1) a9)).setCell (p := ⟨w.heap.size + 1 + 1, 1, none⟩) le2 (.slice B9 (restN2 sd N2) b9))
 clear kZ TI RI D
 go_wp2_with fail
 clear z0 z1
 obtain ⟨z0, z1, -⟩ := cz2 HZ.out
 refine bodyPost_ret (v := .tuple #[.agg #[.slice A9 (restN1 sd N1) a9, .slice B9 (restN2 sd N2) b9], .slice E7 (1 + N3) e7]) (by simp [results, Tryz.results45, go_sem, z0, z1]) rfl ⟨?_, HD.out⟩
 rw [HP.out]
 exact ⟨_, _, _, _, _, _, rfl, HT.out, oMn HR.out hb5x⟩
end Go.Proofs.YtgjjdnojiegidaaGreatDoor

namespace Go.Proofs.YtgjjdnojiegidaaGreatDoor
open Go.RowKit Wire
set_option maxHeartbeats 6400000
set_option maxRecDepth 100000
set_option linter.unusedSimpArgs false
set_option linter.unusedVariables false

theorem why_old {ok : Bool} {f : Nat → Int} {k sy ac id sd pr qt md : Int} {za zb : List Int} {n m : Nat} (h : whyA ok f k sy ac id sd pr qt md za n zb m = 0) (h67 : k = 6 ∨ k = 7) : cmdB k sy ac id sd pr qt md = true ∧ ok = true ∧ f 1 = ac := by
 unfold whyA at h
 split at h
 · rename_i hc
   unfold whyO at h
   split at h
   · rename_i ho; exact ⟨hc.1, ho.1, ho.2⟩
   · cases h
 · cases h
theorem why_new {ok : Bool} {f : Nat → Int} {k sy ac id sd pr qt md : Int} {za zb : List Int} {n m : Nat} (h : whyA ok f k sy ac id sd pr qt md za n zb m = 0) (h67 : ¬ (k = 6 ∨ k = 7)) : cmdB k sy ac id sd pr qt md = true ∧ k ≤ 5 ∧ ok = false := by
 unfold whyA at h
 split at h
 · rename_i hc
   refine ⟨hc.1, by have := hc.2; omega, ?_⟩
   cases ok
   · rfl
   · unfold whyN at h
     rw [if_pos rfl] at h
     cases h
 · cases h
theorem book_dist {za zb : List Int} {n m : Nat} (h : bookB za n zb m = true) : distB (idA za n zb) (n + m) = true := by
 unfold bookB at h
 simp only [Bool.and_eq_true] at h
 exact h.2.2.2
theorem found_rows {za zb : List Int} {n m : Nat} {id s : Int} {f : Nat → Int} (hb : bookB za n zb m = true) (hf : FindRel (bookB za n zb m) za n zb m id s f true) :
 (s = 1 ∧ noId zb m id ∧ ∀ k, k < n → num za (k * 4) = id → num za (k * 4 + 1) = f 1 ∧ num za (k * 4 + 2) = f 2) ∨
 (s = 2 ∧ noId za n id ∧ ∀ k, k < m → num zb (k * 4) = id → num zb (k * 4 + 1) = f 1 ∧ num zb (k * 4 + 2) = f 2) := by
 have hd := dist_pair _ (book_dist hb)
 have ea : ∀ i, i < n → idA za n zb i = num za (i * 4) := fun i hi => by unfold idA; rw [if_pos hi]
 have eb : ∀ i, i < m → idA za n zb (n + i) = num zb (i * 4) := fun i hi => by unfold idA; rw [if_neg (by omega), show n + i - n = i by omega]
 rcases hf with ⟨-, k, hk, -, hi, e, -, hv⟩ | ⟨-, hno, k, hk, -, hi, e, -, hv⟩ | ⟨-, -, e, -⟩
 · refine .inl ⟨e, fun j hj c => hd k (n + j) (by omega) (by omega) ?_, fun j hj c => ?_⟩
   · rw [ea k hk, eb j hj, c]; exact hi
   · have hjk : j = k := by
      rcases Nat.lt_trichotomy j k with l | l | l
      · exact absurd (by rw [ea j hj, ea k hk, c]; exact hi.symm) (hd j k l (by omega))
      · exact l
      · exact absurd (by rw [ea j hj, ea k hk, c]; exact hi) (hd k j l (by omega))
     subst hjk
     exact ⟨(hv 1 (by omega)).symm, (hv 2 (by omega)).symm⟩
 · refine .inr ⟨e, fun j hj => hno j hj, fun j hj c => ?_⟩
   have hjk : j = k := by
    rcases Nat.lt_trichotomy j k with l | l | l
    · exact absurd (by rw [eb j hj, eb k hk, c]; exact hi.symm) (hd (n + j) (n + k) (by omega) (by omega))
    · exact l
    · exact absurd (by rw [eb j hj, eb k hk, c]; exact hi) (hd (n + k) (n + j) (by omega) (by omega))
   subst hjk
   exact ⟨(hv 1 (by omega)).symm, (hv 2 (by omega)).symm⟩
 · cases e
theorem pla_len {za zb : List Int} {n m : Nat} {sd id ac pr qt md : Int} {rest : Bool} (ha : za.length = n * 4) (hb : zb.length = m * 4) (h : rgB za n zb m sd id ac pr qt md = true) (hn : n ≤ 20) (hm : m ≤ 20) : (plaR id ac pr qt md sd rest za zb).2.2.length ≤ 352 := by
 obtain ⟨-, -, h3⟩ := m_len2 ha hb h hn hm
 have e1 : (ackR ac id pr qt).length = 8 := rfl
 have e2 : ∀ q, (canR id ac pr q).length = 8 := fun q => rfl
 have I : ∀ (P : Prop) [Decidable P] (x y : Trip), x.2.2.length ≤ 352 → y.2.2.length ≤ 352 → (if P then x else y).2.2.length ≤ 352 := fun P _ x y hx hy => by split <;> assumption
 unfold plaR
 refine I _ _ _ ?_ (I _ _ _ ?_ ?_)
 · simp only [List.length_append]; omega
 · simp only [List.length_append]; omega
 · simp only [List.length_append, e2]; omega
theorem own_putN {w : World} {base sz n c q : Nat} {T : TypeId} {zs : List Int} (h : w.ownsRow base T sz (.slice (some ⟨q, 0, none⟩) n c) n (nums zs)) (j : Nat) (y : Int) :
 (w.setCell ⟨q, j, none⟩ (.int .i64 y)).ownsRow base T sz (.slice (some ⟨q, 0, none⟩) n c) n (nums (zs.set j y)) := by
 refine ⟨by have := h.1; rw [nums_length] at this ⊢; rw [List.length_set]; exact this, ?_⟩
 rcases h.2 with ⟨h1, _⟩ | ⟨g, cap, cur, hv, hbg, hh, hnc, hcm, hsz, htk⟩
 · simp at h1
 · injection hv with e1 _ e3
   injection e1 with e1
   injection e1 with e1
   subst e1 e3
   exact .inr ⟨_, _, cur.setIfInBounds j (.int .i64 y), rfl, hbg, by simp [World.setCell, Array.getElem?_modify, hh], hnc, hcm, by simpa using hsz, by rw [Array.toList_setIfInBounds, List.take_set, htk]; simp [nums, List.map_set]⟩
theorem own_freeN {w : World} {base sz n c q : Nat} {T : TypeId} {xs : List Value} (h : w.ownsRow base T sz (.slice (some ⟨q, 0, none⟩) n c) n xs) (j : Nat) : w.frozen? ⟨q, j, none⟩ = false := by
 rcases h.2 with ⟨h1, _⟩ | ⟨g, cap, cur, hv, hbg, hh, hnc, hcm, hsz, htk⟩
 · simp at h1
 · injection hv with e1 _ e3
   injection e1 with e1
   injection e1 with e1
   subst e1 e3
   exact frozen_of_row _ _ _ _ _ hh
theorem rows_off {w : World} {base sz n c q : Nat} {T U : TypeId} {xs : List Value} {cs : Array Value} {S : Nat} (h : w.ownsRow base T sz (.slice (some ⟨q, 0, none⟩) n c) n xs) (hS : w.heap[S]? = some (.cells cs U (0, 0))) (hne : T ≠ U) : S ≠ q := by
 rcases h.2 with ⟨h1, _⟩ | ⟨g, cap, cur, hv, hbg, hh, hnc, hcm, hsz, htk⟩
 · simp at h1
 · injection hv with e1 _ e3
   injection e1 with e1
   injection e1 with e1
   subst e1 e3
   exact ne_kind hS hh (fun e => hne e.symm)
theorem two_put {w : World} {base base' N c q j : Nat} {r1 r2 u : Value} {n1 n2 : Nat} {z1 z2 : List Int} {xs : List Value} (h : TwoRows w base r1 n1 z1 r2 n2 z2) (hr : w.ownsRow base' 48 8 (.slice (some ⟨q, 0, none⟩) N c) N xs) : TwoRows (w.setCell ⟨q, j, none⟩ u) base r1 n1 z1 r2 n2 z2 := by
 rcases hr.2 with ⟨h1, _⟩ | ⟨g, cap, cur, hv, hbg, hh, hnc, hcm, hsz, htk⟩
 · simp at h1
 · injection hv with e1 _ e3
   injection e1 with e1
   injection e1 with e1
   subst e1 e3
   exact tSk h hh (by decide)
theorem found_once {za zb : List Int} {n m : Nat} {id : Int} (hb : bookB za n zb m = true) :
 (∀ j k, j < n → k < n → num za (j * 4) = id → num za (k * 4) = id → j = k) ∧ ∀ j k, j < m → k < m → num zb (j * 4) = id → num zb (k * 4) = id → j = k := by
 have hd := dist_pair _ (book_dist hb)
 have ea : ∀ i, i < n → idA za n zb i = num za (i * 4) := fun i hi => by unfold idA; rw [if_pos hi]
 have eb : ∀ i, i < m → idA za n zb (n + i) = num zb (i * 4) := fun i hi => by unfold idA; rw [if_neg (by omega), show n + i - n = i by omega]
 refine ⟨fun j k hj hk c d => ?_, fun j k hj hk c d => ?_⟩
 · rcases Nat.lt_trichotomy j k with l | l | l
   · exact absurd (by rw [ea j hj, ea k hk, c, d]) (hd j k l (by omega))
   · exact l
   · exact absurd (by rw [ea j hj, ea k hk, c, d]) (hd k j l (by omega))
 · rcases Nat.lt_trichotomy j k with l | l | l
   · exact absurd (by rw [eb j hj, eb k hk, c, d]) (hd (n + j) (n + k) (by omega) (by omega))
   · exact l
   · exact absurd (by rw [eb j hj, eb k hk, c, d]) (hd (n + k) (n + j) (by omega) (by omega))
theorem rdZ_none {zs : List Int} {id qt : Int} : ∀ n, n * 4 ≤ zs.length → (∀ k, k < n → num zs (k * 4) ≠ id) → rdZ zs id qt n = zs.take (n * 4)
 | 0, _, _ => by simp [rdZ]
 | n + 1, h, hno => by
  have g : ∀ i, i < zs.length → zs[i]? = some (num zs i) := fun i hi => by simp [num, List.getD, hi]
  rw [rdZ, rdZ_none n (by omega) (fun k hk => hno k (by omega)), if_neg (hno n (by omega)), show (n + 1) * 4 = n * 4 + 1 + 1 + 1 + 1 from by omega, List.take_add_one, List.take_add_one, List.take_add_one, List.take_add_one, g _ (by omega), g _ (by omega), g _ (by omega), g _ (by omega)]
  simp
theorem rdZ_no {zs : List Int} {id qt : Int} {n : Nat} (h : zs.length = n * 4) (hno : noId zs n id) : rdZ zs id qt n = zs := by
 rw [rdZ_none n (by omega) hno, ← h, List.take_length]
end Go.Proofs.YtgjjdnojiegidaaGreatDoor
