/-
 Exec: the document's.
-/
import Derived.Test.YtgjjdnojiegidaaGreatDoorTak
import Derived.Test.YtgjjdnojiegidaaGreatDoorExY
namespace Go.Proofs.YtgjjdnojiegidaaGreatDoor
open Go.RowKit Wire
set_option maxHeartbeats 6400000
set_option maxRecDepth 100000
set_option linter.unusedSimpArgs false
set_option linter.unusedVariables false

theorem whyA_form {ok : Bool} {f : Nat → Int} {k sy ac id sd pr qt md : Int} {za zb : List Int} {n m : Nat} (h : ¬ (cmdB k sy ac id sd pr qt md = true ∧ k < 8)) : whyA ok f k sy ac id sd pr qt md za n zb m = 1 := by
 unfold whyA
 rw [if_neg h]
theorem whyA_ne {ok : Bool} {f : Nat → Int} {k sy ac id sd pr qt md : Int} {za zb : List Int} {n m : Nat} (h : cmdB k sy ac id sd pr qt md = true ∧ k < 8) : whyA ok f k sy ac id sd pr qt md za n zb m ≠ 1 := by
 unfold whyA
 rw [if_pos h]
 have h1 : whyO ok (f 1) ac ≠ 1 := by unfold whyO; split <;> decide
 have h2 : whyN ok k ac id sd pr qt md za n zb m ≠ 1 := by
  unfold whyN
  split
  · decide
  split
  · decide
  split
  · decide
  split <;> decide
 split
 · exact h1
 · exact h2
theorem exA_L {s : Int} {f : Nat → Int} {ok : Bool} {k sy ac id sd pr qt md : Int} {za zb : List Int} {n m : Nat} (hb : bookB za n zb m = true) (h : cmdB k sy ac id sd pr qt md = true ∧ k < 8) :
 exA s f ok k sy ac id sd pr qt md za n zb m = ((exL s f ok k sy ac id sd pr qt md za n zb m).1, (exL s f ok k sy ac id sd pr qt md za n zb m).2.1, symR sy (exL s f ok k sy ac id sd pr qt md za n zb m).2.2 ((exL s f ok k sy ac id sd pr qt md za n zb m).2.2.length / 8)) := by
 have hne := whyA_ne (ok := ok) (f := f) (za := za) (zb := zb) (n := n) (m := m) h
 unfold exA exL
 rw [if_pos hb]
 by_cases h0 : whyA ok f k sy ac id sd pr qt md za n zb m = 0
 · rw [if_pos h0, if_pos h0]
 · have e : ∀ c : Nat, (rejR 0 ac id c).length / 8 = 1 := fun c => by simp [rejR]
   rw [if_neg h0, if_neg h0, symN, if_neg hne]
   dsimp only
   rw [e]
   rfl
theorem spec_Exec (A : Option Addr) (n c : Nat) (B : Option Addr) (m d : Nat) (za zb : List Int) (k sy ac id sd pr qt md : Int) (w : World) (ha : Lst w w.heap.size 4 A n za) (hb : Lst w w.heap.size 4 B m zb) (hn : n ≤ 1048576) (hm : m ≤ 1048576) (hA : A = none → n = 0 ∧ c = 0) (hB : B = none → m = 0 ∧ d = 0) (s : Int) (f : Nat → Int) (ok : Bool) (HF : Hid (FindRel (bookB za n zb m) za n zb m id s f ok)) :
 Calls Tryz.prog 5 #[.agg #[.slice A n c, .slice B m d], .agg #[.int .i64 k, .int .i64 sy, .int .i64 ac, .int .i64 id, .int .i64 sd, .int .i64 pr, .int .i64 qt, .int .i64 md]] w fun e w' => EAns w' w.heap.size (exA s f ok k sy ac id sd pr qt md za n zb m) e ∧ Below w.heap.size w w' := by
 obtain ⟨kB, kC, kZ⟩ := three_blocks w (.cells #[.slice A n c, .slice B m d] 30) (.cells #[.int .i64 k, .int .i64 sy, .int .i64 ac, .int .i64 id, .int .i64 sd, .int .i64 pr, .int .i64 qt, .int .i64 md] 35) (.cells #[.slice none 0 0, .slice none 0 0] 30)
 have D : Below w.heap.size w (((w.alloc (.cells #[.slice A n c, .slice B m d] 30)).alloc (.cells #[.int .i64 k, .int .i64 sy, .int .i64 ac, .int .i64 id, .int .i64 sd, .int .i64 pr, .int .i64 qt, .int .i64 md] 35)).alloc (.cells #[.slice none 0 0, .slice none 0 0] 30)) := (((Below.refl _ _).alloc (Nat.le_refl _) _).alloc (by simp) _).alloc (by simp; omega) _
 replace ha := ha.later D
 replace hb := hb.later D
 go_enter Tryz.func5, Tryz.ntmps5
 go_upto_region 1 with fail
 generalize (((w.alloc (.cells #[.slice A n c, .slice B m d] 30)).alloc (.cells #[.int .i64 k, .int .i64 sy, .int .i64 ac, .int .i64 id, .int .i64 sd, .int .i64 pr, .int .i64 qt, .int .i64 md] 35)).alloc (.cells #[.slice none 0 0, .slice none 0 0] 30)) = w0 at *
 obtain ⟨p0, p1⟩ := rcell2 kB
 go_wp2_with fail
 refine (spec_BookOkO A n c B m d za zb w0 ha hb hn hm hA hB).mono ?_
 rintro e w1 ⟨rfl, hb1⟩
 clear p0 p1
 replace ha := ha.later hb1
 replace hb := hb.later hb1
 replace kB := bk1 hb1 kB
 replace kC := bk1 hb1 kC
 replace kZ := bk1 hb1 kZ
 replace D := D.trans (hb1.mono D.size)
 clear hb1
 obtain ⟨p0, p1⟩ := rcell2 kB
 obtain ⟨bk, hbk⟩ : ∃ x, bookB za n zb m = x := ⟨_, rfl⟩
 have HBX := Lib.hid hbk
 rw [hbk]
 clear hbk
 cases bk
 · clear p0 p1
   have HZ := Lib.hid (show ((w1.setCell ⟨w.heap.size + 1 + 1, 0, none⟩ (.slice none 0 0)).setCell ⟨w.heap.size + 1 + 1, 1, none⟩ (.slice none 0 0)).heap[w.heap.size + 1 + 1]? = some (.cells #[.slice none 0 0, .slice none 0 0] 30 (0, 0)) from zS1 (zS0 kZ))
   have HD := Lib.hid ((D.setCell (p := ⟨w.heap.size + 1 + 1, 0, none⟩) le2 (.slice none 0 0)).setCell (p := ⟨w.heap.size + 1 + 1, 1, none⟩) le2 (.slice none 0 0))
   obtain ⟨z0, z1, g0, g1⟩ := cz2 kZ
   clear kZ D
   go_wp2_with fail
   clear z0 z1
   obtain ⟨z0, z1, -⟩ := cz2 HZ.out
   refine bodyPost_ret (v := .tuple #[.agg #[.slice none 0 0, .slice none 0 0], .slice none 0 0]) (by simp [results, Tryz.results5, go_sem, z0, z1]) rfl ⟨?_, HD.out⟩
   rw [exA, if_neg (by rw [HBX.out]; decide)]
   exact ⟨_, _, _, 0, 0, 0, rfl, TwoRows.nil _ _, World.ownsRow_nil _ _ _ _⟩
 · have HBK : Hid (bookB za n zb m = true) := HBX
   go_upto_region 3 with fail
   clear p0 p1
   have hq1 : Below w1.heap.size w1 w1 := Below.refl _ _
   go_cut [20] (fun s20 wx => s20 = .bool (!decide (cmdB k sy ac id sd pr qt md = true ∧ k < 8)) ∧ Below w1.heap.size w1 wx)
   case first =>
    clear hq1
    obtain ⟨c0, c1, c2, c3, c4, c5, c6, c7⟩ := cmd_cell kC
    go_wp2_with fail
    refine (spec_CmdOk k sy ac id sd pr qt md w1).mono ?_
    rintro e w2 ⟨rfl, hb2⟩
    replace kC := bk1 hb2 kC
    clear c0 c1 c2 c3 c4 c5 c6 c7
    obtain ⟨c0, c1, c2, c3, c4, c5, c6, c7⟩ := cmd_cell kC
    have HB2 := Lib.hid hb2
    clear hb2
    obtain ⟨co, hco⟩ : ∃ x, cmdB k sy ac id sd pr qt md = x := ⟨_, rfl⟩
    have HCO := Lib.hid hco
    rw [hco]
    clear hco
    cases co
    · go_wp2_with fail
      go_meet
      exact ⟨by rw [decide_eq_false (fun h => by rw [HCO.out] at h; exact absurd h.1 (by decide))]; rfl, HB2.out⟩
    · by_cases h8 : k < 8
      · have H8 := Lib.hid h8
        have e8 : decide (8 ≤ k) = false := decide_eq_false (by omega)
        clear h8
        go_wp2_with fail
        go_meet
        exact ⟨by rw [decide_eq_true (p := cmdB k sy ac id sd pr qt md = true ∧ k < 8) ⟨HCO.out, H8.out⟩]; rfl, HB2.out⟩
      · have H8 := Lib.hid h8
        have e8 : decide (8 ≤ k) = true := decide_eq_true (by omega)
        clear h8
        go_wp2_with fail
        go_meet
        exact ⟨by rw [decide_eq_false (fun h => by have h1 := H8.out; have h2 := h.2; omega)]; rfl, HB2.out⟩
   case rest =>
    clear hq1
    obtain ⟨rfl, hb2⟩ := hcut
    rename World => w2
    replace ha := ha.later hb2
    replace hb := hb.later hb2
    replace kB := bk1 hb2 kB
    replace kC := bk1 hb2 kC
    replace kZ := bk1 hb2 kZ
    replace D := D.trans (hb2.mono D.size)
    clear hb2
    obtain ⟨c0, c1, c2, c3, c4, c5, c6, c7⟩ := cmd_cell kC
    by_cases hq : cmdB k sy ac id sd pr qt md = true ∧ k < 8
    rotate_left
    · have HQ := Lib.hid hq
      rw [decide_eq_false hq, Bool.not_false]
      clear hq
      go_upto_region 4 with fail
      clear c0 c1 c2 c3 c4 c5 c6 c7
      refine wp_region_held_drew (S := (fun w' => w'.heap[w.heap.size]? = some (.cells #[.slice A n c, .slice B m d] 30 (0, 0)) ∧ w'.heap[w.heap.size + 1]? = some (.cells #[.int .i64 k, .int .i64 sy, .int .i64 ac, .int .i64 id, .int .i64 sd, .int .i64 pr, .int .i64 qt, .int .i64 md] 35 (0, 0)))) (by kernel_rfl) ?hSm1 (fun zH => ?restm1)
      case hSm1 => exact ⟨kB, kC⟩
      refine tkY 0 (hy := by ((intro wS hSw; obtain ⟨t0, t1⟩ := rcell2 hSw.1; go_simp) <;> with_reducible rfl)) (h := ?_)
      refine tkY 2 (hy := by ((intro wS hSw; obtain ⟨t0, t1, t2, t3, t4, t5, t6, t7⟩ := cmd_cell hSw.2; go_simp) <;> with_reducible rfl)) (h := ?_)
      refine rd1 1 (fun K hK => ?_)
      replace ha : Lst _ (World.drew _).heap.size 4 A n za := ha.later (Below.refl _ _).drew
      replace hb : Lst _ (World.drew _).heap.size 4 B m zb := hb.later (Below.refl _ _).drew
      replace D := D.drew
      go_simp
      refine (spec_l2CopyO A n c B m d za zb _ ha hb hn hm hA hB).mono ?_
      rintro e v1 ⟨⟨t1, t2, rfl, TC, -, -⟩, hb3⟩
      have hx3 := D.size
      replace kB := bk1 hb3 kB
      replace kC := bk1 hb3 kC
      replace kZ := bk1 hb3 kZ
      replace D := D.trans (hb3.mono D.size)
      replace TC := TC.mono hx3
      clear hb3 hx3 ha hb
      obtain ⟨A9, a9, B9, b9, rfl, rfl⟩ := TC.slices
      refine hK.out _ _ (⟨kB, kC⟩) (fun zH => ?_)
      clear hK K
      try simp only [Act.put, sA, sB, sC]
      refine rd1 3 (fun K hK => ?_)
      go_simp
      refine (spec_l4Reject k sy ac id sd pr qt md 1 _).mono ?_
      rintro e vr ⟨⟨rv, rfl, RR⟩, hbr⟩
      have hrl := D.size
      replace kB := bk1 hbr kB
      replace kC := bk1 hbr kC
      replace kZ := bk1 hbr kZ
      replace D := D.trans (hbr.mono D.size)
      replace TC := TC.below hbr
      replace RR := oMn RR hrl
      clear hbr hrl
      refine hK.out _ _ (⟨kB, kC⟩) (fun zH => ?_)
      clear hK K
      try simp only [Act.put, sA, sB, sC]
      refine rd1 4 (fun K hK => ?_)
      obtain ⟨z0, z1, g0, g1⟩ := cz2 kZ
      go_simp
      clear z0 z1 g0 g1
      replace TC := tSk (i := 1) (u := .slice B9 m b9) (tSk (i := 0) (u := .slice A9 n a9) TC kZ (by decide)) (zS0 (u := .slice A9 n a9) kZ) (by decide)
      replace RR := oSk (i := 1) (u := .slice B9 m b9) (oSk (i := 0) (u := .slice A9 n a9) RR kZ (by decide)) (zS0 (u := .slice A9 n a9) kZ) (by decide)
      replace D := (D.setCell (p := ⟨w.heap.size + 1 + 1, 0, none⟩) le2 (.slice A9 n a9)).setCell (p := ⟨w.heap.size + 1 + 1, 1, none⟩) le2 (.slice B9 m b9)
      have nB : w.heap.size ≠ w.heap.size + 1 + 1 := by omega
      have nC : w.heap.size + 1 ≠ w.heap.size + 1 + 1 := by omega
      replace kB := mSo (i := 1) (u := .slice B9 m b9) (mSo (i := 0) (u := .slice A9 n a9) kB nB) nB
      replace kC := mSo (i := 1) (u := .slice B9 m b9) (mSo (i := 0) (u := .slice A9 n a9) kC nC) nC
      have kZ' := zS1 (u := .slice B9 m b9) (zS0 (u := .slice A9 n a9) kZ)
      clear kZ nB nC
      have kZ := kZ'
      clear kZ'
      refine hK.out _ _ (⟨kB, kC⟩) (fun zH => ?_)
      clear hK K
      try simp only [Act.put, sA, sB, sC]
      refine tkV 5 ?_
      refine dn1 ?_
      generalize ((vr.setCell ⟨w.heap.size + 1 + 1, 0, none⟩ (.slice A9 n a9)).setCell ⟨w.heap.size + 1 + 1, 1, none⟩ (.slice B9 m b9)) = wf at *
      obtain ⟨Av, av, rfl, _, _⟩ := oSl RR
      have HR := Lib.hid RR
      have HT := Lib.hid TC
      have HD := Lib.hid D
      have HZ := Lib.hid kZ
      clear zH kB kC kZ RR TC D
      go_wp2_with fail
      obtain ⟨z0, z1, -⟩ := cz2 HZ.out
      refine bodyPost_ret (v := .tuple #[.agg #[.slice A9 n a9, .slice B9 m b9], .slice Av 1 av]) (by simp [results, Tryz.results5, go_sem, z0, z1]) rfl ⟨?_, HD.out⟩
      rw [exA, if_pos HBK.out, whyA_form HQ.out, if_neg (by decide), symN, if_pos rfl]
      exact ⟨_, _, _, _, _, _, rfl, HT.out, HR.out⟩
    · have HQ := Lib.hid hq
      rw [decide_eq_true hq, Bool.not_true]
      clear hq
      go_upto_region 5 with fail
      clear c0 c1 c2 c3 c4 c5 c6 c7
      go_cut [6, 7] (fun s6 s7 wx => ∃ xn C9 X1 c9 D9 X2 d9 Av X3 av, s6 = .pointer (some ⟨xn, 0, none⟩) ∧ s7 = .slice Av X3 av ∧ w.heap.size + 2 < xn ∧ wx.heap[xn]? = some (.cells #[.slice C9 X1 c9, .slice D9 X2 d9] 30 (0, 0)) ∧ wx.heap[w.heap.size + 1 + 1]? = some (.cells #[.slice none 0 0, .slice none 0 0] 30 (0, 0)) ∧ wx.heap[w.heap.size + 1]? = some (.cells #[.int .i64 k, .int .i64 sy, .int .i64 ac, .int .i64 id, .int .i64 sd, .int .i64 pr, .int .i64 qt, .int .i64 md] 35 (0, 0)) ∧ TwoRows wx w.heap.size (.slice C9 X1 c9) X1 (exL s f ok k sy ac id sd pr qt md za n zb m).1 (.slice D9 X2 d9) X2 (exL s f ok k sy ac id sd pr qt md za n zb m).2.1 ∧ wx.ownsRow w.heap.size 48 8 (.slice Av X3 av) X3 (nums (exL s f ok k sy ac id sd pr qt md za n zb m).2.2) ∧ Below w.heap.size w wx)
      case first =>
       refine wp_region_held_drew (S := (fun w' => w'.heap[w.heap.size]? = some (.cells #[.slice A n c, .slice B m d] 30 (0, 0)) ∧ w'.heap[w.heap.size + 1]? = some (.cells #[.int .i64 k, .int .i64 sy, .int .i64 ac, .int .i64 id, .int .i64 sd, .int .i64 pr, .int .i64 qt, .int .i64 md] 35 (0, 0)))) (by kernel_rfl) ?hSm8 (fun zH => ?restm8)
       case hSm8 => exact ⟨kB, kC⟩
       refine tkY 0 (hy := by ((intro wS hSw; obtain ⟨t0, t1⟩ := rcell2 hSw.1; go_simp) <;> with_reducible rfl)) (h := ?_)
       refine tkY 2 (hy := by ((intro wS hSw; obtain ⟨t0, t1, t2, t3, t4, t5, t6, t7⟩ := cmd_cell hSw.2; go_simp) <;> with_reducible rfl)) (h := ?_)
       refine wpAnyH_ready (rs := [1, 7]) (by kernel_rfl) (by simp) ?_
       refine AllReadyH.cons (o := ?or11_1) ?hor11_1 (fun K hK => ?stepr11_1) (AllReadyH.cons (o := ?or11_7) ?hor11_7 (fun K hK => ?stepr11_7) (AllReadyH.nil))
       case hor11_1 => simp only [gA, gB, gC]; exact rfl
       case hor11_7 => simp only [gA, gB, gC]; exact rfl
       case stepr11_1 =>
        replace ha : Lst _ (World.drew _).heap.size 4 A n za := ha.later (Below.refl _ _).drew
        replace hb : Lst _ (World.drew _).heap.size 4 B m zb := hb.later (Below.refl _ _).drew
        replace D := D.drew
        go_simp
        refine (spec_l2CopyO A n c B m d za zb _ ha hb hn hm hA hB).mono ?_
        rintro e v1 ⟨⟨t1, t2, rfl, TC, -, -⟩, hb3⟩
        have hx3 := D.size
        replace kB := bk1 hb3 kB
        replace kC := bk1 hb3 kC
        replace kZ := bk1 hb3 kZ
        replace D := D.trans (hb3.mono D.size)
        replace TC := TC.mono hx3
        clear hb3 hx3 ha hb
        obtain ⟨A9, a9, B9, b9, rfl, rfl⟩ := TC.slices
        refine hK.out _ _ (⟨kB, kC⟩) (fun zH => ?_)
        clear hK K
        try simp only [Act.put, sA, sB, sC]
        refine wpAnyH_ready (rs := [3, 7]) (by kernel_rfl) (by simp) ?_
        refine AllReadyH.cons (o := ?or12_3) ?hor12_3 (fun K hK => ?stepr12_3) (AllReadyH.cons (o := ?or12_7) ?hor12_7 (fun K hK => ?stepr12_7) (AllReadyH.nil))
        case hor12_3 => simp only [gA, gB, gC]; exact rfl
        case hor12_7 => simp only [gA, gB, gC]; exact rfl
        case stepr12_3 =>
         go_simp
         refine (spec_l4Exec w.heap.size A9 n a9 B9 m b9 za zb k sy ac id sd pr qt md _ TC D.size HBK HQ s f ok HF (fun h7 wx hTx hbx => by subst h7; exact spec_l4Replace w.heap.size A9 n a9 B9 m b9 za zb sy ac id sd pr qt md wx hTx hbx HBK (Lib.hid HQ.out.1) s f ok HF)).mono ?_
         rintro e v3 ⟨⟨t1, t2, t3, X1, X2, X3, rfl, TR, RR⟩, hb3⟩
         replace kB := bk1 hb3 kB
         replace kC := bk1 hb3 kC
         replace kZ := bk1 hb3 kZ
         replace D := D.trans (hb3.mono D.size)
         clear hb3 TC
         obtain ⟨C9, c9, D9, d9, rfl, rfl⟩ := TR.slices
         obtain ⟨Av, av, rfl, -, -⟩ := oSl RR
         refine hK.out _ _ (⟨kB, kC⟩) (fun zH => ?_)
         clear hK K
         try simp only [Act.put, sA, sB, sC]
         refine tkV 4 ?_
         refine tkV 5 ?_
         refine tkV 6 ?_
         refine rd1 7 (fun K hK => ?_)
         go_simp
         have kN : (v3.alloc (.cells #[.slice none 0 0, .slice none 0 0] 30)).heap[v3.heap.size]? = some (.cells #[.slice none 0 0, .slice none 0 0] 30) := heap_alloc_new v3 (.cells #[.slice none 0 0, .slice none 0 0] 30)
         have hba : Below v3.heap.size v3 (v3.alloc (.cells #[.slice none 0 0, .slice none 0 0] 30)) := ((Below.refl _ v3).alloc (Nat.le_refl _) _)
         have hnZ : w.heap.size + 1 + 1 < v3.heap.size := hlT kZ
         have hnD := D.size
         replace kB := bk1 hba kB
         replace kC := bk1 hba kC
         replace kZ := bk1 hba kZ
         replace D := D.trans (hba.mono D.size)
         replace TR := TR.below hba
         replace RR := oBw RR hba
         clear hba
         generalize (v3.alloc (.cells #[.slice none 0 0, .slice none 0 0] 30)) = v10 at *
         have hxn : w.heap.size + 2 < v3.heap.size := by omega
         generalize v3.heap.size = xn at kN hxn ⊢
         clear hnZ hnD
         refine hK.out _ _ (⟨kB, kC⟩) (fun zH => ?_)
         clear hK K
         try simp only [Act.put, sA, sB, sC]
         refine rd1 8 (fun K hK => ?_)
         obtain ⟨z0, z1, g0, g1⟩ := cz2 kN
         go_simp
         clear z0 z1 g0 g1
         replace TR := tSk (i := 1) (u := .slice D9 X2 d9) (tSk (i := 0) (u := .slice C9 X1 c9) TR kN (by decide)) (zS0 (u := .slice C9 X1 c9) kN) (by decide)
         replace RR := oSk (i := 1) (u := .slice D9 X2 d9) (oSk (i := 0) (u := .slice C9 X1 c9) RR kN (by decide)) (zS0 (u := .slice C9 X1 c9) kN) (by decide)
         replace D := (D.setCell (p := ⟨xn, 0, none⟩) (show w.heap.size ≤ xn by omega) (.slice C9 X1 c9)).setCell (p := ⟨xn, 1, none⟩) (show w.heap.size ≤ xn by omega) (.slice D9 X2 d9)
         have nB : w.heap.size ≠ xn := by omega
         have nC : w.heap.size + 1 ≠ xn := by omega
         have nZ : w.heap.size + 1 + 1 ≠ xn := by omega
         replace kB := mSo (i := 1) (u := .slice D9 X2 d9) (mSo (i := 0) (u := .slice C9 X1 c9) kB nB) nB
         replace kC := mSo (i := 1) (u := .slice D9 X2 d9) (mSo (i := 0) (u := .slice C9 X1 c9) kC nC) nC
         replace kZ := mSo (i := 1) (u := .slice D9 X2 d9) (mSo (i := 0) (u := .slice C9 X1 c9) kZ nZ) nZ
         have kN' := zS1 (u := .slice D9 X2 d9) (zS0 (u := .slice C9 X1 c9) kN)
         clear kN nB nC
         have kN := kN'
         clear kN'
         refine hK.out _ _ (⟨kB, kC⟩) (fun zH => ?_)
         clear hK K
         try simp only [Act.put, sA, sB, sC]
         refine tkV 9 ?_
         refine dn1 ?_
         generalize ((v10.setCell ⟨xn, 0, none⟩ (.slice C9 X1 c9)).setCell ⟨xn, 1, none⟩ (.slice D9 X2 d9)) = w8 at *
         go_wp2_with fail
         go_meet
         exact ⟨xn, C9, X1, c9, D9, X2, d9, Av, X3, av, rfl, rfl, hxn, kN, kZ, kC, TR, RR, D⟩
        case stepr12_7 =>
         go_simp
         have kN : (v1.alloc (.cells #[.slice none 0 0, .slice none 0 0] 30)).heap[v1.heap.size]? = some (.cells #[.slice none 0 0, .slice none 0 0] 30) := heap_alloc_new v1 (.cells #[.slice none 0 0, .slice none 0 0] 30)
         have hba : Below v1.heap.size v1 (v1.alloc (.cells #[.slice none 0 0, .slice none 0 0] 30)) := ((Below.refl _ v1).alloc (Nat.le_refl _) _)
         have hnZ : w.heap.size + 1 + 1 < v1.heap.size := hlT kZ
         have hnD := D.size
         replace kB := bk1 hba kB
         replace kC := bk1 hba kC
         replace kZ := bk1 hba kZ
         replace D := D.trans (hba.mono D.size)
         replace TC := TC.below hba
         clear hba
         generalize (v1.alloc (.cells #[.slice none 0 0, .slice none 0 0] 30)) = v10 at *
         have hxn : w.heap.size + 2 < v1.heap.size := by omega
         generalize v1.heap.size = xn at kN hxn ⊢
         clear hnZ hnD
         refine hK.out _ _ (⟨kB, kC⟩) (fun zH => ?_)
         clear hK K
         try simp only [Act.put, sA, sB, sC]
         refine rd1 3 (fun K hK => ?_)
         go_simp
         refine (spec_l4Exec w.heap.size A9 n a9 B9 m b9 za zb k sy ac id sd pr qt md _ TC D.size HBK HQ s f ok HF (fun h7 wx hTx hbx => by subst h7; exact spec_l4Replace w.heap.size A9 n a9 B9 m b9 za zb sy ac id sd pr qt md wx hTx hbx HBK (Lib.hid HQ.out.1) s f ok HF)).mono ?_
         rintro e v3 ⟨⟨t1, t2, t3, X1, X2, X3, rfl, TR, RR⟩, hb3⟩
         replace kB := bk1 hb3 kB
         replace kC := bk1 hb3 kC
         replace kZ := bk1 hb3 kZ
         replace D := D.trans (hb3.mono D.size)
         replace kN := bk1 hb3 kN
         clear hb3 TC
         obtain ⟨C9, c9, D9, d9, rfl, rfl⟩ := TR.slices
         obtain ⟨Av, av, rfl, -, -⟩ := oSl RR
         refine hK.out _ _ (⟨kB, kC⟩) (fun zH => ?_)
         clear hK K
         try simp only [Act.put, sA, sB, sC]
         refine tkV 4 ?_
         refine tkV 5 ?_
         refine tkV 6 ?_
         refine rd1 8 (fun K hK => ?_)
         obtain ⟨z0, z1, g0, g1⟩ := cz2 kN
         go_simp
         clear z0 z1 g0 g1
         replace TR := tSk (i := 1) (u := .slice D9 X2 d9) (tSk (i := 0) (u := .slice C9 X1 c9) TR kN (by decide)) (zS0 (u := .slice C9 X1 c9) kN) (by decide)
         replace RR := oSk (i := 1) (u := .slice D9 X2 d9) (oSk (i := 0) (u := .slice C9 X1 c9) RR kN (by decide)) (zS0 (u := .slice C9 X1 c9) kN) (by decide)
         replace D := (D.setCell (p := ⟨xn, 0, none⟩) (show w.heap.size ≤ xn by omega) (.slice C9 X1 c9)).setCell (p := ⟨xn, 1, none⟩) (show w.heap.size ≤ xn by omega) (.slice D9 X2 d9)
         have nB : w.heap.size ≠ xn := by omega
         have nC : w.heap.size + 1 ≠ xn := by omega
         have nZ : w.heap.size + 1 + 1 ≠ xn := by omega
         replace kB := mSo (i := 1) (u := .slice D9 X2 d9) (mSo (i := 0) (u := .slice C9 X1 c9) kB nB) nB
         replace kC := mSo (i := 1) (u := .slice D9 X2 d9) (mSo (i := 0) (u := .slice C9 X1 c9) kC nC) nC
         replace kZ := mSo (i := 1) (u := .slice D9 X2 d9) (mSo (i := 0) (u := .slice C9 X1 c9) kZ nZ) nZ
         have kN' := zS1 (u := .slice D9 X2 d9) (zS0 (u := .slice C9 X1 c9) kN)
         clear kN nB nC
         have kN := kN'
         clear kN'
         refine hK.out _ _ (⟨kB, kC⟩) (fun zH => ?_)
         clear hK K
         try simp only [Act.put, sA, sB, sC]
         refine tkV 9 ?_
         refine dn1 ?_
         generalize ((v3.setCell ⟨xn, 0, none⟩ (.slice C9 X1 c9)).setCell ⟨xn, 1, none⟩ (.slice D9 X2 d9)) = w8 at *
         go_wp2_with fail
         go_meet
         exact ⟨xn, C9, X1, c9, D9, X2, d9, Av, X3, av, rfl, rfl, hxn, kN, kZ, kC, TR, RR, D⟩
       case stepr11_7 =>
        go_simp
        have kN : (w2.alloc (.cells #[.slice none 0 0, .slice none 0 0] 30)).drew.heap[w2.heap.size]? = some (.cells #[.slice none 0 0, .slice none 0 0] 30) := heap_alloc_new w2 (.cells #[.slice none 0 0, .slice none 0 0] 30)
        have hba : Below w2.heap.size w2 (w2.alloc (.cells #[.slice none 0 0, .slice none 0 0] 30)).drew := ((Below.refl _ w2).alloc (Nat.le_refl _) _).drew
        have hnZ : w.heap.size + 1 + 1 < w2.heap.size := hlT kZ
        have hnD := D.size
        replace ha := ha.later hba
        replace hb := hb.later hba
        replace kB := bk1 hba kB
        replace kC := bk1 hba kC
        replace kZ := bk1 hba kZ
        replace D := D.trans (hba.mono D.size)
        clear hba
        generalize (w2.alloc (.cells #[.slice none 0 0, .slice none 0 0] 30)).drew = v10 at *
        have hxn : w.heap.size + 2 < w2.heap.size := by omega
        generalize w2.heap.size = xn at kN hxn ⊢
        clear hnZ hnD
        refine hK.out _ _ (⟨kB, kC⟩) (fun zH => ?_)
        clear hK K
        try simp only [Act.put, sA, sB, sC]
        refine rd1 1 (fun K hK => ?_)
        go_simp
        refine (spec_l2CopyO A n c B m d za zb _ ha hb hn hm hA hB).mono ?_
        rintro e v1 ⟨⟨t1, t2, rfl, TC, -, -⟩, hb3⟩
        have hx3 := D.size
        replace kB := bk1 hb3 kB
        replace kC := bk1 hb3 kC
        replace kZ := bk1 hb3 kZ
        replace D := D.trans (hb3.mono D.size)
        replace kN := bk1 hb3 kN
        replace TC := TC.mono hx3
        clear hb3 hx3 ha hb
        obtain ⟨A9, a9, B9, b9, rfl, rfl⟩ := TC.slices
        refine hK.out _ _ (⟨kB, kC⟩) (fun zH => ?_)
        clear hK K
        try simp only [Act.put, sA, sB, sC]
        refine rd1 3 (fun K hK => ?_)
        go_simp
        refine (spec_l4Exec w.heap.size A9 n a9 B9 m b9 za zb k sy ac id sd pr qt md _ TC D.size HBK HQ s f ok HF (fun h7 wx hTx hbx => by subst h7; exact spec_l4Replace w.heap.size A9 n a9 B9 m b9 za zb sy ac id sd pr qt md wx hTx hbx HBK (Lib.hid HQ.out.1) s f ok HF)).mono ?_
        rintro e v3 ⟨⟨t1, t2, t3, X1, X2, X3, rfl, TR, RR⟩, hb3⟩
        replace kB := bk1 hb3 kB
        replace kC := bk1 hb3 kC
        replace kZ := bk1 hb3 kZ
        replace D := D.trans (hb3.mono D.size)
        replace kN := bk1 hb3 kN
        clear hb3 TC
        obtain ⟨C9, c9, D9, d9, rfl, rfl⟩ := TR.slices
        obtain ⟨Av, av, rfl, -, -⟩ := oSl RR
        refine hK.out _ _ (⟨kB, kC⟩) (fun zH => ?_)
        clear hK K
        try simp only [Act.put, sA, sB, sC]
        refine tkV 4 ?_
        refine tkV 5 ?_
        refine tkV 6 ?_
        refine rd1 8 (fun K hK => ?_)
        obtain ⟨z0, z1, g0, g1⟩ := cz2 kN
        go_simp
        clear z0 z1 g0 g1
        replace TR := tSk (i := 1) (u := .slice D9 X2 d9) (tSk (i := 0) (u := .slice C9 X1 c9) TR kN (by decide)) (zS0 (u := .slice C9 X1 c9) kN) (by decide)
        replace RR := oSk (i := 1) (u := .slice D9 X2 d9) (oSk (i := 0) (u := .slice C9 X1 c9) RR kN (by decide)) (zS0 (u := .slice C9 X1 c9) kN) (by decide)
        replace D := (D.setCell (p := ⟨xn, 0, none⟩) (show w.heap.size ≤ xn by omega) (.slice C9 X1 c9)).setCell (p := ⟨xn, 1, none⟩) (show w.heap.size ≤ xn by omega) (.slice D9 X2 d9)
        have nB : w.heap.size ≠ xn := by omega
        have nC : w.heap.size + 1 ≠ xn := by omega
        have nZ : w.heap.size + 1 + 1 ≠ xn := by omega
        replace kB := mSo (i := 1) (u := .slice D9 X2 d9) (mSo (i := 0) (u := .slice C9 X1 c9) kB nB) nB
        replace kC := mSo (i := 1) (u := .slice D9 X2 d9) (mSo (i := 0) (u := .slice C9 X1 c9) kC nC) nC
        replace kZ := mSo (i := 1) (u := .slice D9 X2 d9) (mSo (i := 0) (u := .slice C9 X1 c9) kZ nZ) nZ
        have kN' := zS1 (u := .slice D9 X2 d9) (zS0 (u := .slice C9 X1 c9) kN)
        clear kN nB nC
        have kN := kN'
        clear kN'
        refine hK.out _ _ (⟨kB, kC⟩) (fun zH => ?_)
        clear hK K
        try simp only [Act.put, sA, sB, sC]
        refine tkV 9 ?_
        refine dn1 ?_
        generalize ((v3.setCell ⟨xn, 0, none⟩ (.slice C9 X1 c9)).setCell ⟨xn, 1, none⟩ (.slice D9 X2 d9)) = w8 at *
        go_wp2_with fail
        go_meet
        exact ⟨xn, C9, X1, c9, D9, X2, d9, Av, X3, av, rfl, rfl, hxn, kN, kZ, kC, TR, RR, D⟩
      case rest =>
       clear kB kC kZ ha hb D
       obtain ⟨XN, B1, N1, b1, B2, N2, b2, E1, N3, e1, rfl, rfl, hxn, kN, kZ, kC, TM, RM, D⟩ := hcut
       rename World => w4
       obtain ⟨TT, hTT⟩ : ∃ x, exL s f ok k sy ac id sd pr qt md za n zb m = x := ⟨_, rfl⟩
       have HTT := Lib.hid hTT
       rw [hTT] at TM RM
       clear hTT
       obtain ⟨Y1, Y2, RR⟩ := TT
       dsimp only at TM RM
       obtain ⟨_, _, he, hN3a, hN3b⟩ := oSl RM
       have hN3 := Nat.le_trans hN3a hN3b
       unfold maxLen at hN3
       injection he with he1 he2 he3
       subst he1 he3
       clear hN3a hN3b he2
       go_wp2_with fail
       go_loopw [8] (fun i wr => ∃ z : Nat, z ≤ N3 ∧ i = .int .i64 (z : Int) ∧ wr.ownsRow w.heap.size 48 8 (.slice E1 N3 e1) N3 (nums (symR sy RR z)) ∧ TwoRows wr w.heap.size (.slice B1 N1 b1) N1 Y1 (.slice B2 N2 b2) N2 Y2 ∧ wr.heap[w.heap.size + 1]? = some (.cells #[.int .i64 k, .int .i64 sy, .int .i64 ac, .int .i64 id, .int .i64 sd, .int .i64 pr, .int .i64 qt, .int .i64 md] 35 (0, 0)) ∧ wr.heap[w.heap.size + 1 + 1]? = some (.cells #[.slice none 0 0, .slice none 0 0] 30 (0, 0)) ∧ wr.heap[XN]? = some (.cells #[.slice B1 N1 b1, .slice B2 N2 b2] 30 (0, 0)) ∧ Below w.heap.size w wr) (fun i _ => N3 - (intOf i).toNat)
       case atStart => exact ⟨0, Nat.zero_le _, rfl, RM, TM, kC, kZ, kN, D⟩
       case round =>
        clear RM TM kC kZ kN D
        obtain ⟨z, hz, rfl, RM, TM, kC, kZ, kN, D⟩ := hrel
        by_cases hlt : z < N3
        · obtain ⟨q, cap, hq, hqb, hql⟩ := RM.form (by omega)
          injection hq with hq1 hq2 hq3
          subst hq1
          clear hq2 hq3
          have hlR : (symR sy RR z).length = N3 * 8 := by have := RM.1; rwa [nums_length] at this
          have q2 := own_at RM (i := z * 8 + 2) (by omega)
          have f2 := own_freeN RM (z * 8 + 2)
          obtain ⟨c0, c1, c2, c3, c4, c5, c6, c7⟩ := cmd_cell kC
          have nC := rows_off RM kC (by decide)
          have nZ := rows_off RM kZ (by decide)
          have nN := rows_off RM kN (by decide)
          have HR := Lib.hid (show (wr.setCell ⟨q, z * 8 + 2, none⟩ (.int .i64 sy)).ownsRow w.heap.size 48 8 (.slice (some ⟨q, 0, none⟩) N3 e1) N3 (nums (symR sy RR (z + 1))) from own_putN RM (z * 8 + 2) sy)
          have HT := Lib.hid (show TwoRows (wr.setCell ⟨q, z * 8 + 2, none⟩ (.int .i64 sy)) w.heap.size (.slice B1 N1 b1) N1 Y1 (.slice B2 N2 b2) N2 Y2 from two_put TM RM)
          have HC := Lib.hid (show (wr.setCell ⟨q, z * 8 + 2, none⟩ (.int .i64 sy)).heap[w.heap.size + 1]? = _ from mSo kC nC)
          have HZ := Lib.hid (show (wr.setCell ⟨q, z * 8 + 2, none⟩ (.int .i64 sy)).heap[w.heap.size + 1 + 1]? = _ from mSo kZ nZ)
          have HN := Lib.hid (show (wr.setCell ⟨q, z * 8 + 2, none⟩ (.int .i64 sy)).heap[XN]? = _ from mSo kN nN)
          have HD := Lib.hid (D.setCell (p := ⟨q, z * 8 + 2, none⟩) hqb (.int .i64 sy))
          clear RM TM kC kZ kN D nC nZ nN
          go_wp2_with fail
          generalize (wr.setCell ⟨q, z * 8 + 2, none⟩ (.int .i64 sy)) = wf at *
          go_roundw
          case rel => exact ⟨z + 1, by omega, by go_num, HR.out, HT.out, HC.out, HZ.out, HN.out, HD.out⟩
          case measure => simp [intOf]; omega
        · rw [show z = N3 by omega] at RM
          obtain ⟨p0, p1⟩ := rcell2 kN
          have HZ := Lib.hid (show ((wr.setCell ⟨w.heap.size + 1 + 1, 0, none⟩ (.slice B1 N1 b1)).setCell ⟨w.heap.size + 1 + 1, 1, none⟩ (.slice B2 N2 b2)).heap[w.heap.size + 1 + 1]? = some (.cells #[.slice B1 N1 b1, .slice B2 N2 b2] 30 (0, 0)) from zS1 (zS0 kZ))
          have HD := Lib.hid ((D.setCell (p := ⟨w.heap.size + 1 + 1, 0, none⟩) le2 (.slice B1 N1 b1)).setCell (p := ⟨w.heap.size + 1 + 1, 1, none⟩) le2 (.slice B2 N2 b2))
          have HT := Lib.hid (tSk (i := 1) (u := .slice B2 N2 b2) (tSk (i := 0) (u := .slice B1 N1 b1) TM kZ (by decide)) (zS0 (u := .slice B1 N1 b1) kZ) (by decide))
          have HR := Lib.hid (oSk (i := 1) (u := .slice B2 N2 b2) (oSk (i := 0) (u := .slice B1 N1 b1) RM kZ (by decide)) (zS0 (u := .slice B1 N1 b1) kZ) (by decide))
          clear TM RM
          obtain ⟨z0, z1, g0, g1⟩ := cz2 kZ
          clear kZ D
          go_wp2_with fail
          clear z0 z1
          obtain ⟨z0, z1, -⟩ := cz2 HZ.out
          refine bodyPost_ret (v := .tuple #[.agg #[.slice B1 N1 b1, .slice B2 N2 b2], .slice E1 N3 e1]) (by simp [results, Tryz.results5, go_sem, z0, z1]) rfl ⟨?_, HD.out⟩
          have hl3 : (symR sy RR N3).length = N3 * 8 := by have := HR.out.1; rwa [nums_length] at this
          rw [symR_len] at hl3
          rw [exA_L HBK.out HQ.out, HTT.out]
          exact ⟨_, _, _, _, _, _, rfl, HT.out, by rw [show RR.length / 8 = N3 by omega]; exact HR.out⟩
end Go.Proofs.YtgjjdnojiegidaaGreatDoor
