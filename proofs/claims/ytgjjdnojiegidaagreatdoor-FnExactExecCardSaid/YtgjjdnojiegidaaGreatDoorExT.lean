/-
 A command on a right book: the document's.
-/
import Derived.Test.YtgjjdnojiegidaaGreatDoorTak
import Derived.Test.YtgjjdnojiegidaaGreatDoorHE
import Derived.Test.YtgjjdnojiegidaaGreatDoorHX
import Derived.Test.YtgjjdnojiegidaaGreatDoorHO
namespace Go.Proofs.YtgjjdnojiegidaaGreatDoor
open Go.RowKit Wire
set_option maxHeartbeats 6400000
set_option maxRecDepth 100000
set_option linter.unusedSimpArgs false
set_option linter.unusedVariables false

def exL (s : Int) (f : Nat → Int) (ok : Bool) (k sy ac id sd pr qt md : Int) (za : List Int) (n : Nat) (zb : List Int) (m : Nat) : Trip :=
 if whyA ok f k sy ac id sd pr qt md za n zb m = 0 then doT s f k ac id sd pr qt md za n zb m else (za, zb, rejR 0 ac id (whyA ok f k sy ac id sd pr qt md za n zb m))
theorem exL_rej {s : Int} {f : Nat → Int} {ok : Bool} {k sy ac id sd pr qt md : Int} {za zb : List Int} {n m : Nat} {c : Nat} (h : whyA ok f k sy ac id sd pr qt md za n zb m = c) (h0 : c ≠ 0) : exL s f ok k sy ac id sd pr qt md za n zb m = (za, zb, rejR 0 ac id c) := by
 unfold exL
 rw [h, if_neg h0]
theorem spec_l4Exec (base : Nat) (A : Option Addr) (n c : Nat) (B : Option Addr) (m d : Nat) (za zb : List Int) (k sy ac id sd pr qt md : Int) (w : World) (hT : TwoRows w base (.slice A n c) n za (.slice B m d) m zb) (hbase : base ≤ w.heap.size) (HBK : Hid (bookB za n zb m = true)) (HCO : Hid (cmdB k sy ac id sd pr qt md = true ∧ k < 8)) (s : Int) (f : Nat → Int) (ok : Bool) (HF : Hid (FindRel (bookB za n zb m) za n zb m id s f ok))
 (HREP : k = 7 → ∀ wx : World, TwoRows wx base (.slice A n c) n za (.slice B m d) m zb → base ≤ wx.heap.size → Calls Tryz.prog 41 #[.agg #[.slice A n c, .slice B m d], .agg #[.int .i64 k, .int .i64 sy, .int .i64 ac, .int .i64 id, .int .i64 sd, .int .i64 pr, .int .i64 qt, .int .i64 md]] wx fun e w' => EAns w' base (exL s f ok k sy ac id sd pr qt md za n zb m) e ∧ Below wx.heap.size wx w') :
 Calls Tryz.prog 20 #[.agg #[.slice A n c, .slice B m d], .agg #[.int .i64 k, .int .i64 sy, .int .i64 ac, .int .i64 id, .int .i64 sd, .int .i64 pr, .int .i64 qt, .int .i64 md]] w fun e w' => EAns w' base (exL s f ok k sy ac id sd pr qt md za n zb m) e ∧ Below w.heap.size w w' := by
 obtain ⟨kB, kC, kZ⟩ := three_blocks w (.cells #[.slice A n c, .slice B m d] 30) (.cells #[.int .i64 k, .int .i64 sy, .int .i64 ac, .int .i64 id, .int .i64 sd, .int .i64 pr, .int .i64 qt, .int .i64 md] 35) (.cells #[.slice none 0 0, .slice none 0 0] 30)
 have D : Below w.heap.size w (((w.alloc (.cells #[.slice A n c, .slice B m d] 30)).alloc (.cells #[.int .i64 k, .int .i64 sy, .int .i64 ac, .int .i64 id, .int .i64 sd, .int .i64 pr, .int .i64 qt, .int .i64 md] 35)).alloc (.cells #[.slice none 0 0, .slice none 0 0] 30)) := (((Below.refl _ _).alloc (Nat.le_refl _) _).alloc (by simp) _).alloc (by simp; omega) _
 have TI := hT.below D
 have hsm := book_small HBK.out
 clear hT
 go_enter Tryz.func20, Tryz.ntmps20
 go_upto_region 1 with fail
 generalize (((w.alloc (.cells #[.slice A n c, .slice B m d] 30)).alloc (.cells #[.int .i64 k, .int .i64 sy, .int .i64 ac, .int .i64 id, .int .i64 sd, .int .i64 pr, .int .i64 qt, .int .i64 md] 35)).alloc (.cells #[.slice none 0 0, .slice none 0 0] 30)) = w0 at *
 obtain ⟨c0, c1, c2, c3, c4, c5, c6, c7⟩ := cmd_cell kC
 obtain ⟨p0, p1⟩ := rcell2 kB
 go_wp2_with fail
 refine (spec_FindO A n c B m d za zb id w0 (Lst.of_own TI.one) (Lst.of_own TI.two) (by omega) (by omega) (oN8 TI.one) (oN8 TI.two)).mono ?_
 rintro e w1 ⟨⟨s', f', ok', hrel, rfl⟩, hb1⟩
 obtain ⟨rfl, rfl, e0, e1, e2, e3⟩ := find_same HF.out hrel
 rw [e0, e1, e2, e3]
 clear e0 e1 e2 e3 hrel c0 c1 c2 c3 c4 c5 c6 c7 p0 p1
 replace kB := bk1 hb1 kB
 replace kC := bk1 hb1 kC
 replace kZ := bk1 hb1 kZ
 replace D := D.trans (hb1.mono D.size)
 replace TI := TI.below hb1
 clear hb1
 obtain ⟨f0, hf0⟩ : ∃ x, f 0 = x := ⟨_, rfl⟩
 obtain ⟨f1, hf1⟩ : ∃ x, f 1 = x := ⟨_, rfl⟩
 obtain ⟨f2, hf2⟩ : ∃ x, f 2 = x := ⟨_, rfl⟩
 obtain ⟨f3, hf3⟩ : ∃ x, f 3 = x := ⟨_, rfl⟩
 rw [hf0, hf1, hf2, hf3]
 have HF0 := Lib.hid hf0
 have HF1 := Lib.hid hf1
 have HF2 := Lib.hid hf2
 have HF3 := Lib.hid hf3
 clear hf0 hf1 hf2 hf3
 go_upto_region 2 with fail
 have kF := heap_alloc_new w1 (.cells #[.int .i64 f0, .int .i64 f1, .int .i64 f2, .int .i64 f3] 65)
 have hba : Below w1.heap.size w1 (w1.alloc (.cells #[.int .i64 f0, .int .i64 f1, .int .i64 f2, .int .i64 f3] 65)) := (Below.refl _ _).alloc (Nat.le_refl _) _
 replace kB := bk1 hba kB
 replace kC := bk1 hba kC
 replace kZ := bk1 hba kZ
 replace D := D.trans (hba.mono D.size)
 replace TI := TI.below hba
 clear hba
 generalize w1.alloc (.cells #[.int .i64 f0, .int .i64 f1, .int .i64 f2, .int .i64 f3] 65) = w2 at *
 generalize w1.heap.size = XF at *
 obtain ⟨c0, c1, c2, c3, c4, c5, c6, c7⟩ := cmd_cell kC
 go_upto_region 3 with fail
 have kO := heap_alloc_new w2 (.cells #[.int .i64 id, .int .i64 ac, .int .i64 pr, .int .i64 qt] 65)
 have hba : Below w2.heap.size w2 (w2.alloc (.cells #[.int .i64 id, .int .i64 ac, .int .i64 pr, .int .i64 qt] 65)) := (Below.refl _ _).alloc (Nat.le_refl _) _
 clear c0 c1 c2 c3 c4 c5 c6 c7
 replace kB := bk1 hba kB
 replace kC := bk1 hba kC
 replace kZ := bk1 hba kZ
 replace D := D.trans (hba.mono D.size)
 replace TI := TI.below hba
 replace kF := bk1 hba kF
 clear hba
 generalize w2.alloc (.cells #[.int .i64 id, .int .i64 ac, .int .i64 pr, .int .i64 qt] 65) = w3 at *
 generalize w2.heap.size = XO at *
 obtain ⟨c0, c1, c2, c3, c4, c5, c6, c7⟩ := cmd_cell kC
 by_cases h6 : k = 6
 · have H6 := Lib.hid h6
   have t6 : (k == 6) = true := by simp [h6]
   clear h6
   obtain ⟨o0, o1, o2, o3⟩ := rrcell4 kF
   cases ok'
   · go_upto_region 6 with fail
     clear o0 o1 o2 o3 c0 c1 c2 c3 c4 c5 c6 c7
     refine wp_region_held_drew (S := (fun w' => w'.heap[w.heap.size]? = some (.cells #[.slice A n c, .slice B m d] 30 (0, 0)) ∧ w'.heap[w.heap.size + 1]? = some (.cells #[.int .i64 k, .int .i64 sy, .int .i64 ac, .int .i64 id, .int .i64 sd, .int .i64 pr, .int .i64 qt, .int .i64 md] 35 (0, 0)))) (by kernel_rfl) ?hSm63 (fun zH => ?restm63)
     case hSm63 => exact ⟨kB, kC⟩
     refine tkY 0 (hy := by ((intro wS hSw; obtain ⟨t0, t1⟩ := rcell2 hSw.1; go_simp) <;> with_reducible rfl)) (h := ?_)
     refine tkY 1 (hy := by ((intro wS hSw; obtain ⟨t0, t1, t2, t3, t4, t5, t6, t7⟩ := cmd_cell hSw.2; go_simp) <;> with_reducible rfl)) (h := ?_)
     refine rd1 2 (fun K hK => ?_)
     replace D := D.drew
     replace TI := TI.below (Below.refl _ _).drew
     go_simp
     refine (spec_l4Reject k sy ac id sd pr qt md 4 _).mono ?_
     rintro e vr ⟨⟨rv, rfl, RR⟩, hbr⟩
     have hrl := D.size
     replace kB := bk1 hbr kB
     replace kC := bk1 hbr kC
     replace kZ := bk1 hbr kZ
     replace D := D.trans (hbr.mono D.size)
     replace TI := TI.below hbr
     replace RR := oMn RR hrl
     clear hbr hrl
     refine hK.out _ _ (⟨kB, kC⟩) (fun zH => ?_)
     clear hK K
     try simp only [Act.put, sA, sB, sC]
     refine rd1 3 (fun K hK => ?_)
     obtain ⟨z0, z1, g0, g1⟩ := cz2 kZ
     go_simp
     clear z0 z1 g0 g1
     replace TI := tSk (i := 1) (u := .slice B m d) (tSk (i := 0) (u := .slice A n c) TI kZ (by decide)) (zS0 (u := .slice A n c) kZ) (by decide)
     replace D := (D.setCell (p := ⟨w.heap.size + 1 + 1, 0, none⟩) le2 (.slice A n c)).setCell (p := ⟨w.heap.size + 1 + 1, 1, none⟩) le2 (.slice B m d)
     replace RR := oSk (i := 1) (u := .slice B m d) (oSk (i := 0) (u := .slice A n c) RR kZ (by decide)) (zS0 (u := .slice A n c) kZ) (by decide)
     have nB : w.heap.size ≠ w.heap.size + 1 + 1 := by omega
     have nC : w.heap.size + 1 ≠ w.heap.size + 1 + 1 := by omega
     replace kB := mSo (i := 1) (u := .slice B m d) (mSo (i := 0) (u := .slice A n c) kB nB) nB
     replace kC := mSo (i := 1) (u := .slice B m d) (mSo (i := 0) (u := .slice A n c) kC nC) nC
     have kZ' := zS1 (u := .slice B m d) (zS0 (u := .slice A n c) kZ)
     clear kZ nB nC
     have kZ := kZ'
     clear kZ'
     refine hK.out _ _ (⟨kB, kC⟩) (fun zH => ?_)
     clear hK K
     try simp only [Act.put, sA, sB, sC]
     refine tkV 4 ?_
     refine dn1 ?_
     generalize ((vr.setCell ⟨w.heap.size + 1 + 1, 0, none⟩ (.slice A n c)).setCell ⟨w.heap.size + 1 + 1, 1, none⟩ (.slice B m d)) = wf at *
     obtain ⟨Av, av, rfl, _, _⟩ := oSl RR
     have HR := Lib.hid RR
     have HT := Lib.hid TI
     have HD := Lib.hid D
     have HZ := Lib.hid kZ
     clear zH kB kC kZ RR TI D
     go_wp2_with fail
     obtain ⟨z0, z1, -⟩ := cz2 HZ.out
     refine bodyPost_ret (v := .tuple #[.agg #[.slice A n c, .slice B m d], .slice Av 1 av]) (by simp [results, Tryz.results20, go_sem, z0, z1]) rfl ⟨?_, HD.out⟩
     rw [exL_rej (show whyA false f k sy ac id sd pr qt md za n zb m = 4 by rw [whyA, if_pos HCO.out, if_pos (.inl H6.out), HF1.out]; exact whyO_no f1 ac) (by decide)]
     exact ⟨_, _, _, _, _, _, rfl, HT.out, oMn HR.out hbase⟩
   by_cases hf : f1 = ac
   · have HFA := Lib.hid hf
     have hff : (f1 != ac) = false := by simp [hf]
     clear hf
     go_upto_region 7 with fail
     clear o0 o1 o2 o3 c0 c1 c2 c3 c4 c5 c6 c7
     refine wp_region_held_drew (S := (fun w' => w'.heap[w.heap.size]? = some (.cells #[.slice A n c, .slice B m d] 30 (0, 0)) ∧ w'.heap[w.heap.size + 1]? = some (.cells #[.int .i64 k, .int .i64 sy, .int .i64 ac, .int .i64 id, .int .i64 sd, .int .i64 pr, .int .i64 qt, .int .i64 md] 35 (0, 0)) ∧ w'.heap[XF]? = some (.cells #[.int .i64 f0, .int .i64 f1, .int .i64 f2, .int .i64 f3] 65 (0, 0)))) (by kernel_rfl) ?hSm69 (fun zH => ?restm69)
     case hSm69 => exact ⟨kB, kC, kF⟩
     refine tkY 0 (hy := by ((intro wS hSw; obtain ⟨t0, t1⟩ := rcell2 hSw.1; go_simp) <;> with_reducible rfl)) (h := ?_)
     refine tkV 1 ?_
     refine tkY 2 (hy := by ((intro wS hSw; obtain ⟨t0, t1, t2, t3, t4, t5, t6, t7⟩ := cmd_cell hSw.2.1; go_simp) <;> with_reducible rfl)) (h := ?_)
     refine tkY 4 (hy := by ((intro wS hSw; obtain ⟨t0, t1, t2, t3⟩ := rrcell4 hSw.2.2; go_simp) <;> with_reducible rfl)) (h := ?_)
     refine rd1 3 (fun K hK => ?_)
     replace D := D.drew
     replace TI := TI.below (Below.refl _ _).drew
     go_simp
     refine (spec_l2TakeO A n c B m d za zb id _ (Lst.of_own TI.one) (Lst.of_own TI.two) (by omega) (by omega)).mono ?_
     rintro e v3 ⟨⟨t1, t2, rfl, ho1, ho2, hap⟩, hb3⟩
     have hx3 := D.size
     replace kB := bk1 hb3 kB
     replace kC := bk1 hb3 kC
     replace kF := bk1 hb3 kF
     replace kZ := bk1 hb3 kZ
     replace D := D.trans (hb3.mono D.size)
     replace TI := TI.below hb3
     have TT := (show TwoRows v3 _ t1 _ _ t2 _ _ from ⟨ho1, ho2, hap⟩).mono hx3
     clear hb3 ho1 ho2 hap hx3
     obtain ⟨A9, a9, B9, b9, rfl, rfl⟩ := TT.slices
     refine hK.out _ _ (⟨kB, kC, kF⟩) (fun zH => ?_)
     clear hK K
     try simp only [Act.put, sA, sB, sC]
     refine rd1 5 (fun K hK => ?_)
     go_simp
     refine (spec_l4GoneX f0 f1 f2 f3 _).mono ?_
     rintro e v5 ⟨rfl, hb5⟩
     replace kB := bk1 hb5 kB
     replace kC := bk1 hb5 kC
     replace kF := bk1 hb5 kF
     replace kZ := bk1 hb5 kZ
     replace D := D.trans (hb5.mono D.size)
     replace TI := TI.below hb5
     replace TT := TT.below hb5
     clear hb5
     refine hK.out _ _ (⟨kB, kC, kF⟩) (fun zH => ?_)
     clear hK K
     try simp only [Act.put, sA, sB, sC]
     refine wpAnyH_ready (rs := [6, 7]) (by kernel_rfl) (by simp) ?_
     refine AllReadyH.cons (o := ?or76_6) ?hor76_6 (fun K hK => ?stepr76_6) (AllReadyH.cons (o := ?or76_7) ?hor76_7 (fun K hK => ?stepr76_7) (AllReadyH.nil))
     case hor76_6 => simp only [gA, gB, gC]; exact rfl
     case hor76_7 => simp only [gA, gB, gC]; exact rfl
     case stepr76_6 =>
      go_simp
      have RA : (v5.alloc (.cells #[.int .i64 0, .int .i64 4, .int .i64 0, .int .i64 f1, .int .i64 f0, .int .i64 0, .int .i64 f2, .int .i64 f3] 48)).ownsRow w.heap.size 48 8 (.slice (some ⟨v5.heap.size, 0, none⟩) 1 1) 1 (nums (canR f0 f1 f2 f3)) := ⟨rfl, .inr ⟨v5.heap.size, 1, #[.int .i64 0, .int .i64 4, .int .i64 0, .int .i64 f1, .int .i64 f0, .int .i64 0, .int .i64 f2, .int .i64 f3], rfl, D.size, heap_alloc_new v5 (.cells #[.int .i64 0, .int .i64 4, .int .i64 0, .int .i64 f1, .int .i64 f0, .int .i64 0, .int .i64 f2, .int .i64 f3] 48), Nat.le_refl _, by unfold maxLen; omega, rfl, rfl⟩⟩
      have hba : Below v5.heap.size v5 (v5.alloc (.cells #[.int .i64 0, .int .i64 4, .int .i64 0, .int .i64 f1, .int .i64 f0, .int .i64 0, .int .i64 f2, .int .i64 f3] 48)) := (Below.refl _ _).alloc (Nat.le_refl _) _
      replace kB := bk1 hba kB
      replace kC := bk1 hba kC
      replace kF := bk1 hba kF
      replace kZ := bk1 hba kZ
      replace D := D.trans (hba.mono D.size)
      replace TI := TI.below hba
      replace TT := TT.below hba
      clear hba
      have HXR := Lib.hid (show v5.heap.size = v5.heap.size from rfl)
      generalize v5.alloc (.cells #[.int .i64 0, .int .i64 4, .int .i64 0, .int .i64 f1, .int .i64 f0, .int .i64 0, .int .i64 f2, .int .i64 f3] 48) = v6 at *
      generalize hxr : v5.heap.size = xr at RA
      replace HXR := Lib.hid (show v5.heap.size = xr by simpa [World.setCell] using hxr)
      clear hxr
      refine hK.out _ _ (⟨kB, kC, kF⟩) (fun zH => ?_)
      clear hK K
      try simp only [Act.put, sA, sB, sC]
      refine rd1 7 (fun K hK => ?_)
      obtain ⟨z0, z1, g0, g1⟩ := cz2 kZ
      go_simp
      clear z0 z1 g0 g1
      replace TI := tSk (i := 1) (u := .slice B9 (tkN zb id m) b9) (tSk (i := 0) (u := .slice A9 (tkN za id n) a9) TI kZ (by decide)) (zS0 (u := .slice A9 (tkN za id n) a9) kZ) (by decide)
      replace TT := tSk (i := 1) (u := .slice B9 (tkN zb id m) b9) (tSk (i := 0) (u := .slice A9 (tkN za id n) a9) TT kZ (by decide)) (zS0 (u := .slice A9 (tkN za id n) a9) kZ) (by decide)
      replace RA := oSk (i := 1) (u := .slice B9 (tkN zb id m) b9) (oSk (i := 0) (u := .slice A9 (tkN za id n) a9) RA kZ (by decide)) (zS0 (u := .slice A9 (tkN za id n) a9) kZ) (by decide)
      replace D := (D.setCell (p := ⟨w.heap.size + 1 + 1, 0, none⟩) le2 (.slice A9 (tkN za id n) a9)).setCell (p := ⟨w.heap.size + 1 + 1, 1, none⟩) le2 (.slice B9 (tkN zb id m) b9)
      have nB : w.heap.size ≠ w.heap.size + 1 + 1 := by omega
      have nC : w.heap.size + 1 ≠ w.heap.size + 1 + 1 := by omega
      have nF := ne_kind kF kZ (by decide)
      replace kB := mSo (i := 1) (u := .slice B9 (tkN zb id m) b9) (mSo (i := 0) (u := .slice A9 (tkN za id n) a9) kB nB) nB
      replace kC := mSo (i := 1) (u := .slice B9 (tkN zb id m) b9) (mSo (i := 0) (u := .slice A9 (tkN za id n) a9) kC nC) nC
      replace kF := mSo (i := 1) (u := .slice B9 (tkN zb id m) b9) (mSo (i := 0) (u := .slice A9 (tkN za id n) a9) kF nF) nF
      have kZ' := zS1 (u := .slice B9 (tkN zb id m) b9) (zS0 (u := .slice A9 (tkN za id n) a9) kZ)
      clear kZ nB nC nF
      have kZ := kZ'
      clear kZ'
      refine hK.out _ _ (⟨kB, kC, kF⟩) (fun zH => ?_)
      clear hK K
      try simp only [Act.put, sA, sB, sC]
      refine tkV 8 ?_
      refine dn1 ?_
      generalize ((v6.setCell ⟨w.heap.size + 1 + 1, 0, none⟩ (.slice A9 (tkN za id n) a9)).setCell ⟨w.heap.size + 1 + 1, 1, none⟩ (.slice B9 (tkN zb id m) b9)) = wf at *
      have HR := Lib.hid RA
      have HT := Lib.hid TT
      have HD := Lib.hid D
      have HZ := Lib.hid kZ
      clear zH kB kC kF kZ RA TI TT D
      go_wp2_with fail
      obtain ⟨z0, z1, -⟩ := cz2 HZ.out
      refine bodyPost_ret (v := .tuple #[.agg #[.slice A9 (tkN za id n) a9, .slice B9 (tkN zb id m) b9], .slice (some ⟨xr, 0, none⟩) 1 1]) (by simp [results, Tryz.results20, go_sem, z0, z1, HXR.out]) rfl ⟨?_, HD.out⟩
      rw [show exL s' f true k sy ac id sd pr qt md za n zb m = (tkZ za id n, tkZ zb id m, canR f0 f1 f2 f3) by rw [exL, if_pos (show whyA true f k sy ac id sd pr qt md za n zb m = 0 by rw [whyA, if_pos HCO.out, if_pos (.inl H6.out), HF1.out]; exact whyO_yes HFA.out), doT, if_pos H6.out, HF0.out, HF1.out, HF2.out, HF3.out]]
      exact ⟨_, _, _, _, _, _, rfl, HT.out.mono hbase, oMn HR.out hbase⟩
     case stepr76_7 =>
      obtain ⟨z0, z1, g0, g1⟩ := cz2 kZ
      go_simp
      clear z0 z1 g0 g1
      replace TI := tSk (i := 1) (u := .slice B9 (tkN zb id m) b9) (tSk (i := 0) (u := .slice A9 (tkN za id n) a9) TI kZ (by decide)) (zS0 (u := .slice A9 (tkN za id n) a9) kZ) (by decide)
      replace TT := tSk (i := 1) (u := .slice B9 (tkN zb id m) b9) (tSk (i := 0) (u := .slice A9 (tkN za id n) a9) TT kZ (by decide)) (zS0 (u := .slice A9 (tkN za id n) a9) kZ) (by decide)
      replace D := (D.setCell (p := ⟨w.heap.size + 1 + 1, 0, none⟩) le2 (.slice A9 (tkN za id n) a9)).setCell (p := ⟨w.heap.size + 1 + 1, 1, none⟩) le2 (.slice B9 (tkN zb id m) b9)
      have nB : w.heap.size ≠ w.heap.size + 1 + 1 := by omega
      have nC : w.heap.size + 1 ≠ w.heap.size + 1 + 1 := by omega
      have nF := ne_kind kF kZ (by decide)
      replace kB := mSo (i := 1) (u := .slice B9 (tkN zb id m) b9) (mSo (i := 0) (u := .slice A9 (tkN za id n) a9) kB nB) nB
      replace kC := mSo (i := 1) (u := .slice B9 (tkN zb id m) b9) (mSo (i := 0) (u := .slice A9 (tkN za id n) a9) kC nC) nC
      replace kF := mSo (i := 1) (u := .slice B9 (tkN zb id m) b9) (mSo (i := 0) (u := .slice A9 (tkN za id n) a9) kF nF) nF
      have kZ' := zS1 (u := .slice B9 (tkN zb id m) b9) (zS0 (u := .slice A9 (tkN za id n) a9) kZ)
      clear kZ nB nC nF
      have kZ := kZ'
      clear kZ'
      refine hK.out _ _ (⟨kB, kC, kF⟩) (fun zH => ?_)
      clear hK K
      try simp only [Act.put, sA, sB, sC]
      refine rd1 6 (fun K hK => ?_)
      go_simp
      have RA : (((v5.setCell ⟨w.heap.size + 1 + 1, 0, none⟩ (.slice A9 (tkN za id n) a9)).setCell ⟨w.heap.size + 1 + 1, 1, none⟩ (.slice B9 (tkN zb id m) b9)).alloc (.cells #[.int .i64 0, .int .i64 4, .int .i64 0, .int .i64 f1, .int .i64 f0, .int .i64 0, .int .i64 f2, .int .i64 f3] 48)).ownsRow w.heap.size 48 8 (.slice (some ⟨((v5.setCell ⟨w.heap.size + 1 + 1, 0, none⟩ (.slice A9 (tkN za id n) a9)).setCell ⟨w.heap.size + 1 + 1, 1, none⟩ (.slice B9 (tkN zb id m) b9)).heap.size, 0, none⟩) 1 1) 1 (nums (canR f0 f1 f2 f3)) := ⟨rfl, .inr ⟨((v5.setCell ⟨w.heap.size + 1 + 1, 0, none⟩ (.slice A9 (tkN za id n) a9)).setCell ⟨w.heap.size + 1 + 1, 1, none⟩ (.slice B9 (tkN zb id m) b9)).heap.size, 1, #[.int .i64 0, .int .i64 4, .int .i64 0, .int .i64 f1, .int .i64 f0, .int .i64 0, .int .i64 f2, .int .i64 f3], rfl, D.size, heap_alloc_new ((v5.setCell ⟨w.heap.size + 1 + 1, 0, none⟩ (.slice A9 (tkN za id n) a9)).setCell ⟨w.heap.size + 1 + 1, 1, none⟩ (.slice B9 (tkN zb id m) b9)) (.cells #[.int .i64 0, .int .i64 4, .int .i64 0, .int .i64 f1, .int .i64 f0, .int .i64 0, .int .i64 f2, .int .i64 f3] 48), Nat.le_refl _, by unfold maxLen; omega, rfl, rfl⟩⟩
      have hba : Below ((v5.setCell ⟨w.heap.size + 1 + 1, 0, none⟩ (.slice A9 (tkN za id n) a9)).setCell ⟨w.heap.size + 1 + 1, 1, none⟩ (.slice B9 (tkN zb id m) b9)).heap.size ((v5.setCell ⟨w.heap.size + 1 + 1, 0, none⟩ (.slice A9 (tkN za id n) a9)).setCell ⟨w.heap.size + 1 + 1, 1, none⟩ (.slice B9 (tkN zb id m) b9)) (((v5.setCell ⟨w.heap.size + 1 + 1, 0, none⟩ (.slice A9 (tkN za id n) a9)).setCell ⟨w.heap.size + 1 + 1, 1, none⟩ (.slice B9 (tkN zb id m) b9)).alloc (.cells #[.int .i64 0, .int .i64 4, .int .i64 0, .int .i64 f1, .int .i64 f0, .int .i64 0, .int .i64 f2, .int .i64 f3] 48)) := (Below.refl _ _).alloc (Nat.le_refl _) _
      replace kB := bk1 hba kB
      replace kC := bk1 hba kC
      replace kF := bk1 hba kF
      replace kZ := bk1 hba kZ
      replace D := D.trans (hba.mono D.size)
      replace TI := TI.below hba
      replace TT := TT.below hba
      clear hba
      have HXR := Lib.hid (show ((v5.setCell ⟨w.heap.size + 1 + 1, 0, none⟩ (.slice A9 (tkN za id n) a9)).setCell ⟨w.heap.size + 1 + 1, 1, none⟩ (.slice B9 (tkN zb id m) b9)).heap.size = ((v5.setCell ⟨w.heap.size + 1 + 1, 0, none⟩ (.slice A9 (tkN za id n) a9)).setCell ⟨w.heap.size + 1 + 1, 1, none⟩ (.slice B9 (tkN zb id m) b9)).heap.size from rfl)
      generalize ((v5.setCell ⟨w.heap.size + 1 + 1, 0, none⟩ (.slice A9 (tkN za id n) a9)).setCell ⟨w.heap.size + 1 + 1, 1, none⟩ (.slice B9 (tkN zb id m) b9)).alloc (.cells #[.int .i64 0, .int .i64 4, .int .i64 0, .int .i64 f1, .int .i64 f0, .int .i64 0, .int .i64 f2, .int .i64 f3] 48) = v6 at *
      generalize hxr : ((v5.setCell ⟨w.heap.size + 1 + 1, 0, none⟩ (.slice A9 (tkN za id n) a9)).setCell ⟨w.heap.size + 1 + 1, 1, none⟩ (.slice B9 (tkN zb id m) b9)).heap.size = xr at RA
      replace HXR := Lib.hid (show v5.heap.size = xr by simpa [World.setCell] using hxr)
      clear hxr
      refine hK.out _ _ (⟨kB, kC, kF⟩) (fun zH => ?_)
      clear hK K
      try simp only [Act.put, sA, sB, sC]
      refine tkV 8 ?_
      refine dn1 ?_
      generalize v6 = wf at *
      have HR := Lib.hid RA
      have HT := Lib.hid TT
      have HD := Lib.hid D
      have HZ := Lib.hid kZ
      clear zH kB kC kF kZ RA TI TT D
      go_wp2_with fail
      obtain ⟨z0, z1, -⟩ := cz2 HZ.out
      refine bodyPost_ret (v := .tuple #[.agg #[.slice A9 (tkN za id n) a9, .slice B9 (tkN zb id m) b9], .slice (some ⟨xr, 0, none⟩) 1 1]) (by simp [results, Tryz.results20, go_sem, z0, z1, HXR.out]) rfl ⟨?_, HD.out⟩
      rw [show exL s' f true k sy ac id sd pr qt md za n zb m = (tkZ za id n, tkZ zb id m, canR f0 f1 f2 f3) by rw [exL, if_pos (show whyA true f k sy ac id sd pr qt md za n zb m = 0 by rw [whyA, if_pos HCO.out, if_pos (.inl H6.out), HF1.out]; exact whyO_yes HFA.out), doT, if_pos H6.out, HF0.out, HF1.out, HF2.out, HF3.out]]
      exact ⟨_, _, _, _, _, _, rfl, HT.out.mono hbase, oMn HR.out hbase⟩
   · have HFA := Lib.hid hf
     have hff : (f1 != ac) = true := by simp [hf]
     clear hf
     go_upto_region 6 with fail
     clear o0 o1 o2 o3 c0 c1 c2 c3 c4 c5 c6 c7
     refine wp_region_held_drew (S := (fun w' => w'.heap[w.heap.size]? = some (.cells #[.slice A n c, .slice B m d] 30 (0, 0)) ∧ w'.heap[w.heap.size + 1]? = some (.cells #[.int .i64 k, .int .i64 sy, .int .i64 ac, .int .i64 id, .int .i64 sd, .int .i64 pr, .int .i64 qt, .int .i64 md] 35 (0, 0)))) (by kernel_rfl) ?hSm81 (fun zH => ?restm81)
     case hSm81 => exact ⟨kB, kC⟩
     refine tkY 0 (hy := by ((intro wS hSw; obtain ⟨t0, t1⟩ := rcell2 hSw.1; go_simp) <;> with_reducible rfl)) (h := ?_)
     refine tkY 1 (hy := by ((intro wS hSw; obtain ⟨t0, t1, t2, t3, t4, t5, t6, t7⟩ := cmd_cell hSw.2; go_simp) <;> with_reducible rfl)) (h := ?_)
     refine rd1 2 (fun K hK => ?_)
     replace D := D.drew
     replace TI := TI.below (Below.refl _ _).drew
     go_simp
     refine (spec_l4Reject k sy ac id sd pr qt md 4 _).mono ?_
     rintro e vr ⟨⟨rv, rfl, RR⟩, hbr⟩
     have hrl := D.size
     replace kB := bk1 hbr kB
     replace kC := bk1 hbr kC
     replace kZ := bk1 hbr kZ
     replace D := D.trans (hbr.mono D.size)
     replace TI := TI.below hbr
     replace RR := oMn RR hrl
     clear hbr hrl
     refine hK.out _ _ (⟨kB, kC⟩) (fun zH => ?_)
     clear hK K
     try simp only [Act.put, sA, sB, sC]
     refine rd1 3 (fun K hK => ?_)
     obtain ⟨z0, z1, g0, g1⟩ := cz2 kZ
     go_simp
     clear z0 z1 g0 g1
     replace TI := tSk (i := 1) (u := .slice B m d) (tSk (i := 0) (u := .slice A n c) TI kZ (by decide)) (zS0 (u := .slice A n c) kZ) (by decide)
     replace D := (D.setCell (p := ⟨w.heap.size + 1 + 1, 0, none⟩) le2 (.slice A n c)).setCell (p := ⟨w.heap.size + 1 + 1, 1, none⟩) le2 (.slice B m d)
     replace RR := oSk (i := 1) (u := .slice B m d) (oSk (i := 0) (u := .slice A n c) RR kZ (by decide)) (zS0 (u := .slice A n c) kZ) (by decide)
     have nB : w.heap.size ≠ w.heap.size + 1 + 1 := by omega
     have nC : w.heap.size + 1 ≠ w.heap.size + 1 + 1 := by omega
     replace kB := mSo (i := 1) (u := .slice B m d) (mSo (i := 0) (u := .slice A n c) kB nB) nB
     replace kC := mSo (i := 1) (u := .slice B m d) (mSo (i := 0) (u := .slice A n c) kC nC) nC
     have kZ' := zS1 (u := .slice B m d) (zS0 (u := .slice A n c) kZ)
     clear kZ nB nC
     have kZ := kZ'
     clear kZ'
     refine hK.out _ _ (⟨kB, kC⟩) (fun zH => ?_)
     clear hK K
     try simp only [Act.put, sA, sB, sC]
     refine tkV 4 ?_
     refine dn1 ?_
     generalize ((vr.setCell ⟨w.heap.size + 1 + 1, 0, none⟩ (.slice A n c)).setCell ⟨w.heap.size + 1 + 1, 1, none⟩ (.slice B m d)) = wf at *
     obtain ⟨Av, av, rfl, _, _⟩ := oSl RR
     have HR := Lib.hid RR
     have HT := Lib.hid TI
     have HD := Lib.hid D
     have HZ := Lib.hid kZ
     clear zH kB kC kZ RR TI D
     go_wp2_with fail
     obtain ⟨z0, z1, -⟩ := cz2 HZ.out
     refine bodyPost_ret (v := .tuple #[.agg #[.slice A n c, .slice B m d], .slice Av 1 av]) (by simp [results, Tryz.results20, go_sem, z0, z1]) rfl ⟨?_, HD.out⟩
     rw [exL_rej (show whyA true f k sy ac id sd pr qt md za n zb m = 4 by rw [whyA, if_pos HCO.out, if_pos (.inl H6.out), HF1.out]; exact whyO_not HFA.out) (by decide)]
     exact ⟨_, _, _, _, _, _, rfl, HT.out, oMn HR.out hbase⟩
 by_cases h7 : k = 7
 · have t6 : (k == 6) = false := by simp [h6]
   have t7 : (k == 7) = true := by simp [h7]
   have HC7 := Lib.hid (HREP h7)
   clear h6 h7 HREP
   obtain ⟨p0, p1⟩ := rcell2 kB
   obtain ⟨c0, c1, c2, c3, c4, c5, c6, c7⟩ := cmd_cell kC
   go_wp2_with fail
   refine (HC7.out w3 TI (Nat.le_trans hbase D.size)).mono ?_
   rintro e wp ⟨⟨t1, t2, t3, X1, X2, X3, rfl, TR, RR⟩, hbp⟩
   clear TI p0 p1 c0 c1 c2 c3 c4 c5 c6 c7
   obtain ⟨A9, a9, B9, b9, rfl, rfl⟩ := TR.slices
   obtain ⟨Av, av, rfl, _, _⟩ := oSl RR
   replace kZ := bk1 hbp kZ
   replace D := D.trans (hbp.mono D.size)
   clear hbp kB kC kF kO
   have HZ := Lib.hid (show ((wp.setCell ⟨w.heap.size + 1 + 1, 0, none⟩ (.slice A9 X1 a9)).setCell ⟨w.heap.size + 1 + 1, 1, none⟩ (.slice B9 X2 b9)).heap[w.heap.size + 1 + 1]? = some (.cells #[.slice A9 X1 a9, .slice B9 X2 b9] 30 (0, 0)) from zS1 (zS0 kZ))
   have HT := Lib.hid (tSk (i := 1) (u := .slice B9 X2 b9) (tSk (i := 0) (u := .slice A9 X1 a9) TR kZ (by decide)) (zS0 (u := .slice A9 X1 a9) kZ) (by decide))
   have HR := Lib.hid (oSk (i := 1) (u := .slice B9 X2 b9) (oSk (i := 0) (u := .slice A9 X1 a9) RR kZ (by decide)) (zS0 (u := .slice A9 X1 a9) kZ) (by decide))
   have HD := Lib.hid ((D.setCell (p := ⟨w.heap.size + 1 + 1, 0, none⟩) le2 (.slice A9 X1 a9)).setCell (p := ⟨w.heap.size + 1 + 1, 1, none⟩) le2 (.slice B9 X2 b9))
   obtain ⟨z0, z1, g0, g1⟩ := cz2 kZ
   clear kZ TR RR D
   go_wp2_with fail
   clear z0 z1
   obtain ⟨z0, z1, -⟩ := cz2 HZ.out
   refine bodyPost_ret (v := .tuple #[.agg #[.slice A9 X1 a9, .slice B9 X2 b9], .slice Av X3 av]) (by simp [results, Tryz.results20, go_sem, z0, z1]) rfl ⟨?_, HD.out⟩
   exact ⟨_, _, _, _, _, _, rfl, HT.out, HR.out⟩
 have H67 := Lib.hid (show ¬ (k = 6 ∨ k = 7) from fun h => h.elim h6 h7)
 have t6 : (k == 6) = false := by simp [h6]
 have t7 : (k == 7) = false := by simp [h7]
 clear h6 h7
 cases ok'
 rotate_left
 · clear c1 c2 c3 c4 c5 c6 c7
   go_upto_region 11 with fail
   refine wp_region_held_drew (S := (fun w' => w'.heap[w.heap.size]? = some (.cells #[.slice A n c, .slice B m d] 30 (0, 0)) ∧ w'.heap[w.heap.size + 1]? = some (.cells #[.int .i64 k, .int .i64 sy, .int .i64 ac, .int .i64 id, .int .i64 sd, .int .i64 pr, .int .i64 qt, .int .i64 md] 35 (0, 0)))) (by kernel_rfl) ?hSm57 (fun zH => ?restm57)
   case hSm57 => exact ⟨kB, kC⟩
   refine tkY 0 (hy := by ((intro wS hSw; obtain ⟨t0, t1⟩ := rcell2 hSw.1; go_simp) <;> with_reducible rfl)) (h := ?_)
   refine tkY 1 (hy := by ((intro wS hSw; obtain ⟨t0, t1, t2, t3, t4, t5, t6, t7⟩ := cmd_cell hSw.2; go_simp) <;> with_reducible rfl)) (h := ?_)
   refine rd1 2 (fun K hK => ?_)
   replace D := D.drew
   replace TI := TI.below (Below.refl _ _).drew
   go_simp
   refine (spec_l4Reject k sy ac id sd pr qt md 3 _).mono ?_
   rintro e vr ⟨⟨rv, rfl, RR⟩, hbr⟩
   have hrl := D.size
   replace kB := bk1 hbr kB
   replace kC := bk1 hbr kC
   replace kZ := bk1 hbr kZ
   replace D := D.trans (hbr.mono D.size)
   replace TI := TI.below hbr
   replace RR := oMn RR hrl
   clear hbr hrl
   refine hK.out _ _ (⟨kB, kC⟩) (fun zH => ?_)
   clear hK K
   try simp only [Act.put, sA, sB, sC]
   refine rd1 3 (fun K hK => ?_)
   obtain ⟨z0, z1, g0, g1⟩ := cz2 kZ
   go_simp
   clear z0 z1 g0 g1
   replace TI := tSk (i := 1) (u := .slice B m d) (tSk (i := 0) (u := .slice A n c) TI kZ (by decide)) (zS0 (u := .slice A n c) kZ) (by decide)
   replace D := (D.setCell (p := ⟨w.heap.size + 1 + 1, 0, none⟩) le2 (.slice A n c)).setCell (p := ⟨w.heap.size + 1 + 1, 1, none⟩) le2 (.slice B m d)
   replace RR := oSk (i := 1) (u := .slice B m d) (oSk (i := 0) (u := .slice A n c) RR kZ (by decide)) (zS0 (u := .slice A n c) kZ) (by decide)
   have nB : w.heap.size ≠ w.heap.size + 1 + 1 := by omega
   have nC : w.heap.size + 1 ≠ w.heap.size + 1 + 1 := by omega
   replace kB := mSo (i := 1) (u := .slice B m d) (mSo (i := 0) (u := .slice A n c) kB nB) nB
   replace kC := mSo (i := 1) (u := .slice B m d) (mSo (i := 0) (u := .slice A n c) kC nC) nC
   have kZ' := zS1 (u := .slice B m d) (zS0 (u := .slice A n c) kZ)
   clear kZ nB nC
   have kZ := kZ'
   clear kZ'
   refine hK.out _ _ (⟨kB, kC⟩) (fun zH => ?_)
   clear hK K
   try simp only [Act.put, sA, sB, sC]
   refine tkV 4 ?_
   refine dn1 ?_
   generalize ((vr.setCell ⟨w.heap.size + 1 + 1, 0, none⟩ (.slice A n c)).setCell ⟨w.heap.size + 1 + 1, 1, none⟩ (.slice B m d)) = wf at *
   obtain ⟨Av, av, rfl, _, _⟩ := oSl RR
   have HR := Lib.hid RR
   have HT := Lib.hid TI
   have HD := Lib.hid D
   have HZ := Lib.hid kZ
   clear zH kB kC kZ RR TI D
   go_wp2_with fail
   obtain ⟨z0, z1, -⟩ := cz2 HZ.out
   refine bodyPost_ret (v := .tuple #[.agg #[.slice A n c, .slice B m d], .slice Av 1 av]) (by simp [results, Tryz.results20, go_sem, z0, z1]) rfl ⟨?_, HD.out⟩
   rw [exL_rej (show whyA true f k sy ac id sd pr qt md za n zb m = 3 by rw [whyA, if_pos HCO.out, if_neg H67.out, whyN]; rw [if_pos rfl]) (by decide)]
   exact ⟨_, _, _, _, _, _, rfl, HT.out, oMn HR.out hbase⟩
 have hk5 : k ≤ 5 := by have h := HCO.out.2; have h2 := H67.out; omega
 have HNEW := Lib.hid (cmd_new HCO.out.1 hk5)
 have HRG : Hid (rgB za n zb m sd id ac pr qt md = true) := Lib.hid (rg_new HBK.out HNEW.out.1 HNEW.out.2.1 HNEW.out.2.2.1 HF.out)
 clear hk5
 by_cases h4 : k = 4
 · have H4 := Lib.hid h4
   have t4 : (k == 4) = true := by simp [h4]
   have t1 : (k == 1) = false := by simp [h4]
   have t5 : (k == 5) = false := by simp [h4]
   clear h4
   obtain ⟨p0, p1⟩ := rcell2 kB
   obtain ⟨o0, o1, o2, o3⟩ := rrcell4 kO
   go_wp2_with fail
   refine (spec_l3Can A n c B m d za zb sd id ac pr qt md w3 (Lst.of_own TI.one) (Lst.of_own TI.two) (oN8 TI.one) (oN8 TI.two) HRG.out).mono ?_
   rintro e w4 ⟨rfl, hb4⟩
   clear p0 p1 o0 o1 o2 o3 c0 c1 c2 c3 c4 c5 c6 c7
   replace kB := bk1 hb4 kB
   replace kC := bk1 hb4 kC
   replace kZ := bk1 hb4 kZ
   replace D := D.trans (hb4.mono D.size)
   replace TI := TI.below hb4
   replace kF := bk1 hb4 kF
   replace kO := bk1 hb4 kO
   clear hb4
   obtain ⟨cb, hcb⟩ : ∃ x, canB true sd id ac pr qt md za zb = x := ⟨_, rfl⟩
   have HCB : Hid (canB (rgB za n zb m sd id ac pr qt md) sd id ac pr qt md za zb = cb) := Lib.hid (by rw [HRG.out]; exact hcb)
   rw [hcb]
   clear hcb
   cases cb
   · skip
     go_upto_region 13 with fail
     refine wp_region_held_drew (S := (fun w' => w'.heap[w.heap.size]? = some (.cells #[.slice A n c, .slice B m d] 30 (0, 0)) ∧ w'.heap[w.heap.size + 1]? = some (.cells #[.int .i64 k, .int .i64 sy, .int .i64 ac, .int .i64 id, .int .i64 sd, .int .i64 pr, .int .i64 qt, .int .i64 md] 35 (0, 0)))) (by kernel_rfl) ?hSm87 (fun zH => ?restm87)
     case hSm87 => exact ⟨kB, kC⟩
     refine tkY 0 (hy := by ((intro wS hSw; obtain ⟨t0, t1⟩ := rcell2 hSw.1; go_simp) <;> with_reducible rfl)) (h := ?_)
     refine tkY 1 (hy := by ((intro wS hSw; obtain ⟨t0, t1, t2, t3, t4, t5, t6, t7⟩ := cmd_cell hSw.2; go_simp) <;> with_reducible rfl)) (h := ?_)
     refine rd1 2 (fun K hK => ?_)
     replace D := D.drew
     replace TI := TI.below (Below.refl _ _).drew
     go_simp
     refine (spec_l4Reject k sy ac id sd pr qt md 6 _).mono ?_
     rintro e vr ⟨⟨rv, rfl, RR⟩, hbr⟩
     have hrl := D.size
     replace kB := bk1 hbr kB
     replace kC := bk1 hbr kC
     replace kZ := bk1 hbr kZ
     replace D := D.trans (hbr.mono D.size)
     replace TI := TI.below hbr
     replace RR := oMn RR hrl
     clear hbr hrl
     refine hK.out _ _ (⟨kB, kC⟩) (fun zH => ?_)
     clear hK K
     try simp only [Act.put, sA, sB, sC]
     refine rd1 3 (fun K hK => ?_)
     obtain ⟨z0, z1, g0, g1⟩ := cz2 kZ
     go_simp
     clear z0 z1 g0 g1
     replace TI := tSk (i := 1) (u := .slice B m d) (tSk (i := 0) (u := .slice A n c) TI kZ (by decide)) (zS0 (u := .slice A n c) kZ) (by decide)
     replace D := (D.setCell (p := ⟨w.heap.size + 1 + 1, 0, none⟩) le2 (.slice A n c)).setCell (p := ⟨w.heap.size + 1 + 1, 1, none⟩) le2 (.slice B m d)
     replace RR := oSk (i := 1) (u := .slice B m d) (oSk (i := 0) (u := .slice A n c) RR kZ (by decide)) (zS0 (u := .slice A n c) kZ) (by decide)
     have nB : w.heap.size ≠ w.heap.size + 1 + 1 := by omega
     have nC : w.heap.size + 1 ≠ w.heap.size + 1 + 1 := by omega
     replace kB := mSo (i := 1) (u := .slice B m d) (mSo (i := 0) (u := .slice A n c) kB nB) nB
     replace kC := mSo (i := 1) (u := .slice B m d) (mSo (i := 0) (u := .slice A n c) kC nC) nC
     have kZ' := zS1 (u := .slice B m d) (zS0 (u := .slice A n c) kZ)
     clear kZ nB nC
     have kZ := kZ'
     clear kZ'
     refine hK.out _ _ (⟨kB, kC⟩) (fun zH => ?_)
     clear hK K
     try simp only [Act.put, sA, sB, sC]
     refine tkV 4 ?_
     refine dn1 ?_
     generalize ((vr.setCell ⟨w.heap.size + 1 + 1, 0, none⟩ (.slice A n c)).setCell ⟨w.heap.size + 1 + 1, 1, none⟩ (.slice B m d)) = wf at *
     obtain ⟨Av, av, rfl, _, _⟩ := oSl RR
     have HR := Lib.hid RR
     have HT := Lib.hid TI
     have HD := Lib.hid D
     have HZ := Lib.hid kZ
     clear zH kB kC kZ RR TI D
     go_wp2_with fail
     obtain ⟨z0, z1, -⟩ := cz2 HZ.out
     refine bodyPost_ret (v := .tuple #[.agg #[.slice A n c, .slice B m d], .slice Av 1 av]) (by simp [results, Tryz.results20, go_sem, z0, z1]) rfl ⟨?_, HD.out⟩
     rw [exL_rej (show whyA false f k sy ac id sd pr qt md za n zb m = 6 by rw [whyA, if_pos HCO.out, if_neg H67.out, whyN]; rw [if_neg (show ¬ (false = true) by decide), if_pos ⟨H4.out, HCB.out⟩]) (by decide)]
     exact ⟨_, _, _, _, _, _, rfl, HT.out, oMn HR.out hbase⟩
   · have HRSV := Lib.hid (show (decide (k = 1) || decide (k = 5)) = false by rw [H4.out]; decide)
     obtain ⟨c0, c1, c2, c3, c4, c5, c6, c7⟩ := cmd_cell kC
     obtain ⟨p0, p1⟩ := rcell2 kB
     obtain ⟨c0, c1, c2, c3, c4, c5, c6, c7⟩ := cmd_cell kC
     go_wp2_with fail
     refine (spec_l4Place base A n c B m d za zb k sy ac id sd pr qt md sd false w4 TI (Nat.le_trans hbase D.size) HRG).mono ?_
     rintro e wp ⟨⟨t1, t2, t3, X1, X2, X3, rfl, TR, RR⟩, hbp⟩
     clear TI p0 p1 c0 c1 c2 c3 c4 c5 c6 c7
     obtain ⟨A9, a9, B9, b9, rfl, rfl⟩ := TR.slices
     obtain ⟨Av, av, rfl, _, _⟩ := oSl RR
     replace kZ := bk1 hbp kZ
     replace D := D.trans (hbp.mono D.size)
     clear hbp kB kC kF kO
     have HZ := Lib.hid (show ((wp.setCell ⟨w.heap.size + 1 + 1, 0, none⟩ (.slice A9 X1 a9)).setCell ⟨w.heap.size + 1 + 1, 1, none⟩ (.slice B9 X2 b9)).heap[w.heap.size + 1 + 1]? = some (.cells #[.slice A9 X1 a9, .slice B9 X2 b9] 30 (0, 0)) from zS1 (zS0 kZ))
     have HT := Lib.hid (tSk (i := 1) (u := .slice B9 X2 b9) (tSk (i := 0) (u := .slice A9 X1 a9) TR kZ (by decide)) (zS0 (u := .slice A9 X1 a9) kZ) (by decide))
     have HR := Lib.hid (oSk (i := 1) (u := .slice B9 X2 b9) (oSk (i := 0) (u := .slice A9 X1 a9) RR kZ (by decide)) (zS0 (u := .slice A9 X1 a9) kZ) (by decide))
     have HD := Lib.hid ((D.setCell (p := ⟨w.heap.size + 1 + 1, 0, none⟩) le2 (.slice A9 X1 a9)).setCell (p := ⟨w.heap.size + 1 + 1, 1, none⟩) le2 (.slice B9 X2 b9))
     obtain ⟨z0, z1, g0, g1⟩ := cz2 kZ
     clear kZ TR RR D
     go_wp2_with fail
     clear z0 z1
     obtain ⟨z0, z1, -⟩ := cz2 HZ.out
     refine bodyPost_ret (v := .tuple #[.agg #[.slice A9 X1 a9, .slice B9 X2 b9], .slice Av X3 av]) (by simp [results, Tryz.results20, go_sem, z0, z1]) rfl ⟨?_, HD.out⟩
     rw [show exL s' f false k sy ac id sd pr qt md za n zb m = plaR id ac pr qt md sd false za zb by rw [exL, if_pos (show whyA false f k sy ac id sd pr qt md za n zb m = 0 by rw [whyA, if_pos HCO.out, if_neg H67.out, whyN]; rw [if_neg (show ¬ (false = true) by decide), if_neg (fun h => by rw [HCB.out] at h; exact absurd h.2 (by decide)), if_neg (fun h => by have := H4.out; omega), if_neg (fun h => by have := H4.out; omega)]), doT, if_neg (fun h => H67.out (.inl h)), if_neg (fun h => H67.out (.inr h)), HRSV.out]]
     exact ⟨_, _, _, _, _, _, rfl, HT.out, HR.out⟩
 have H4 := Lib.hid h4
 have t4 : (k == 4) = false := by simp [h4]
 clear h4
 by_cases h5 : k = 5
 · have H5 := Lib.hid h5
   have t5 : (k == 5) = true := by simp [h5]
   have t1 : (k == 1) = false := by simp [h5]
   clear h5
   obtain ⟨p0, p1⟩ := rcell2 kB
   go_wp2_with fail
   refine (spec_CrossingO A n c B m d za zb sd pr w3 (Lst.of_own TI.one) (Lst.of_own TI.two) (by omega) (by omega) (oN8 TI.one) (oN8 TI.two)).mono ?_
   rintro e w4 ⟨⟨r, rfl, hcr⟩, hb4⟩
   rw [HBK.out] at hcr
   obtain ⟨Ar, cr, rfl, -, -⟩ := oSl hcr
   clear hcr p0 p1 c0 c1 c2 c3 c4 c5 c6 c7
   replace kB := bk1 hb4 kB
   replace kC := bk1 hb4 kC
   replace kZ := bk1 hb4 kZ
   replace D := D.trans (hb4.mono D.size)
   replace TI := TI.below hb4
   replace kF := bk1 hb4 kF
   replace kO := bk1 hb4 kO
   clear hb4
   obtain ⟨cx, hcx⟩ : ∃ x, crN true sd pr za zb n m = x := ⟨_, rfl⟩
   have HCX := Lib.hid hcx
   rw [hcx]
   clear hcx
   by_cases hp : 0 < cx
   · have hpc : decide ((0 : Int) < (cx : Int)) = true := decide_eq_true (by omega)
     have HP := Lib.hid hp
     go_upto_region 15 with fail
     refine wp_region_held_drew (S := (fun w' => w'.heap[w.heap.size]? = some (.cells #[.slice A n c, .slice B m d] 30 (0, 0)) ∧ w'.heap[w.heap.size + 1]? = some (.cells #[.int .i64 k, .int .i64 sy, .int .i64 ac, .int .i64 id, .int .i64 sd, .int .i64 pr, .int .i64 qt, .int .i64 md] 35 (0, 0)))) (by kernel_rfl) ?hSm93 (fun zH => ?restm93)
     case hSm93 => exact ⟨kB, kC⟩
     refine tkY 0 (hy := by ((intro wS hSw; obtain ⟨t0, t1⟩ := rcell2 hSw.1; go_simp) <;> with_reducible rfl)) (h := ?_)
     refine tkY 1 (hy := by ((intro wS hSw; obtain ⟨t0, t1, t2, t3, t4, t5, t6, t7⟩ := cmd_cell hSw.2; go_simp) <;> with_reducible rfl)) (h := ?_)
     refine rd1 2 (fun K hK => ?_)
     replace D := D.drew
     replace TI := TI.below (Below.refl _ _).drew
     go_simp
     refine (spec_l4Reject k sy ac id sd pr qt md 5 _).mono ?_
     rintro e vr ⟨⟨rv, rfl, RR⟩, hbr⟩
     have hrl := D.size
     replace kB := bk1 hbr kB
     replace kC := bk1 hbr kC
     replace kZ := bk1 hbr kZ
     replace D := D.trans (hbr.mono D.size)
     replace TI := TI.below hbr
     replace RR := oMn RR hrl
     clear hbr hrl
     refine hK.out _ _ (⟨kB, kC⟩) (fun zH => ?_)
     clear hK K
     try simp only [Act.put, sA, sB, sC]
     refine rd1 3 (fun K hK => ?_)
     obtain ⟨z0, z1, g0, g1⟩ := cz2 kZ
     go_simp
     clear z0 z1 g0 g1
     replace TI := tSk (i := 1) (u := .slice B m d) (tSk (i := 0) (u := .slice A n c) TI kZ (by decide)) (zS0 (u := .slice A n c) kZ) (by decide)
     replace D := (D.setCell (p := ⟨w.heap.size + 1 + 1, 0, none⟩) le2 (.slice A n c)).setCell (p := ⟨w.heap.size + 1 + 1, 1, none⟩) le2 (.slice B m d)
     replace RR := oSk (i := 1) (u := .slice B m d) (oSk (i := 0) (u := .slice A n c) RR kZ (by decide)) (zS0 (u := .slice A n c) kZ) (by decide)
     have nB : w.heap.size ≠ w.heap.size + 1 + 1 := by omega
     have nC : w.heap.size + 1 ≠ w.heap.size + 1 + 1 := by omega
     replace kB := mSo (i := 1) (u := .slice B m d) (mSo (i := 0) (u := .slice A n c) kB nB) nB
     replace kC := mSo (i := 1) (u := .slice B m d) (mSo (i := 0) (u := .slice A n c) kC nC) nC
     have kZ' := zS1 (u := .slice B m d) (zS0 (u := .slice A n c) kZ)
     clear kZ nB nC
     have kZ := kZ'
     clear kZ'
     refine hK.out _ _ (⟨kB, kC⟩) (fun zH => ?_)
     clear hK K
     try simp only [Act.put, sA, sB, sC]
     refine tkV 4 ?_
     refine dn1 ?_
     generalize ((vr.setCell ⟨w.heap.size + 1 + 1, 0, none⟩ (.slice A n c)).setCell ⟨w.heap.size + 1 + 1, 1, none⟩ (.slice B m d)) = wf at *
     obtain ⟨Av, av, rfl, _, _⟩ := oSl RR
     have HR := Lib.hid RR
     have HT := Lib.hid TI
     have HD := Lib.hid D
     have HZ := Lib.hid kZ
     clear zH kB kC kZ RR TI D
     go_wp2_with fail
     obtain ⟨z0, z1, -⟩ := cz2 HZ.out
     refine bodyPost_ret (v := .tuple #[.agg #[.slice A n c, .slice B m d], .slice Av 1 av]) (by simp [results, Tryz.results20, go_sem, z0, z1]) rfl ⟨?_, HD.out⟩
     rw [exL_rej (show whyA false f k sy ac id sd pr qt md za n zb m = 5 by rw [whyA, if_pos HCO.out, if_neg H67.out, whyN]; rw [if_neg (show ¬ (false = true) by decide), if_neg (fun h => H4.out h.1), if_pos ⟨H5.out, by rw [HCX.out]; exact HP.out⟩]) (by decide)]
     exact ⟨_, _, _, _, _, _, rfl, HT.out, oMn HR.out hbase⟩
   have hpc : decide ((0 : Int) < (cx : Int)) = false := decide_eq_false (by omega)
   have hp0 : cx = 0 := by omega
   have HP := Lib.hid hp
   clear hp
   obtain ⟨c0, c1, c2, c3, c4, c5, c6, c7⟩ := cmd_cell kC
   obtain ⟨p0, p1⟩ := rcell2 kB
   go_wp2_with fail
   refine (spec_l2ListO A n c B m d sd w4).mono ?_
   rintro e w5 ⟨rfl, hb5⟩
   have HSN := Lib.hid (side_room (N1 := n) (N2 := m) HNEW.out.1)
   obtain ⟨LA, lc, hLL⟩ : ∃ LA lc, (if sd = 1 then Value.slice A n c else .slice B m d) = .slice LA (sideN true sd n m) lc := by rw [← HSN.out]; split <;> exact ⟨_, _, rfl⟩
   rw [hLL]
   have hle : sideN true sd n m ≤ 20 := by rw [← HSN.out]; split <;> omega
   clear hLL p0 p1 c0 c1 c2 c3 c4 c5 c6 c7 hpc hp0
   replace kB := bk1 hb5 kB
   replace kC := bk1 hb5 kC
   replace kZ := bk1 hb5 kZ
   replace D := D.trans (hb5.mono D.size)
   replace TI := TI.below hb5
   replace kF := bk1 hb5 kF
   replace kO := bk1 hb5 kO
   clear hb5
   by_cases hq : sideN true sd n m = 20
   · have hqc : ((sideN true sd n m : Int) == 20) = true := by simp [hq]
     have HQ := Lib.hid hq
     clear hle
     go_upto_region 17 with fail
     refine wp_region_held_drew (S := (fun w' => w'.heap[w.heap.size]? = some (.cells #[.slice A n c, .slice B m d] 30 (0, 0)) ∧ w'.heap[w.heap.size + 1]? = some (.cells #[.int .i64 k, .int .i64 sy, .int .i64 ac, .int .i64 id, .int .i64 sd, .int .i64 pr, .int .i64 qt, .int .i64 md] 35 (0, 0)))) (by kernel_rfl) ?hSm99 (fun zH => ?restm99)
     case hSm99 => exact ⟨kB, kC⟩
     refine tkY 0 (hy := by ((intro wS hSw; obtain ⟨t0, t1⟩ := rcell2 hSw.1; go_simp) <;> with_reducible rfl)) (h := ?_)
     refine tkY 1 (hy := by ((intro wS hSw; obtain ⟨t0, t1, t2, t3, t4, t5, t6, t7⟩ := cmd_cell hSw.2; go_simp) <;> with_reducible rfl)) (h := ?_)
     refine rd1 2 (fun K hK => ?_)
     replace D := D.drew
     replace TI := TI.below (Below.refl _ _).drew
     go_simp
     refine (spec_l4Reject k sy ac id sd pr qt md 7 _).mono ?_
     rintro e vr ⟨⟨rv, rfl, RR⟩, hbr⟩
     have hrl := D.size
     replace kB := bk1 hbr kB
     replace kC := bk1 hbr kC
     replace kZ := bk1 hbr kZ
     replace D := D.trans (hbr.mono D.size)
     replace TI := TI.below hbr
     replace RR := oMn RR hrl
     clear hbr hrl
     refine hK.out _ _ (⟨kB, kC⟩) (fun zH => ?_)
     clear hK K
     try simp only [Act.put, sA, sB, sC]
     refine rd1 3 (fun K hK => ?_)
     obtain ⟨z0, z1, g0, g1⟩ := cz2 kZ
     go_simp
     clear z0 z1 g0 g1
     replace TI := tSk (i := 1) (u := .slice B m d) (tSk (i := 0) (u := .slice A n c) TI kZ (by decide)) (zS0 (u := .slice A n c) kZ) (by decide)
     replace D := (D.setCell (p := ⟨w.heap.size + 1 + 1, 0, none⟩) le2 (.slice A n c)).setCell (p := ⟨w.heap.size + 1 + 1, 1, none⟩) le2 (.slice B m d)
     replace RR := oSk (i := 1) (u := .slice B m d) (oSk (i := 0) (u := .slice A n c) RR kZ (by decide)) (zS0 (u := .slice A n c) kZ) (by decide)
     have nB : w.heap.size ≠ w.heap.size + 1 + 1 := by omega
     have nC : w.heap.size + 1 ≠ w.heap.size + 1 + 1 := by omega
     replace kB := mSo (i := 1) (u := .slice B m d) (mSo (i := 0) (u := .slice A n c) kB nB) nB
     replace kC := mSo (i := 1) (u := .slice B m d) (mSo (i := 0) (u := .slice A n c) kC nC) nC
     have kZ' := zS1 (u := .slice B m d) (zS0 (u := .slice A n c) kZ)
     clear kZ nB nC
     have kZ := kZ'
     clear kZ'
     refine hK.out _ _ (⟨kB, kC⟩) (fun zH => ?_)
     clear hK K
     try simp only [Act.put, sA, sB, sC]
     refine tkV 4 ?_
     refine dn1 ?_
     generalize ((vr.setCell ⟨w.heap.size + 1 + 1, 0, none⟩ (.slice A n c)).setCell ⟨w.heap.size + 1 + 1, 1, none⟩ (.slice B m d)) = wf at *
     obtain ⟨Av, av, rfl, _, _⟩ := oSl RR
     have HR := Lib.hid RR
     have HT := Lib.hid TI
     have HD := Lib.hid D
     have HZ := Lib.hid kZ
     clear zH kB kC kZ RR TI D
     go_wp2_with fail
     obtain ⟨z0, z1, -⟩ := cz2 HZ.out
     refine bodyPost_ret (v := .tuple #[.agg #[.slice A n c, .slice B m d], .slice Av 1 av]) (by simp [results, Tryz.results20, go_sem, z0, z1]) rfl ⟨?_, HD.out⟩
     rw [exL_rej (show whyA false f k sy ac id sd pr qt md za n zb m = 7 by rw [whyA, if_pos HCO.out, if_neg H67.out, whyN]; rw [if_neg (show ¬ (false = true) by decide), if_neg (fun h => H4.out h.1), if_neg (fun h => HP.out (by rw [← HCX.out]; exact h.2)), if_pos ⟨H5.out, by rw [HQ.out]; decide⟩]) (by decide)]
     exact ⟨_, _, _, _, _, _, rfl, HT.out, oMn HR.out hbase⟩
   · have hqc : ((sideN true sd n m : Int) == 20) = false := beq_eq_false_iff_ne.2 (by omega)
     have HQ := Lib.hid (show sideN true sd n m < 20 by omega)
     clear hq hle
     have HRSV := Lib.hid (show (decide (k = 1) || decide (k = 5)) = true by rw [H5.out]; decide)
     obtain ⟨c0, c1, c2, c3, c4, c5, c6, c7⟩ := cmd_cell kC
     obtain ⟨p0, p1⟩ := rcell2 kB
     obtain ⟨c0, c1, c2, c3, c4, c5, c6, c7⟩ := cmd_cell kC
     go_wp2_with fail
     refine (spec_l4Place base A n c B m d za zb k sy ac id sd pr qt md sd true w5 TI (Nat.le_trans hbase D.size) HRG).mono ?_
     rintro e wp ⟨⟨t1, t2, t3, X1, X2, X3, rfl, TR, RR⟩, hbp⟩
     clear TI p0 p1 c0 c1 c2 c3 c4 c5 c6 c7
     obtain ⟨A9, a9, B9, b9, rfl, rfl⟩ := TR.slices
     obtain ⟨Av, av, rfl, _, _⟩ := oSl RR
     replace kZ := bk1 hbp kZ
     replace D := D.trans (hbp.mono D.size)
     clear hbp kB kC kF kO
     have HZ := Lib.hid (show ((wp.setCell ⟨w.heap.size + 1 + 1, 0, none⟩ (.slice A9 X1 a9)).setCell ⟨w.heap.size + 1 + 1, 1, none⟩ (.slice B9 X2 b9)).heap[w.heap.size + 1 + 1]? = some (.cells #[.slice A9 X1 a9, .slice B9 X2 b9] 30 (0, 0)) from zS1 (zS0 kZ))
     have HT := Lib.hid (tSk (i := 1) (u := .slice B9 X2 b9) (tSk (i := 0) (u := .slice A9 X1 a9) TR kZ (by decide)) (zS0 (u := .slice A9 X1 a9) kZ) (by decide))
     have HR := Lib.hid (oSk (i := 1) (u := .slice B9 X2 b9) (oSk (i := 0) (u := .slice A9 X1 a9) RR kZ (by decide)) (zS0 (u := .slice A9 X1 a9) kZ) (by decide))
     have HD := Lib.hid ((D.setCell (p := ⟨w.heap.size + 1 + 1, 0, none⟩) le2 (.slice A9 X1 a9)).setCell (p := ⟨w.heap.size + 1 + 1, 1, none⟩) le2 (.slice B9 X2 b9))
     obtain ⟨z0, z1, g0, g1⟩ := cz2 kZ
     clear kZ TR RR D
     go_wp2_with fail
     clear z0 z1
     obtain ⟨z0, z1, -⟩ := cz2 HZ.out
     refine bodyPost_ret (v := .tuple #[.agg #[.slice A9 X1 a9, .slice B9 X2 b9], .slice Av X3 av]) (by simp [results, Tryz.results20, go_sem, z0, z1]) rfl ⟨?_, HD.out⟩
     rw [show exL s' f false k sy ac id sd pr qt md za n zb m = plaR id ac pr qt md sd true za zb by rw [exL, if_pos (show whyA false f k sy ac id sd pr qt md za n zb m = 0 by rw [whyA, if_pos HCO.out, if_neg H67.out, whyN]; rw [if_neg (show ¬ (false = true) by decide), if_neg (fun h => H4.out h.1), if_neg (fun h => HP.out (by rw [← HCX.out]; exact h.2)), if_neg (fun h => h.2 HQ.out)]), doT, if_neg (fun h => H67.out (.inl h)), if_neg (fun h => H67.out (.inr h)), HRSV.out]]
     exact ⟨_, _, _, _, _, _, rfl, HT.out, HR.out⟩
 have H5 := Lib.hid h5
 have t5 : (k == 5) = false := by simp [h5]
 clear h5
 by_cases h1 : k = 1
 · have t1 : (k == 1) = true := by simp [h1]
   have HRSV := Lib.hid (show (decide (k = 1) || decide (k = 5)) = true by rw [h1]; decide)
   clear h1
   obtain ⟨p0, p1⟩ := rcell2 kB
   obtain ⟨c0, c1, c2, c3, c4, c5, c6, c7⟩ := cmd_cell kC
   go_wp2_with fail
   refine (spec_l4Place base A n c B m d za zb k sy ac id sd pr qt md sd true w3 TI (Nat.le_trans hbase D.size) HRG).mono ?_
   rintro e wp ⟨⟨t1, t2, t3, X1, X2, X3, rfl, TR, RR⟩, hbp⟩
   clear TI p0 p1 c0 c1 c2 c3 c4 c5 c6 c7
   obtain ⟨A9, a9, B9, b9, rfl, rfl⟩ := TR.slices
   obtain ⟨Av, av, rfl, _, _⟩ := oSl RR
   replace kZ := bk1 hbp kZ
   replace D := D.trans (hbp.mono D.size)
   clear hbp kB kC kF kO
   have HZ := Lib.hid (show ((wp.setCell ⟨w.heap.size + 1 + 1, 0, none⟩ (.slice A9 X1 a9)).setCell ⟨w.heap.size + 1 + 1, 1, none⟩ (.slice B9 X2 b9)).heap[w.heap.size + 1 + 1]? = some (.cells #[.slice A9 X1 a9, .slice B9 X2 b9] 30 (0, 0)) from zS1 (zS0 kZ))
   have HT := Lib.hid (tSk (i := 1) (u := .slice B9 X2 b9) (tSk (i := 0) (u := .slice A9 X1 a9) TR kZ (by decide)) (zS0 (u := .slice A9 X1 a9) kZ) (by decide))
   have HR := Lib.hid (oSk (i := 1) (u := .slice B9 X2 b9) (oSk (i := 0) (u := .slice A9 X1 a9) RR kZ (by decide)) (zS0 (u := .slice A9 X1 a9) kZ) (by decide))
   have HD := Lib.hid ((D.setCell (p := ⟨w.heap.size + 1 + 1, 0, none⟩) le2 (.slice A9 X1 a9)).setCell (p := ⟨w.heap.size + 1 + 1, 1, none⟩) le2 (.slice B9 X2 b9))
   obtain ⟨z0, z1, g0, g1⟩ := cz2 kZ
   clear kZ TR RR D
   go_wp2_with fail
   clear z0 z1
   obtain ⟨z0, z1, -⟩ := cz2 HZ.out
   refine bodyPost_ret (v := .tuple #[.agg #[.slice A9 X1 a9, .slice B9 X2 b9], .slice Av X3 av]) (by simp [results, Tryz.results20, go_sem, z0, z1]) rfl ⟨?_, HD.out⟩
   rw [show exL s' f false k sy ac id sd pr qt md za n zb m = plaR id ac pr qt md sd true za zb by rw [exL, if_pos (show whyA false f k sy ac id sd pr qt md za n zb m = 0 by rw [whyA, if_pos HCO.out, if_neg H67.out, whyN]; rw [if_neg (show ¬ (false = true) by decide), if_neg (fun h => H4.out h.1), if_neg (fun h => H5.out h.1), if_neg (fun h => H5.out h.1)]), doT, if_neg (fun h => H67.out (.inl h)), if_neg (fun h => H67.out (.inr h)), HRSV.out]]
   exact ⟨_, _, _, _, _, _, rfl, HT.out, HR.out⟩
 · have t1 : (k == 1) = false := by simp [h1]
   have HRSV := Lib.hid (show (decide (k = 1) || decide (k = 5)) = false by rw [decide_eq_false h1, decide_eq_false H5.out]; rfl)
   clear h1
   obtain ⟨p0, p1⟩ := rcell2 kB
   obtain ⟨c0, c1, c2, c3, c4, c5, c6, c7⟩ := cmd_cell kC
   go_wp2_with fail
   refine (spec_l4Place base A n c B m d za zb k sy ac id sd pr qt md sd false w3 TI (Nat.le_trans hbase D.size) HRG).mono ?_
   rintro e wp ⟨⟨t1, t2, t3, X1, X2, X3, rfl, TR, RR⟩, hbp⟩
   clear TI p0 p1 c0 c1 c2 c3 c4 c5 c6 c7
   obtain ⟨A9, a9, B9, b9, rfl, rfl⟩ := TR.slices
   obtain ⟨Av, av, rfl, _, _⟩ := oSl RR
   replace kZ := bk1 hbp kZ
   replace D := D.trans (hbp.mono D.size)
   clear hbp kB kC kF kO
   have HZ := Lib.hid (show ((wp.setCell ⟨w.heap.size + 1 + 1, 0, none⟩ (.slice A9 X1 a9)).setCell ⟨w.heap.size + 1 + 1, 1, none⟩ (.slice B9 X2 b9)).heap[w.heap.size + 1 + 1]? = some (.cells #[.slice A9 X1 a9, .slice B9 X2 b9] 30 (0, 0)) from zS1 (zS0 kZ))
   have HT := Lib.hid (tSk (i := 1) (u := .slice B9 X2 b9) (tSk (i := 0) (u := .slice A9 X1 a9) TR kZ (by decide)) (zS0 (u := .slice A9 X1 a9) kZ) (by decide))
   have HR := Lib.hid (oSk (i := 1) (u := .slice B9 X2 b9) (oSk (i := 0) (u := .slice A9 X1 a9) RR kZ (by decide)) (zS0 (u := .slice A9 X1 a9) kZ) (by decide))
   have HD := Lib.hid ((D.setCell (p := ⟨w.heap.size + 1 + 1, 0, none⟩) le2 (.slice A9 X1 a9)).setCell (p := ⟨w.heap.size + 1 + 1, 1, none⟩) le2 (.slice B9 X2 b9))
   obtain ⟨z0, z1, g0, g1⟩ := cz2 kZ
   clear kZ TR RR D
   go_wp2_with fail
   clear z0 z1
   obtain ⟨z0, z1, -⟩ := cz2 HZ.out
   refine bodyPost_ret (v := .tuple #[.agg #[.slice A9 X1 a9, .slice B9 X2 b9], .slice Av X3 av]) (by simp [results, Tryz.results20, go_sem, z0, z1]) rfl ⟨?_, HD.out⟩
   rw [show exL s' f false k sy ac id sd pr qt md za n zb m = plaR id ac pr qt md sd false za zb by rw [exL, if_pos (show whyA false f k sy ac id sd pr qt md za n zb m = 0 by rw [whyA, if_pos HCO.out, if_neg H67.out, whyN]; rw [if_neg (show ¬ (false = true) by decide), if_neg (fun h => H4.out h.1), if_neg (fun h => H5.out h.1), if_neg (fun h => H5.out h.1)]), doT, if_neg (fun h => H67.out (.inl h)), if_neg (fun h => H67.out (.inr h)), HRSV.out]]
   exact ⟨_, _, _, _, _, _, rfl, HT.out, HR.out⟩
end Go.Proofs.YtgjjdnojiegidaaGreatDoor
