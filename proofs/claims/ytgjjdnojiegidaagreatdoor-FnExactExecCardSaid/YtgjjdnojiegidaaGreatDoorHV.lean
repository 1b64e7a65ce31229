/-
 ExD, ExV, ExW, ExX.
-/
import Derived.Test.YtgjjdnojiegidaaGreatDoorTak
import Derived.Test.YtgjjdnojiegidaaGreatDoorHE
import Derived.Test.YtgjjdnojiegidaaGreatDoorHX
import Derived.Test.YtgjjdnojiegidaaGreatDoorGQ
import Derived.Test.YtgjjdnojiegidaaGreatDoorHI
namespace Go.Proofs.YtgjjdnojiegidaaGreatDoor
open Go.RowKit Wire
set_option maxHeartbeats 6400000
set_option maxRecDepth 100000
set_option linter.unusedSimpArgs false
set_option linter.unusedVariables false

theorem impl_performed (A : Option Addr) (n c : Nat) (B : Option Addr) (m d : Nat) (za zb : List Int) (k sy ac id sd pr qt md : Int) (w : World) (ha : Lst w w.heap.size 4 A n za) (hb : Lst w w.heap.size 4 B m zb) (hn : n ≤ 1048576) (hm : m ≤ 1048576) (s : Int) (f : Nat → Int) (ok : Bool) (HF : Hid (FindRel (bookB za n zb m) za n zb m id s f ok)) (HOK : Hid (k = 6 → ok = true))
 (HREP : k = 7 → ∀ wx : World, Lst wx wx.heap.size 4 A n za → Lst wx wx.heap.size 4 B m zb → Calls Tryz.prog 59 #[.agg #[.slice A n c, .slice B m d], .agg #[.int .i64 k, .int .i64 sy, .int .i64 ac, .int .i64 id, .int .i64 sd, .int .i64 pr, .int .i64 qt, .int .i64 md]] wx fun e w' => EAns w' wx.heap.size (doT s f k ac id sd pr qt md za n zb m) e ∧ Below wx.heap.size wx w')
 (HNEW : k ≠ 6 ∧ k ≠ 7 → rgB za n zb m sd id ac pr qt md = true ∧ ((k = 1 ∨ k = 5) → 1 ≤ pr)) :
 Calls Tryz.prog 27 #[.agg #[.slice A n c, .slice B m d], .agg #[.int .i64 k, .int .i64 sy, .int .i64 ac, .int .i64 id, .int .i64 sd, .int .i64 pr, .int .i64 qt, .int .i64 md]] w fun e w' => EAns w' w.heap.size (doT s f k ac id sd pr qt md za n zb m) e ∧ Below w.heap.size w w' := by
 obtain ⟨kB, kC, kZ⟩ := three_blocks w (.cells #[.slice A n c, .slice B m d] 30) (.cells #[.int .i64 k, .int .i64 sy, .int .i64 ac, .int .i64 id, .int .i64 sd, .int .i64 pr, .int .i64 qt, .int .i64 md] 35) (.cells #[.slice none 0 0, .slice none 0 0] 30)
 have D : Below w.heap.size w (((w.alloc (.cells #[.slice A n c, .slice B m d] 30)).alloc (.cells #[.int .i64 k, .int .i64 sy, .int .i64 ac, .int .i64 id, .int .i64 sd, .int .i64 pr, .int .i64 qt, .int .i64 md] 35)).alloc (.cells #[.slice none 0 0, .slice none 0 0] 30)) := (((Below.refl _ _).alloc (Nat.le_refl _) _).alloc (by simp) _).alloc (by simp; omega) _
 replace ha := ha.later D
 replace hb := hb.later D
 go_enter Tryz.func27, Tryz.ntmps27
 go_upto_region 1 with fail
 generalize (((w.alloc (.cells #[.slice A n c, .slice B m d] 30)).alloc (.cells #[.int .i64 k, .int .i64 sy, .int .i64 ac, .int .i64 id, .int .i64 sd, .int .i64 pr, .int .i64 qt, .int .i64 md] 35)).alloc (.cells #[.slice none 0 0, .slice none 0 0] 30)) = w0 at *
 obtain ⟨c0, c1, c2, c3, c4, c5, c6, c7⟩ := cmd_cell kC
 obtain ⟨p0, p1⟩ := rcell2 kB
 by_cases h6 : k = 6
 · have H6 := Lib.hid h6
   have t6 : (k == 6) = true := by simp [h6]
   clear h6
   go_wp2_with fail
   refine (impl_Find A n c B m d za zb id w0 ha hb hn hm).mono ?_
   rintro e w1 ⟨⟨s', f', ok', hrel, rfl⟩, hb1⟩
   obtain ⟨rfl, rfl, e0, e1, e2, e3⟩ := find_same HF.out hrel
   rw [e0, e1, e2, e3]
   clear e0 e1 e2 e3 hrel c0 c1 c2 c3 c4 c5 c6 c7 p0 p1
   replace ha := ha.later hb1
   replace hb := hb.later hb1
   replace kB := bk1 hb1 kB
   replace kC := bk1 hb1 kC
   replace kZ := bk1 hb1 kZ
   replace D := D.trans (hb1.mono D.size)
   clear hb1
   obtain ⟨f0, hf0⟩ : ∃ x, f 0 = x := ⟨_, rfl⟩
   obtain ⟨f1, hf1⟩ : ∃ x, f 1 = x := ⟨_, rfl⟩
   obtain ⟨f2, hf2⟩ : ∃ x, f 2 = x := ⟨_, rfl⟩
   obtain ⟨f3, hf3⟩ : ∃ x, f 3 = x := ⟨_, rfl⟩
   rw [hf0, hf1, hf2, hf3]
   have HF0 := Lib.hid hf0
   have HF1 := Lib.hid hf1
   have HF2 := Lib.hid hf2
   have HF3 := Lib.hid hf3
   clear hf0 hf1 hf2 hf3
   have hOK : ok' = true := HOK.out H6.out
   subst hOK
   go_upto_region 5 with fail
   have kF := heap_alloc_new w1 (.cells #[.int .i64 f0, .int .i64 f1, .int .i64 f2, .int .i64 f3] 65)
   have hba : Below w1.heap.size w1 (w1.alloc (.cells #[.int .i64 f0, .int .i64 f1, .int .i64 f2, .int .i64 f3] 65)) := (Below.refl _ _).alloc (Nat.le_refl _) _
   replace ha := ha.later hba
   replace hb := hb.later hba
   replace kB := bk1 hba kB
   replace kC := bk1 hba kC
   replace kZ := bk1 hba kZ
   replace D := D.trans (hba.mono D.size)
   clear hba
   generalize w1.alloc (.cells #[.int .i64 f0, .int .i64 f1, .int .i64 f2, .int .i64 f3] 65) = w2 at *
   generalize w1.heap.size = XF at *
   obtain ⟨c0, c1, c2, c3, c4, c5, c6, c7⟩ := cmd_cell kC
   obtain ⟨p0, p1⟩ := rcell2 kB
   go_wp2_with fail
   refine (impl_Taken A n c B m d za zb id w2 ha hb hn hm).mono ?_
   rintro e w3 ⟨⟨s2, f2', ok2, t1, t2, hrel, rfl, hwo⟩, hb3⟩
   obtain ⟨-, rfl, -, -, -, -⟩ := find_same HF.out hrel
   obtain ⟨ho1, ho2, hap⟩ := hwo
   simp only [if_true] at ho1 ho2
   have hx3 := D.size
   have hZ3 := hlT kZ
   clear hrel c0 c1 c2 c3 c4 c5 c6 c7 p0 p1
   replace ha := ha.later hb3
   replace hb := hb.later hb3
   replace kB := bk1 hb3 kB
   replace kC := bk1 hb3 kC
   replace kZ := bk1 hb3 kZ
   replace D := D.trans (hb3.mono D.size)
   replace kF := bk1 hb3 kF
   have hsz := hb3.size
   have TT := (show TwoRows w3 _ t1 _ _ t2 _ _ from ⟨ho1, ho2, hap⟩).mono hx3
   clear hb3 ho1 ho2 hap hx3
   obtain ⟨A9, a9, B9, b9, rfl, rfl⟩ := TT.slices
   go_upto_region 6 with fail
   have kN := heap_alloc_new w3 (.cells #[.slice A9 (tkN za id n) a9, .slice B9 (tkN zb id m) b9] 30)
   have hba : Below w3.heap.size w3 (w3.alloc (.cells #[.slice A9 (tkN za id n) a9, .slice B9 (tkN zb id m) b9] 30)) := (Below.refl _ _).alloc (Nat.le_refl _) _
   replace kZ := bk1 hba kZ
   replace D := D.trans (hba.mono D.size)
   replace kF := bk1 hba kF
   replace TT := TT.below hba
   clear hba kB kC ha hb
   have hNZ : w3.heap.size ≠ w.heap.size + 1 + 1 := by omega
   generalize w3.alloc (.cells #[.slice A9 (tkN za id n) a9, .slice B9 (tkN zb id m) b9] 30) = w4 at *
   generalize w3.heap.size = XN at *
   refine wp_region_held_drew (S := (fun w' => w'.heap[XN]? = some (.cells #[.slice A9 (tkN za id n) a9, .slice B9 (tkN zb id m) b9] 30 (0, 0)) ∧ w'.heap[XF]? = some (.cells #[.int .i64 f0, .int .i64 f1, .int .i64 f2, .int .i64 f3] 65 (0, 0)))) (by kernel_rfl) ?hSm57 (fun zH => ?restm57)
   case hSm57 => exact ⟨kN, kF⟩
   refine tkY 0 (hy := by ((intro wS hSw; obtain ⟨t0, t1⟩ := rcell2 hSw.1; go_simp) <;> with_reducible rfl)) (h := ?_)
   refine tkY 1 (hy := by ((intro wS hSw; obtain ⟨t0, t1, t2, t3⟩ := rrcell4 hSw.2; go_simp) <;> with_reducible rfl)) (h := ?_)
   refine rd1 2 (fun K hK => ?_)
   replace D := D.drew
   replace TT := TT.below (Below.refl _ _).drew
   go_simp
   refine (impl_orderRec 4 f0 f1 f2 f3 _).mono ?_
   rintro e v5 ⟨rfl, hb5⟩
   replace kN := bk1 hb5 kN
   replace kF := bk1 hb5 kF
   replace kZ := bk1 hb5 kZ
   replace D := D.trans (hb5.mono D.size)
   replace TT := TT.below hb5
   clear hb5
   refine hK.out _ _ (⟨kN, kF⟩) (fun zH => ?_)
   clear hK K
   try simp only [Act.put, sA, sB, sC]
   refine wpAnyH_ready (rs := [3, 4]) (by kernel_rfl) (by simp) ?_
   refine AllReadyH.cons (o := ?or61_3) ?hor61_3 (fun K hK => ?stepr61_3) (AllReadyH.cons (o := ?or61_4) ?hor61_4 (fun K hK => ?stepr61_4) (AllReadyH.nil))
   case hor61_3 => simp only [gA, gB, gC]; exact rfl
   case hor61_4 => simp only [gA, gB, gC]; exact rfl
   case stepr61_3 =>
    go_simp
    have RA : (v5.alloc (.cells #[.int .i64 0, .int .i64 4, .int .i64 0, .int .i64 f1, .int .i64 f0, .int .i64 0, .int .i64 f2, .int .i64 f3] 48)).ownsRow w.heap.size 48 8 (.slice (some ⟨v5.heap.size, 0, none⟩) 1 1) 1 (nums (canR f0 f1 f2 f3)) := ⟨rfl, .inr ⟨v5.heap.size, 1, #[.int .i64 0, .int .i64 4, .int .i64 0, .int .i64 f1, .int .i64 f0, .int .i64 0, .int .i64 f2, .int .i64 f3], rfl, D.size, heap_alloc_new v5 (.cells #[.int .i64 0, .int .i64 4, .int .i64 0, .int .i64 f1, .int .i64 f0, .int .i64 0, .int .i64 f2, .int .i64 f3] 48), Nat.le_refl _, by unfold maxLen; omega, rfl, rfl⟩⟩
    have hba : Below v5.heap.size v5 (v5.alloc (.cells #[.int .i64 0, .int .i64 4, .int .i64 0, .int .i64 f1, .int .i64 f0, .int .i64 0, .int .i64 f2, .int .i64 f3] 48)) := (Below.refl _ _).alloc (Nat.le_refl _) _
    replace kN := bk1 hba kN
    replace kF := bk1 hba kF
    replace kZ := bk1 hba kZ
    replace D := D.trans (hba.mono D.size)
    replace TT := TT.below hba
    clear hba
    generalize v5.alloc (.cells #[.int .i64 0, .int .i64 4, .int .i64 0, .int .i64 f1, .int .i64 f0, .int .i64 0, .int .i64 f2, .int .i64 f3] 48) = v6 at *
    generalize hxr : v5.heap.size = xr at RA
    have HXR := Lib.hid (show v5.heap.size = xr by simpa [World.setCell] using hxr)
    clear hxr
    refine hK.out _ _ (⟨kN, kF⟩) (fun zH => ?_)
    clear hK K
    try simp only [Act.put, sA, sB, sC]
    refine rd1 4 (fun K hK => ?_)
    obtain ⟨z0, z1, g0, g1⟩ := cz2 kZ
    go_simp
    clear z0 z1 g0 g1
    replace TT := tSk (i := 1) (u := .slice B9 (tkN zb id m) b9) (tSk (i := 0) (u := .slice A9 (tkN za id n) a9) TT kZ (by decide)) (zS0 (u := .slice A9 (tkN za id n) a9) kZ) (by decide)
    replace RA := oSk (i := 1) (u := .slice B9 (tkN zb id m) b9) (oSk (i := 0) (u := .slice A9 (tkN za id n) a9) RA kZ (by decide)) (zS0 (u := .slice A9 (tkN za id n) a9) kZ) (by decide)
    replace D := (D.setCell (p := ⟨w.heap.size + 1 + 1, 0, none⟩) le2 (.slice A9 (tkN za id n) a9)).setCell (p := ⟨w.heap.size + 1 + 1, 1, none⟩) le2 (.slice B9 (tkN zb id m) b9)
    have nF := ne_kind kF kZ (by decide)
    replace kF := mSo (i := 1) (u := .slice B9 (tkN zb id m) b9) (mSo (i := 0) (u := .slice A9 (tkN za id n) a9) kF nF) nF
    replace kN := mSo (i := 1) (u := .slice B9 (tkN zb id m) b9) (mSo (i := 0) (u := .slice A9 (tkN za id n) a9) kN hNZ) hNZ
    have kZ' := zS1 (u := .slice B9 (tkN zb id m) b9) (zS0 (u := .slice A9 (tkN za id n) a9) kZ)
    clear kZ nF
    have kZ := kZ'
    clear kZ'
    refine hK.out _ _ (⟨kN, kF⟩) (fun zH => ?_)
    clear hK K
    try simp only [Act.put, sA, sB, sC]
    refine tkV 5 ?_
    refine dn1 ?_
    generalize ((v6.setCell ⟨w.heap.size + 1 + 1, 0, none⟩ (.slice A9 (tkN za id n) a9)).setCell ⟨w.heap.size + 1 + 1, 1, none⟩ (.slice B9 (tkN zb id m) b9)) = wf at *
    have HR := Lib.hid RA
    have HT := Lib.hid TT
    have HD := Lib.hid D
    have HZ := Lib.hid kZ
    clear zH kN kF kZ RA TT D
    go_wp2_with fail
    obtain ⟨z0, z1, -⟩ := cz2 HZ.out
    refine bodyPost_ret (v := .tuple #[.agg #[.slice A9 (tkN za id n) a9, .slice B9 (tkN zb id m) b9], .slice (some ⟨xr, 0, none⟩) 1 1]) (by simp [results, Tryz.results27, go_sem, z0, z1, HXR.out]) rfl ⟨?_, HD.out⟩
    rw [show doT s' f k ac id sd pr qt md za n zb m = (tkZ za id n, tkZ zb id m, canR f0 f1 f2 f3) by rw [doT, if_pos H6.out, HF0.out, HF1.out, HF2.out, HF3.out]]
    exact ⟨_, _, _, _, _, _, rfl, HT.out, HR.out⟩
   case stepr61_4 =>
    obtain ⟨z0, z1, g0, g1⟩ := cz2 kZ
    go_simp
    clear z0 z1 g0 g1
    replace TT := tSk (i := 1) (u := .slice B9 (tkN zb id m) b9) (tSk (i := 0) (u := .slice A9 (tkN za id n) a9) TT kZ (by decide)) (zS0 (u := .slice A9 (tkN za id n) a9) kZ) (by decide)
    replace D := (D.setCell (p := ⟨w.heap.size + 1 + 1, 0, none⟩) le2 (.slice A9 (tkN za id n) a9)).setCell (p := ⟨w.heap.size + 1 + 1, 1, none⟩) le2 (.slice B9 (tkN zb id m) b9)
    have nF := ne_kind kF kZ (by decide)
    replace kF := mSo (i := 1) (u := .slice B9 (tkN zb id m) b9) (mSo (i := 0) (u := .slice A9 (tkN za id n) a9) kF nF) nF
    replace kN := mSo (i := 1) (u := .slice B9 (tkN zb id m) b9) (mSo (i := 0) (u := .slice A9 (tkN za id n) a9) kN hNZ) hNZ
    have kZ' := zS1 (u := .slice B9 (tkN zb id m) b9) (zS0 (u := .slice A9 (tkN za id n) a9) kZ)
    clear kZ nF
    have kZ := kZ'
    clear kZ'
    refine hK.out _ _ (⟨kN, kF⟩) (fun zH => ?_)
    clear hK K
    try simp only [Act.put, sA, sB, sC]
    refine rd1 3 (fun K hK => ?_)
    go_simp
    have RA : (((v5.setCell ⟨w.heap.size + 1 + 1, 0, none⟩ (.slice A9 (tkN za id n) a9)).setCell ⟨w.heap.size + 1 + 1, 1, none⟩ (.slice B9 (tkN zb id m) b9)).alloc (.cells #[.int .i64 0, .int .i64 4, .int .i64 0, .int .i64 f1, .int .i64 f0, .int .i64 0, .int .i64 f2, .int .i64 f3] 48)).ownsRow w.heap.size 48 8 (.slice (some ⟨((v5.setCell ⟨w.heap.size + 1 + 1, 0, none⟩ (.slice A9 (tkN za id n) a9)).setCell ⟨w.heap.size + 1 + 1, 1, none⟩ (.slice B9 (tkN zb id m) b9)).heap.size, 0, none⟩) 1 1) 1 (nums (canR f0 f1 f2 f3)) := ⟨rfl, .inr ⟨((v5.setCell ⟨w.heap.size + 1 + 1, 0, none⟩ (.slice A9 (tkN za id n) a9)).setCell ⟨w.heap.size + 1 + 1, 1, none⟩ (.slice B9 (tkN zb id m) b9)).heap.size, 1, #[.int .i64 0, .int .i64 4, .int .i64 0, .int .i64 f1, .int .i64 f0, .int .i64 0, .int .i64 f2, .int .i64 f3], rfl, D.size, heap_alloc_new ((v5.setCell ⟨w.heap.size + 1 + 1, 0, none⟩ (.slice A9 (tkN za id n) a9)).setCell ⟨w.heap.size + 1 + 1, 1, none⟩ (.slice B9 (tkN zb id m) b9)) (.cells #[.int .i64 0, .int .i64 4, .int .i64 0, .int .i64 f1, .int .i64 f0, .int .i64 0, .int .i64 f2, .int .i64 f3] 48), Nat.le_refl _, by unfold maxLen; omega, rfl, rfl⟩⟩
    have hba : Below ((v5.setCell ⟨w.heap.size + 1 + 1, 0, none⟩ (.slice A9 (tkN za id n) a9)).setCell ⟨w.heap.size + 1 + 1, 1, none⟩ (.slice B9 (tkN zb id m) b9)).heap.size ((v5.setCell ⟨w.heap.size + 1 + 1, 0, none⟩ (.slice A9 (tkN za id n) a9)).setCell ⟨w.heap.size + 1 + 1, 1, none⟩ (.slice B9 (tkN zb id m) b9)) (((v5.setCell ⟨w.heap.size + 1 + 1, 0, none⟩ (.slice A9 (tkN za id n) a9)).setCell ⟨w.heap.size + 1 + 1, 1, none⟩ (.slice B9 (tkN zb id m) b9)).alloc (.cells #[.int .i64 0, .int .i64 4, .int .i64 0, .int .i64 f1, .int .i64 f0, .int .i64 0, .int .i64 f2, .int .i64 f3] 48)) := (Below.refl _ _).alloc (Nat.le_refl _) _
    replace kN := bk1 hba kN
    replace kF := bk1 hba kF
    replace kZ := bk1 hba kZ
    replace D := D.trans (hba.mono D.size)
    replace TT := TT.below hba
    clear hba
    generalize ((v5.setCell ⟨w.heap.size + 1 + 1, 0, none⟩ (.slice A9 (tkN za id n) a9)).setCell ⟨w.heap.size + 1 + 1, 1, none⟩ (.slice B9 (tkN zb id m) b9)).alloc (.cells #[.int .i64 0, .int .i64 4, .int .i64 0, .int .i64 f1, .int .i64 f0, .int .i64 0, .int .i64 f2, .int .i64 f3] 48) = v6 at *
    generalize hxr : ((v5.setCell ⟨w.heap.size + 1 + 1, 0, none⟩ (.slice A9 (tkN za id n) a9)).setCell ⟨w.heap.size + 1 + 1, 1, none⟩ (.slice B9 (tkN zb id m) b9)).heap.size = xr at RA
    have HXR := Lib.hid (show v5.heap.size = xr by simpa [World.setCell] using hxr)
    clear hxr
    refine hK.out _ _ (⟨kN, kF⟩) (fun zH => ?_)
    clear hK K
    try simp only [Act.put, sA, sB, sC]
    refine tkV 5 ?_
    refine dn1 ?_
    generalize v6 = wf at *
    have HR := Lib.hid RA
    have HT := Lib.hid TT
    have HD := Lib.hid D
    have HZ := Lib.hid kZ
    clear zH kN kF kZ RA TT D
    go_wp2_with fail
    obtain ⟨z0, z1, -⟩ := cz2 HZ.out
    refine bodyPost_ret (v := .tuple #[.agg #[.slice A9 (tkN za id n) a9, .slice B9 (tkN zb id m) b9], .slice (some ⟨xr, 0, none⟩) 1 1]) (by simp [results, Tryz.results27, go_sem, z0, z1, HXR.out]) rfl ⟨?_, HD.out⟩
    rw [show doT s' f k ac id sd pr qt md za n zb m = (tkZ za id n, tkZ zb id m, canR f0 f1 f2 f3) by rw [doT, if_pos H6.out, HF0.out, HF1.out, HF2.out, HF3.out]]
    exact ⟨_, _, _, _, _, _, rfl, HT.out, HR.out⟩
 by_cases h7 : k = 7
 · have t6 : (k == 6) = false := by simp [h6]
   have t7 : (k == 7) = true := by simp [h7]
   have HC7 := Lib.hid (HREP h7)
   clear h6 h7 HREP
   go_wp2_with fail
   refine (HC7.out w0 ha hb).mono ?_
   rintro e wp ⟨⟨t1, t2, t3, X1, X2, X3, rfl, TR, RR⟩, hbp⟩
   clear p0 p1 c0 c1 c2 c3 c4 c5 c6 c7 ha hb
   obtain ⟨A9, a9, B9, b9, rfl, rfl⟩ := TR.slices
   obtain ⟨Av, av, rfl, _, _⟩ := oSl RR
   replace kZ := bk1 hbp kZ
   have hwb := D.size
   replace D := D.trans (hbp.mono D.size)
   clear hbp kB kC
   have HZ := Lib.hid (show ((wp.setCell ⟨w.heap.size + 1 + 1, 0, none⟩ (.slice A9 X1 a9)).setCell ⟨w.heap.size + 1 + 1, 1, none⟩ (.slice B9 X2 b9)).heap[w.heap.size + 1 + 1]? = some (.cells #[.slice A9 X1 a9, .slice B9 X2 b9] 30 (0, 0)) from zS1 (zS0 kZ))
   have HT := Lib.hid (tSk (i := 1) (u := .slice B9 X2 b9) (tSk (i := 0) (u := .slice A9 X1 a9) TR kZ (by decide)) (zS0 (u := .slice A9 X1 a9) kZ) (by decide))
   have HR := Lib.hid (oSk (i := 1) (u := .slice B9 X2 b9) (oSk (i := 0) (u := .slice A9 X1 a9) RR kZ (by decide)) (zS0 (u := .slice A9 X1 a9) kZ) (by decide))
   have HD := Lib.hid ((D.setCell (p := ⟨w.heap.size + 1 + 1, 0, none⟩) le2 (.slice A9 X1 a9)).setCell (p := ⟨w.heap.size + 1 + 1, 1, none⟩) le2 (.slice B9 X2 b9))
   obtain ⟨z0, z1, g0, g1⟩ := cz2 kZ
   clear kZ TR RR D
   go_wp2_with fail
   clear z0 z1
   obtain ⟨z0, z1, -⟩ := cz2 HZ.out
   refine bodyPost_ret (v := .tuple #[.agg #[.slice A9 X1 a9, .slice B9 X2 b9], .slice Av X3 av]) (by simp [results, Tryz.results27, go_sem, z0, z1]) rfl ⟨?_, HD.out⟩
   exact ⟨_, _, _, _, _, _, rfl, HT.out.mono hwb, oMn HR.out hwb⟩
 have t6 : (k == 6) = false := by simp [h6]
 have t7 : (k == 7) = false := by simp [h7]
 have HNE := Lib.hid (HNEW ⟨h6, h7⟩)
 have H67 := Lib.hid (And.intro h6 h7)
 clear h6 h7 HREP HNEW
 go_wp2_with fail
 refine (impl_entered A n c B m d za zb k sy ac id sd pr qt md w0 ha hb hn hm (Lib.hid HNE.out.1) (Lib.hid HNE.out.2)).mono ?_
 rintro e wp ⟨⟨t1, t2, t3, X1, X2, X3, rfl, TR, RR⟩, hbp⟩
 clear p0 p1 c0 c1 c2 c3 c4 c5 c6 c7 ha hb
 obtain ⟨A9, a9, B9, b9, rfl, rfl⟩ := TR.slices
 obtain ⟨Av, av, rfl, _, _⟩ := oSl RR
 replace kZ := bk1 hbp kZ
 have hwb := D.size
 replace D := D.trans (hbp.mono D.size)
 clear hbp kB kC
 have HZ := Lib.hid (show ((wp.setCell ⟨w.heap.size + 1 + 1, 0, none⟩ (.slice A9 X1 a9)).setCell ⟨w.heap.size + 1 + 1, 1, none⟩ (.slice B9 X2 b9)).heap[w.heap.size + 1 + 1]? = some (.cells #[.slice A9 X1 a9, .slice B9 X2 b9] 30 (0, 0)) from zS1 (zS0 kZ))
 have HT := Lib.hid (tSk (i := 1) (u := .slice B9 X2 b9) (tSk (i := 0) (u := .slice A9 X1 a9) TR kZ (by decide)) (zS0 (u := .slice A9 X1 a9) kZ) (by decide))
 have HR := Lib.hid (oSk (i := 1) (u := .slice B9 X2 b9) (oSk (i := 0) (u := .slice A9 X1 a9) RR kZ (by decide)) (zS0 (u := .slice A9 X1 a9) kZ) (by decide))
 have HD := Lib.hid ((D.setCell (p := ⟨w.heap.size + 1 + 1, 0, none⟩) le2 (.slice A9 X1 a9)).setCell (p := ⟨w.heap.size + 1 + 1, 1, none⟩) le2 (.slice B9 X2 b9))
 obtain ⟨z0, z1, g0, g1⟩ := cz2 kZ
 clear kZ TR RR D
 go_wp2_with fail
 clear z0 z1
 obtain ⟨z0, z1, -⟩ := cz2 HZ.out
 refine bodyPost_ret (v := .tuple #[.agg #[.slice A9 X1 a9, .slice B9 X2 b9], .slice Av X3 av]) (by simp [results, Tryz.results27, go_sem, z0, z1]) rfl ⟨?_, HD.out⟩
 rw [doT, if_neg H67.out.1, if_neg H67.out.2]
 exact ⟨_, _, _, _, _, _, rfl, HT.out.mono hwb, oMn HR.out hwb⟩
end Go.Proofs.YtgjjdnojiegidaaGreatDoor

namespace Go.Proofs.YtgjjdnojiegidaaGreatDoor
open Go.RowKit Wire
set_option maxHeartbeats 6400000
set_option maxRecDepth 100000
set_option linter.unusedSimpArgs false
set_option linter.unusedVariables false

theorem cset0 {w : World} {S : Nat} {k0 k1 k2 k3 k4 k5 k6 k7 u : Value} {T : TypeId} (h : w.heap[S]? = some (.cells #[k0, k1, k2, k3, k4, k5, k6, k7] T (0, 0))) : (w.setCell ⟨S, 0, none⟩ u).heap[S]? = some (.cells #[u, k1, k2, k3, k4, k5, k6, k7] T (0, 0)) := by
 simp [World.setCell, Array.getElem?_modify, h]
theorem cset4 {w : World} {S : Nat} {k0 k1 k2 k3 k4 k5 k6 k7 u : Value} {T : TypeId} (h : w.heap[S]? = some (.cells #[k0, k1, k2, k3, k4, k5, k6, k7] T (0, 0))) : (w.setCell ⟨S, 4, none⟩ u).heap[S]? = some (.cells #[k0, k1, k2, k3, u, k5, k6, k7] T (0, 0)) := by
 simp [World.setCell, Array.getElem?_modify, h]
theorem impl_replaced (A : Option Addr) (n c : Nat) (B : Option Addr) (m d : Nat) (za zb : List Int) (sy ac id sd pr qt md : Int) (w : World) (ha : Lst w w.heap.size 4 A n za) (hb : Lst w w.heap.size 4 B m zb) (hn : n ≤ 1048576) (hm : m ≤ 1048576) (s : Int) (f : Nat → Int) (HF : Hid (FindRel (bookB za n zb m) za n zb m id s f true)) (HRG2 : Hid (rgB (tkZ za id n) (tkN za id n) (tkZ zb id m) (tkN zb id m) s id ac pr qt md = true)) (HPR : Hid (1 ≤ pr)) (HLN : Hid ((plaR id ac pr qt md s true (tkZ za id n) (tkZ zb id m)).2.2.length ≤ 8000000))
 (HRED : Hid (pr = f 2 → ∀ wx : World, Lst wx wx.heap.size 4 A n za → Lst wx wx.heap.size 4 B m zb → Calls Tryz.prog 88 #[.agg #[.slice A n c, .slice B m d], .int .i64 s, .agg #[.int .i64 id, .int .i64 ac, .int .i64 pr, .int .i64 qt]] wx fun e w' => (∃ v1 v2, e = .returned (.agg #[v1, v2]) ∧ TwoRows w' wx.heap.size v1 n (rdZ za id qt n) v2 m (rdZ zb id qt m)) ∧ Below wx.heap.size wx w')) :
 Calls Tryz.prog 59 #[.agg #[.slice A n c, .slice B m d], .agg #[.int .i64 7, .int .i64 sy, .int .i64 ac, .int .i64 id, .int .i64 sd, .int .i64 pr, .int .i64 qt, .int .i64 md]] w fun e w' => EAns w' w.heap.size (doT s f 7 ac id sd pr qt md za n zb m) e ∧ Below w.heap.size w w' := by
 obtain ⟨kB, kC, kZ⟩ := three_blocks w (.cells #[.slice A n c, .slice B m d] 30) (.cells #[.int .i64 7, .int .i64 sy, .int .i64 ac, .int .i64 id, .int .i64 sd, .int .i64 pr, .int .i64 qt, .int .i64 md] 35) (.cells #[.slice none 0 0, .slice none 0 0] 30)
 have D : Below w.heap.size w (((w.alloc (.cells #[.slice A n c, .slice B m d] 30)).alloc (.cells #[.int .i64 7, .int .i64 sy, .int .i64 ac, .int .i64 id, .int .i64 sd, .int .i64 pr, .int .i64 qt, .int .i64 md] 35)).alloc (.cells #[.slice none 0 0, .slice none 0 0] 30)) := (((Below.refl _ _).alloc (Nat.le_refl _) _).alloc (by simp) _).alloc (by simp; omega) _
 replace ha := ha.later D
 replace hb := hb.later D
 go_enter Tryz.func59, Tryz.ntmps59
 go_upto_region 1 with fail
 generalize (((w.alloc (.cells #[.slice A n c, .slice B m d] 30)).alloc (.cells #[.int .i64 7, .int .i64 sy, .int .i64 ac, .int .i64 id, .int .i64 sd, .int .i64 pr, .int .i64 qt, .int .i64 md] 35)).alloc (.cells #[.slice none 0 0, .slice none 0 0] 30)) = w0 at *
 obtain ⟨c0, c1, c2, c3, c4, c5, c6, c7⟩ := cmd_cell kC
 obtain ⟨p0, p1⟩ := rcell2 kB
 go_wp2_with fail
 refine (impl_Find A n c B m d za zb id w0 ha hb hn hm).mono ?_
 rintro e w1 ⟨⟨s', f', ok', hrel, rfl⟩, hb1⟩
 obtain ⟨rfl, rfl, e0, e1, e2, e3⟩ := find_same HF.out hrel
 rw [e0, e1, e2, e3]
 clear e0 e1 e2 e3 hrel c0 c1 c2 c3 c4 c5 c6 c7 p0 p1
 replace ha := ha.later hb1
 replace hb := hb.later hb1
 replace kB := bk1 hb1 kB
 replace kC := bk1 hb1 kC
 replace kZ := bk1 hb1 kZ
 replace D := D.trans (hb1.mono D.size)
 clear hb1
 obtain ⟨f0, hf0⟩ : ∃ x, f 0 = x := ⟨_, rfl⟩
 obtain ⟨f1, hf1⟩ : ∃ x, f 1 = x := ⟨_, rfl⟩
 obtain ⟨f2, hf2⟩ : ∃ x, f 2 = x := ⟨_, rfl⟩
 obtain ⟨f3, hf3⟩ : ∃ x, f 3 = x := ⟨_, rfl⟩
 rw [hf0, hf1, hf2, hf3]
 have HF0 := Lib.hid hf0
 have HF1 := Lib.hid hf1
 have HF2 := Lib.hid hf2
 have HF3 := Lib.hid hf3
 clear hf0 hf1 hf2 hf3
 go_upto_region 2 with fail
 have kF := heap_alloc_new w1 (.cells #[.int .i64 f0, .int .i64 f1, .int .i64 f2, .int .i64 f3] 65)
 have hba : Below w1.heap.size w1 (w1.alloc (.cells #[.int .i64 f0, .int .i64 f1, .int .i64 f2, .int .i64 f3] 65)) := (Below.refl _ _).alloc (Nat.le_refl _) _
 replace ha := ha.later hba
 replace hb := hb.later hba
 replace kB := bk1 hba kB
 replace kC := bk1 hba kC
 replace kZ := bk1 hba kZ
 replace D := D.trans (hba.mono D.size)
 clear hba
 generalize w1.alloc (.cells #[.int .i64 f0, .int .i64 f1, .int .i64 f2, .int .i64 f3] 65) = w2 at *
 generalize w1.heap.size = XF at *
 obtain ⟨o0, o1, o2, o3⟩ := rrcell4 kF
 go_wp2_with fail
 refine (impl_orderRec 4 f0 f1 f2 f3 w2).mono ?_
 rintro e w3 ⟨rfl, hb3⟩
 clear o0 o1 o2 o3
 replace ha := ha.later hb3
 replace hb := hb.later hb3
 replace kB := bk1 hb3 kB
 replace kC := bk1 hb3 kC
 replace kZ := bk1 hb3 kZ
 replace D := D.trans (hb3.mono D.size)
 replace kF := bk1 hb3 kF
 clear hb3
 go_upto_region 3 with fail
 have kG := heap_alloc_new w3 (.cells #[.int .i64 0, .int .i64 4, .int .i64 0, .int .i64 f1, .int .i64 f0, .int .i64 0, .int .i64 f2, .int .i64 f3] 48)
 have hba : Below w3.heap.size w3 (w3.alloc (.cells #[.int .i64 0, .int .i64 4, .int .i64 0, .int .i64 f1, .int .i64 f0, .int .i64 0, .int .i64 f2, .int .i64 f3] 48)) := (Below.refl _ _).alloc (Nat.le_refl _) _
 have hzG : w.heap.size + 1 + 1 < w3.heap.size := hlT kZ
 replace ha := ha.later hba
 replace hb := hb.later hba
 replace kB := bk1 hba kB
 replace kC := bk1 hba kC
 replace kZ := bk1 hba kZ
 replace D := D.trans (hba.mono D.size)
 replace kF := bk1 hba kF
 clear hba
 generalize w3.alloc (.cells #[.int .i64 0, .int .i64 4, .int .i64 0, .int .i64 f1, .int .i64 f0, .int .i64 0, .int .i64 f2, .int .i64 f3] 48) = w4 at *
 generalize w3.heap.size = XG at *
 obtain ⟨c0, c1, c2, c3, c4, c5, c6, c7⟩ := cmd_cell kC
 obtain ⟨o0, o1, o2, o3⟩ := rrcell4 kF
 by_cases hp : pr = f2
 · have HP := Lib.hid hp
   have tp : (pr == f2) = true := by simp [hp]
   by_cases hq : qt ≤ f3
   · have HQ := Lib.hid hq
     have tq : decide (qt ≤ f3) = true := decide_eq_true hq
     clear hp hq
     go_upto_region 4 with fail
     clear o0 o1 o2 o3 c0 c1 c2 c3 c4 c5 c6 c7
     refine wp_region_held_drew (S := (fun w' => w'.heap[w.heap.size]? = some (.cells #[.slice A n c, .slice B m d] 30 (0, 0)) ∧ w'.heap[w.heap.size + 1]? = some (.cells #[.int .i64 7, .int .i64 sy, .int .i64 ac, .int .i64 id, .int .i64 sd, .int .i64 pr, .int .i64 qt, .int .i64 md] 35 (0, 0)) ∧ w'.heap[XG]? = some (.cells #[.int .i64 0, .int .i64 4, .int .i64 0, .int .i64 f1, .int .i64 f0, .int .i64 0, .int .i64 f2, .int .i64 f3] 48 (0, 0)))) (by kernel_rfl) ?hSm57 (fun zH => ?restm57)
     case hSm57 => exact ⟨kB, kC, kG⟩
     refine tkY 0 (hy := by ((intro wS hSw; obtain ⟨t0, t1⟩ := rcell2 hSw.1; go_simp) <;> with_reducible rfl)) (h := ?_)
     refine tkV 1 ?_
     refine tkY 2 (hy := by ((intro wS hSw; obtain ⟨t0, t1, t2, t3, t4, t5, t6, t7⟩ := cmd_cell hSw.2.1; go_simp) <;> with_reducible rfl)) (h := ?_)
     refine tkY 5 (hy := by ((intro wS hSw; obtain ⟨t0, t1, t2, t3, t4, t5, t6, t7⟩ := cmd_cell hSw.2.2; go_simp) <;> with_reducible rfl)) (h := ?_)
     refine tkY 6 (hy := by ((intro wS hSw; obtain ⟨t0, t1, t2, t3, t4, t5, t6, t7⟩ := cmd_cell hSw.2.1; go_simp) <;> with_reducible rfl)) (h := ?_)
     refine rd1 3 (fun K hK => ?_)
     replace D := D.drew
     replace ha : Lst _ (World.drew _).heap.size 4 A n za := ha.later (Below.refl _ _).drew
     replace hb : Lst _ (World.drew _).heap.size 4 B m zb := hb.later (Below.refl _ _).drew
     go_simp
     refine (impl_orderOf 7 sy ac id sd pr qt md _).mono ?_
     rintro e v3 ⟨rfl, hb5⟩
     replace ha := ha.later hb5
     replace hb := hb.later hb5
     replace kB := bk1 hb5 kB
     replace kC := bk1 hb5 kC
     replace kG := bk1 hb5 kG
     replace kZ := bk1 hb5 kZ
     replace D := D.trans (hb5.mono D.size)
     clear hb5
     refine hK.out _ _ (⟨kB, kC, kG⟩) (fun zH => ?_)
     clear hK K
     try simp only [Act.put, sA, sB, sC]
     refine rd1 4 (fun K hK => ?_)
     go_simp
     refine (HRED.out (by rw [HF2.out]; exact HP.out) v3 ha hb).mono ?_
     rintro e v4 ⟨⟨t1, t2, rfl, TT⟩, hb5⟩
     have hx4 := D.size
     replace ha := ha.later hb5
     replace hb := hb.later hb5
     replace kB := bk1 hb5 kB
     replace kC := bk1 hb5 kC
     replace kG := bk1 hb5 kG
     replace kZ := bk1 hb5 kZ
     replace D := D.trans (hb5.mono D.size)
     replace TT := TT.mono hx4
     clear hb5 hx4
     obtain ⟨A9, a9, B9, b9, rfl, rfl⟩ := TT.slices
     refine hK.out _ _ (⟨kB, kC, kG⟩) (fun zH => ?_)
     clear hK K
     try simp only [Act.put, sA, sB, sC]
     refine rd1 7 (fun K hK => ?_)
     go_simp
     refine (impl_orderOf 7 sy ac id sd pr qt md _).mono ?_
     rintro e v7 ⟨rfl, hb5⟩
     replace ha := ha.later hb5
     replace hb := hb.later hb5
     replace kB := bk1 hb5 kB
     replace kC := bk1 hb5 kC
     replace kG := bk1 hb5 kG
     replace kZ := bk1 hb5 kZ
     replace D := D.trans (hb5.mono D.size)
     replace TT := TT.below hb5
     clear hb5
     refine hK.out _ _ (⟨kB, kC, kG⟩) (fun zH => ?_)
     clear hK K
     try simp only [Act.put, sA, sB, sC]
     refine rd1 8 (fun K hK => ?_)
     go_simp
     refine (impl_orderRec 1 id ac pr qt _).mono ?_
     rintro e v8 ⟨rfl, hb5⟩
     replace ha := ha.later hb5
     replace hb := hb.later hb5
     replace kB := bk1 hb5 kB
     replace kC := bk1 hb5 kC
     replace kG := bk1 hb5 kG
     replace kZ := bk1 hb5 kZ
     replace D := D.trans (hb5.mono D.size)
     replace TT := TT.below hb5
     clear hb5
     refine hK.out _ _ (⟨kB, kC, kG⟩) (fun zH => ?_)
     clear hK K
     try simp only [Act.put, sA, sB, sC]
     refine wpAnyH_ready (rs := [9, 10]) (by kernel_rfl) (by simp) ?_
     refine AllReadyH.cons (o := ?or67_9) ?hor67_9 (fun K hK => ?stepr67_9) (AllReadyH.cons (o := ?or67_10) ?hor67_10 (fun K hK => ?stepr67_10) (AllReadyH.nil))
     case hor67_9 => simp only [gA, gB, gC]; exact rfl
     case hor67_10 => simp only [gA, gB, gC]; exact rfl
     case stepr67_9 =>
      go_simp
      have RA : (v8.alloc (.cells #[.int .i64 0, .int .i64 4, .int .i64 0, .int .i64 f1, .int .i64 f0, .int .i64 0, .int .i64 f2, .int .i64 f3, .int .i64 0, .int .i64 1, .int .i64 0, .int .i64 ac, .int .i64 id, .int .i64 0, .int .i64 pr, .int .i64 qt] 48)).ownsRow w.heap.size 48 8 (.slice (some ⟨v8.heap.size, 0, none⟩) 2 2) 2 (nums (canR f0 f1 f2 f3 ++ ackR ac id pr qt)) := ⟨rfl, .inr ⟨v8.heap.size, 2, #[.int .i64 0, .int .i64 4, .int .i64 0, .int .i64 f1, .int .i64 f0, .int .i64 0, .int .i64 f2, .int .i64 f3, .int .i64 0, .int .i64 1, .int .i64 0, .int .i64 ac, .int .i64 id, .int .i64 0, .int .i64 pr, .int .i64 qt], rfl, D.size, heap_alloc_new v8 (.cells #[.int .i64 0, .int .i64 4, .int .i64 0, .int .i64 f1, .int .i64 f0, .int .i64 0, .int .i64 f2, .int .i64 f3, .int .i64 0, .int .i64 1, .int .i64 0, .int .i64 ac, .int .i64 id, .int .i64 0, .int .i64 pr, .int .i64 qt] 48), Nat.le_refl _, by unfold maxLen; omega, rfl, rfl⟩⟩
      have hba : Below v8.heap.size v8 (v8.alloc (.cells #[.int .i64 0, .int .i64 4, .int .i64 0, .int .i64 f1, .int .i64 f0, .int .i64 0, .int .i64 f2, .int .i64 f3, .int .i64 0, .int .i64 1, .int .i64 0, .int .i64 ac, .int .i64 id, .int .i64 0, .int .i64 pr, .int .i64 qt] 48)) := (Below.refl _ _).alloc (Nat.le_refl _) _
      replace ha := ha.later hba
      replace hb := hb.later hba
      replace kB := bk1 hba kB
      replace kC := bk1 hba kC
      replace kG := bk1 hba kG
      replace kZ := bk1 hba kZ
      replace D := D.trans (hba.mono D.size)
      replace TT := TT.below hba
      clear hba
      generalize v8.alloc (.cells #[.int .i64 0, .int .i64 4, .int .i64 0, .int .i64 f1, .int .i64 f0, .int .i64 0, .int .i64 f2, .int .i64 f3, .int .i64 0, .int .i64 1, .int .i64 0, .int .i64 ac, .int .i64 id, .int .i64 0, .int .i64 pr, .int .i64 qt] 48) = v9 at *
      generalize hxr : v8.heap.size = xr at RA
      have HXR := Lib.hid (show v8.heap.size = xr by simpa [World.setCell] using hxr)
      clear hxr
      refine hK.out _ _ (⟨kB, kC, kG⟩) (fun zH => ?_)
      clear hK K
      try simp only [Act.put, sA, sB, sC]
      refine rd1 10 (fun K hK => ?_)
      obtain ⟨z0, z1, g0, g1⟩ := cz2 kZ
      go_simp
      clear z0 z1 g0 g1
      clear ha hb
      have ha : True := trivial
      have hb : True := trivial
      replace TT := tSk (i := 1) (u := .slice B9 m b9) (tSk (i := 0) (u := .slice A9 n a9) TT kZ (by decide)) (zS0 (u := .slice A9 n a9) kZ) (by decide)
      replace RA := oSk (i := 1) (u := .slice B9 m b9) (oSk (i := 0) (u := .slice A9 n a9) RA kZ (by decide)) (zS0 (u := .slice A9 n a9) kZ) (by decide)
      replace D := (D.setCell (p := ⟨w.heap.size + 1 + 1, 0, none⟩) le2 (.slice A9 n a9)).setCell (p := ⟨w.heap.size + 1 + 1, 1, none⟩) le2 (.slice B9 m b9)
      have nB : w.heap.size ≠ w.heap.size + 1 + 1 := by omega
      have nC : w.heap.size + 1 ≠ w.heap.size + 1 + 1 := by omega
      have nG := ne_kind kG kZ (by decide)
      replace kB := mSo (i := 1) (u := .slice B9 m b9) (mSo (i := 0) (u := .slice A9 n a9) kB nB) nB
      replace kC := mSo (i := 1) (u := .slice B9 m b9) (mSo (i := 0) (u := .slice A9 n a9) kC nC) nC
      replace kG := mSo (i := 1) (u := .slice B9 m b9) (mSo (i := 0) (u := .slice A9 n a9) kG nG) nG
      have kZ' := zS1 (u := .slice B9 m b9) (zS0 (u := .slice A9 n a9) kZ)
      clear kZ nB nC nG
      have kZ := kZ'
      clear kZ'
      refine hK.out _ _ (⟨kB, kC, kG⟩) (fun zH => ?_)
      clear hK K
      try simp only [Act.put, sA, sB, sC]
      refine tkV 11 ?_
      refine dn1 ?_
      generalize ((v9.setCell ⟨w.heap.size + 1 + 1, 0, none⟩ (.slice A9 n a9)).setCell ⟨w.heap.size + 1 + 1, 1, none⟩ (.slice B9 m b9)) = wf at *
      have HR := Lib.hid RA
      have HT := Lib.hid TT
      have HD := Lib.hid D
      have HZ := Lib.hid kZ
      clear zH kB kC kG kF kZ RA TT D ha hb
      go_wp2_with fail
      obtain ⟨z0, z1, -⟩ := cz2 HZ.out
      refine bodyPost_ret (v := .tuple #[.agg #[.slice A9 n a9, .slice B9 m b9], .slice (some ⟨xr, 0, none⟩) 2 2]) (by simp [results, Tryz.results59, go_sem, z0, z1, HXR.out]) rfl ⟨?_, HD.out⟩
      rw [show doT s' f 7 ac id sd pr qt md za n zb m = (rdZ za id qt n, rdZ zb id qt m, canR f0 f1 f2 f3 ++ ackR ac id pr qt) by rw [doT, if_neg (by decide), if_pos rfl, HF2.out, HF3.out, if_pos ⟨HP.out, HQ.out⟩, HF0.out, HF1.out]]
      exact ⟨_, _, _, _, _, _, rfl, HT.out, HR.out⟩
     case stepr67_10 =>
      obtain ⟨z0, z1, g0, g1⟩ := cz2 kZ
      go_simp
      clear z0 z1 g0 g1
      clear ha hb
      have ha : True := trivial
      have hb : True := trivial
      replace TT := tSk (i := 1) (u := .slice B9 m b9) (tSk (i := 0) (u := .slice A9 n a9) TT kZ (by decide)) (zS0 (u := .slice A9 n a9) kZ) (by decide)
      replace D := (D.setCell (p := ⟨w.heap.size + 1 + 1, 0, none⟩) le2 (.slice A9 n a9)).setCell (p := ⟨w.heap.size + 1 + 1, 1, none⟩) le2 (.slice B9 m b9)
      have nB : w.heap.size ≠ w.heap.size + 1 + 1 := by omega
      have nC : w.heap.size + 1 ≠ w.heap.size + 1 + 1 := by omega
      have nG := ne_kind kG kZ (by decide)
      replace kB := mSo (i := 1) (u := .slice B9 m b9) (mSo (i := 0) (u := .slice A9 n a9) kB nB) nB
      replace kC := mSo (i := 1) (u := .slice B9 m b9) (mSo (i := 0) (u := .slice A9 n a9) kC nC) nC
      replace kG := mSo (i := 1) (u := .slice B9 m b9) (mSo (i := 0) (u := .slice A9 n a9) kG nG) nG
      have kZ' := zS1 (u := .slice B9 m b9) (zS0 (u := .slice A9 n a9) kZ)
      clear kZ nB nC nG
      have kZ := kZ'
      clear kZ'
      refine hK.out _ _ (⟨kB, kC, kG⟩) (fun zH => ?_)
      clear hK K
      try simp only [Act.put, sA, sB, sC]
      refine rd1 9 (fun K hK => ?_)
      go_simp
      have RA : (((v8.setCell ⟨w.heap.size + 1 + 1, 0, none⟩ (.slice A9 n a9)).setCell ⟨w.heap.size + 1 + 1, 1, none⟩ (.slice B9 m b9)).alloc (.cells #[.int .i64 0, .int .i64 4, .int .i64 0, .int .i64 f1, .int .i64 f0, .int .i64 0, .int .i64 f2, .int .i64 f3, .int .i64 0, .int .i64 1, .int .i64 0, .int .i64 ac, .int .i64 id, .int .i64 0, .int .i64 pr, .int .i64 qt] 48)).ownsRow w.heap.size 48 8 (.slice (some ⟨((v8.setCell ⟨w.heap.size + 1 + 1, 0, none⟩ (.slice A9 n a9)).setCell ⟨w.heap.size + 1 + 1, 1, none⟩ (.slice B9 m b9)).heap.size, 0, none⟩) 2 2) 2 (nums (canR f0 f1 f2 f3 ++ ackR ac id pr qt)) := ⟨rfl, .inr ⟨((v8.setCell ⟨w.heap.size + 1 + 1, 0, none⟩ (.slice A9 n a9)).setCell ⟨w.heap.size + 1 + 1, 1, none⟩ (.slice B9 m b9)).heap.size, 2, #[.int .i64 0, .int .i64 4, .int .i64 0, .int .i64 f1, .int .i64 f0, .int .i64 0, .int .i64 f2, .int .i64 f3, .int .i64 0, .int .i64 1, .int .i64 0, .int .i64 ac, .int .i64 id, .int .i64 0, .int .i64 pr, .int .i64 qt], rfl, D.size, heap_alloc_new ((v8.setCell ⟨w.heap.size + 1 + 1, 0, none⟩ (.slice A9 n a9)).setCell ⟨w.heap.size + 1 + 1, 1, none⟩ (.slice B9 m b9)) (.cells #[.int .i64 0, .int .i64 4, .int .i64 0, .int .i64 f1, .int .i64 f0, .int .i64 0, .int .i64 f2, .int .i64 f3, .int .i64 0, .int .i64 1, .int .i64 0, .int .i64 ac, .int .i64 id, .int .i64 0, .int .i64 pr, .int .i64 qt] 48), Nat.le_refl _, by unfold maxLen; omega, rfl, rfl⟩⟩
      have hba : Below ((v8.setCell ⟨w.heap.size + 1 + 1, 0, none⟩ (.slice A9 n a9)).setCell ⟨w.heap.size + 1 + 1, 1, none⟩ (.slice B9 m b9)).heap.size ((v8.setCell ⟨w.heap.size + 1 + 1, 0, none⟩ (.slice A9 n a9)).setCell ⟨w.heap.size + 1 + 1, 1, none⟩ (.slice B9 m b9)) (((v8.setCell ⟨w.heap.size + 1 + 1, 0, none⟩ (.slice A9 n a9)).setCell ⟨w.heap.size + 1 + 1, 1, none⟩ (.slice B9 m b9)).alloc (.cells #[.int .i64 0, .int .i64 4, .int .i64 0, .int .i64 f1, .int .i64 f0, .int .i64 0, .int .i64 f2, .int .i64 f3, .int .i64 0, .int .i64 1, .int .i64 0, .int .i64 ac, .int .i64 id, .int .i64 0, .int .i64 pr, .int .i64 qt] 48)) := (Below.refl _ _).alloc (Nat.le_refl _) _
      replace kB := bk1 hba kB
      replace kC := bk1 hba kC
      replace kG := bk1 hba kG
      replace kZ := bk1 hba kZ
      replace D := D.trans (hba.mono D.size)
      replace TT := TT.below hba
      clear hba
      generalize ((v8.setCell ⟨w.heap.size + 1 + 1, 0, none⟩ (.slice A9 n a9)).setCell ⟨w.heap.size + 1 + 1, 1, none⟩ (.slice B9 m b9)).alloc (.cells #[.int .i64 0, .int .i64 4, .int .i64 0, .int .i64 f1, .int .i64 f0, .int .i64 0, .int .i64 f2, .int .i64 f3, .int .i64 0, .int .i64 1, .int .i64 0, .int .i64 ac, .int .i64 id, .int .i64 0, .int .i64 pr, .int .i64 qt] 48) = v9 at *
      generalize hxr : ((v8.setCell ⟨w.heap.size + 1 + 1, 0, none⟩ (.slice A9 n a9)).setCell ⟨w.heap.size + 1 + 1, 1, none⟩ (.slice B9 m b9)).heap.size = xr at RA
      have HXR := Lib.hid (show v8.heap.size = xr by simpa [World.setCell] using hxr)
      clear hxr
      refine hK.out _ _ (⟨kB, kC, kG⟩) (fun zH => ?_)
      clear hK K
      try simp only [Act.put, sA, sB, sC]
      refine tkV 11 ?_
      refine dn1 ?_
      generalize v9 = wf at *
      have HR := Lib.hid RA
      have HT := Lib.hid TT
      have HD := Lib.hid D
      have HZ := Lib.hid kZ
      clear zH kB kC kG kF kZ RA TT D ha hb
      go_wp2_with fail
      obtain ⟨z0, z1, -⟩ := cz2 HZ.out
      refine bodyPost_ret (v := .tuple #[.agg #[.slice A9 n a9, .slice B9 m b9], .slice (some ⟨xr, 0, none⟩) 2 2]) (by simp [results, Tryz.results59, go_sem, z0, z1, HXR.out]) rfl ⟨?_, HD.out⟩
      rw [show doT s' f 7 ac id sd pr qt md za n zb m = (rdZ za id qt n, rdZ zb id qt m, canR f0 f1 f2 f3 ++ ackR ac id pr qt) by rw [doT, if_neg (by decide), if_pos rfl, HF2.out, HF3.out, if_pos ⟨HP.out, HQ.out⟩, HF0.out, HF1.out]]
      exact ⟨_, _, _, _, _, _, rfl, HT.out, HR.out⟩
   · have HQ := Lib.hid hq
     have tq : decide (qt ≤ f3) = false := decide_eq_false hq
     clear hp hq
     obtain ⟨p0, p1⟩ := rcell2 kB
     go_wp2_with fail
     refine (impl_Taken A n c B m d za zb id w4 ha hb hn hm).mono ?_
     rintro e w5 ⟨⟨s2, f2', ok2, t1, t2, hrel, rfl, hwo⟩, hb5⟩
     obtain ⟨-, rfl, -, -, -, -⟩ := find_same HF.out hrel
     obtain ⟨ho1, ho2, hap⟩ := hwo
     simp only [if_true] at ho1 ho2
     have hx3 := D.size
     clear hrel c0 c1 c2 c3 c4 c5 c6 c7 p0 p1 o0 o1 o2 o3 ha hb kB kF
     replace kC := bk1 hb5 kC
     replace kZ := bk1 hb5 kZ
     replace D := D.trans (hb5.mono D.size)
     replace kG := bk1 hb5 kG
     have TT := (show TwoRows w5 _ t1 _ _ t2 _ _ from ⟨ho1, ho2, hap⟩).mono hx3
     clear hb5 ho1 ho2 hap hx3
     obtain ⟨A9, a9, B9, b9, rfl, rfl⟩ := TT.slices
     go_upto_region 6 with fail
     have kN := heap_alloc_new w5 (.cells #[.slice A9 (tkN za id n) a9, .slice B9 (tkN zb id m) b9] 30)
     have hba : Below w5.heap.size w5 (w5.alloc (.cells #[.slice A9 (tkN za id n) a9, .slice B9 (tkN zb id m) b9] 30)) := (Below.refl _ _).alloc (Nat.le_refl _) _
     replace kC := bk1 hba kC
     replace kZ := bk1 hba kZ
     replace D := D.trans (hba.mono D.size)
     replace kG := bk1 hba kG
     replace TT := TT.below hba
     clear hba
     generalize w5.alloc (.cells #[.slice A9 (tkN za id n) a9, .slice B9 (tkN zb id m) b9] 30) = w6 at *
     generalize w5.heap.size = XN at *
     obtain ⟨c0, c1, c2, c3, c4, c5, c6, c7, g0, g1, g2, g3, g4, g5, g6, g7⟩ := rcell8 kC
     have nN := ne_kind kN kC (by decide)
     have nZ := ne_kind kZ kC (by decide)
     have nG := ne_kind kG kC (by decide)
     go_upto_region 7 with fail
     clear c0 c1 c2 c3 c4 c5 c6 c7 g0 g1 g2 g3 g4 g5 g6 g7
     replace TT := tSk (i := 4) (u := .int .i64 s') (tSk (i := 0) (u := .int .i64 1) TT kC (by decide)) (cset0 (u := .int .i64 1) kC) (by decide)
     replace D := (D.setCell (p := ⟨w.heap.size + 1, 0, none⟩) (show w.heap.size ≤ w.heap.size + 1 by omega) (.int .i64 1)).setCell (p := ⟨w.heap.size + 1, 4, none⟩) (show w.heap.size ≤ w.heap.size + 1 by omega) (.int .i64 s')
     replace kN := mSo (i := 4) (u := .int .i64 s') (mSo (i := 0) (u := .int .i64 1) kN nN) nN
     replace kZ := mSo (i := 4) (u := .int .i64 s') (mSo (i := 0) (u := .int .i64 1) kZ nZ) nZ
     replace kG := mSo (i := 4) (u := .int .i64 s') (mSo (i := 0) (u := .int .i64 1) kG nG) nG
     have kC' := cset4 (u := .int .i64 s') (cset0 (u := .int .i64 1) kC)
     clear kC nN nZ nG
     have kC := kC'
     clear kC'
     generalize (w6.setCell ⟨w.heap.size + 1, 0, none⟩ (.int .i64 1)).setCell ⟨w.heap.size + 1, 4, none⟩ (.int .i64 s') = w7 at *
     obtain ⟨c0, c1, c2, c3, c4, c5, c6, c7⟩ := cmd_cell kC
     obtain ⟨p0, p1⟩ := rcell2 kN
     have hN20 := Nat.le_trans (tkN_le za id n) hn
     have hM20 := Nat.le_trans (tkN_le zb id m) hm
     go_wp2_with fail
     refine (impl_entered A9 (tkN za id n) a9 B9 (tkN zb id m) b9 (tkZ za id n) (tkZ zb id m) 1 sy ac id s' pr qt md w7 (Lst.of_own TT.one) (Lst.of_own TT.two) hN20 hM20 HRG2 (Lib.hid (fun _ => HPR.out))).mono ?_
     rw [show (decide ((1 : Int) = 1) || decide ((1 : Int) = 5)) = true by decide]
     rintro e w8 ⟨⟨t1, t2, t3, X1, X2, X3, rfl, TR, RR⟩, hb8⟩
     clear c0 c1 c2 c3 c4 c5 c6 c7 p0 p1 kC kN TT hN20 hM20
     obtain ⟨C9, c9, D9, d9, rfl, rfl⟩ := TR.slices
     obtain ⟨Av, av, rfl, _, _⟩ := oSl RR
     have hx := D.size
     have hlG := hlT kG
     have nG : some XG ≠ (Value.slice Av X3 av).ownBlock := fun e => by have := (RR.lt _ e.symm).1; omega
     replace kZ := bk1 hb8 kZ
     replace D := D.trans (hb8.mono D.size)
     replace kG := bk1 hb8 kG
     replace TR := TR.mono hx
     replace RR := oMn RR hx
     have hlZ := hlT kZ
     clear hb8 hx hlG
     have hX3 : X3 ≤ 1048576 := by have h := RR.1; rw [nums_length] at h; have h2 := HLN.out; omega
     go_upto_region 8 with fail
     have kE := heap_alloc_new w8 (.cells #[.slice C9 X1 c9, .slice D9 X2 d9] 30)
     have hba : Below w8.heap.size w8 (w8.alloc (.cells #[.slice C9 X1 c9, .slice D9 X2 d9] 30)) := (Below.refl _ _).alloc (Nat.le_refl _) _
     have hXE : ∀ q, (Value.slice Av X3 av).ownBlock = some q → q < w8.heap.size := fun q hq => (RR.lt q hq).2
     replace kZ := bk1 hba kZ
     replace D := D.trans (hba.mono D.size)
     replace kG := bk1 hba kG
     replace TR := TR.below hba
     replace RR := oBw RR hba
     clear hba
     have hEZ : w8.heap.size ≠ w.heap.size + 1 + 1 := by omega
     have hs9 : w8.heap.size < (w8.alloc (.cells #[.slice C9 X1 c9, .slice D9 X2 d9] 30)).heap.size := by simp
     generalize w8.alloc (.cells #[.slice C9 X1 c9, .slice D9 X2 d9] 30) = w9 at *
     generalize w8.heap.size = XE at *
     have hXA : some w9.heap.size ≠ (Value.slice Av X3 av).ownBlock := fun e => by have := hXE _ e.symm; omega
     refine wp_region_held_drew (S := (fun w' => w'.heap[XE]? = some (.cells #[.slice C9 X1 c9, .slice D9 X2 d9] 30 (0, 0)) ∧ w'.heap[XG]? = some (.cells #[.int .i64 0, .int .i64 4, .int .i64 0, .int .i64 f1, .int .i64 f0, .int .i64 0, .int .i64 f2, .int .i64 f3] 48 (0, 0)))) (by kernel_rfl) ?hSm72 (fun zH => ?restm72)
     case hSm72 => exact ⟨kE, kG⟩
     refine tkY 0 (hy := by ((intro wS hSw; obtain ⟨t0, t1⟩ := rcell2 hSw.1; go_simp) <;> with_reducible rfl)) (h := ?_)
     refine tkV 1 ?_
     refine tkY 2 (hy := by ((intro wS hSw; obtain ⟨t0, t1, t2, t3, t4, t5, t6, t7⟩ := cmd_cell hSw.2; go_simp) <;> with_reducible rfl)) (h := ?_)
     refine rd1 3 (fun K hK => ?_)
     go_simp
     have kA : (w9.alloc (.cells #[.int .i64 0, .int .i64 4, .int .i64 0, .int .i64 f1, .int .i64 f0, .int .i64 0, .int .i64 f2, .int .i64 f3] 48)).drew.heap[w9.heap.size]? = some (.cells #[.int .i64 0, .int .i64 4, .int .i64 0, .int .i64 f1, .int .i64 f0, .int .i64 0, .int .i64 f2, .int .i64 f3] 48) := heap_alloc_new w9 (.cells #[.int .i64 0, .int .i64 4, .int .i64 0, .int .i64 f1, .int .i64 f0, .int .i64 0, .int .i64 f2, .int .i64 f3] 48)
     have hba : Below w9.heap.size w9 (w9.alloc (.cells #[.int .i64 0, .int .i64 4, .int .i64 0, .int .i64 f1, .int .i64 f0, .int .i64 0, .int .i64 f2, .int .i64 f3] 48)).drew := ((Below.refl _ w9).alloc (Nat.le_refl _) _).drew
     replace kE := bk1 hba kE
     replace kG := bk1 hba kG
     replace kZ := bk1 hba kZ
     replace TR := TR.below hba
     replace RR := oBw RR hba
     replace D := D.trans (hba.mono D.size)
     clear hba
     generalize (w9.alloc (.cells #[.int .i64 0, .int .i64 4, .int .i64 0, .int .i64 f1, .int .i64 f0, .int .i64 0, .int .i64 f2, .int .i64 f3] 48)).drew = v3 at *
     generalize w9.heap.size = xa at *
     refine hK.out _ _ (⟨kE, kG⟩) (fun zH => ?_)
     clear hK K
     try simp only [Act.put, sA, sB, sC]
     refine rd1 4 (fun K hK => ?_)
     have hne : some xa ≠ (Value.slice Av X3 av).ownBlock := hXA
     have hle := D.size
     have hI := impl_InsertR w.heap.size X3 0 xa 0 4 0 f1 f0 0 f2 f3 (.slice Av X3 av) ((plaR id ac pr qt md s' true (tkZ za id n) (tkZ zb id m)).2.2) v3 RR hle hX3 (Nat.zero_le _) kA hne
     rw [show ((0 : Nat) : Int) = 0 from rfl, insR_0] at hI
     go_simp
     refine hI.mono ?_
     clear hI
     rintro e v4 ⟨⟨vq, rfl, RI⟩, hg4⟩
     have nZ := rec_ne RR kZ (by decide)
     have nE := rec_ne RR kE (by decide)
     replace TR := tGr TR RR hg4
     replace D := D.grown hg4 D.size (fun q hq => (RR.lt q hq).1)
     replace kG := (hg4.block _ (hlT kG) nG).trans kG
     replace kZ := (hg4.block _ (hlT kZ) nZ).trans kZ
     replace kE := (hg4.block _ (hlT kE) nE).trans kE
     clear nZ nE hg4 kA hne RR hle
     obtain ⟨Aw, aw, rfl, _, _⟩ := oSl RI
     refine hK.out _ _ (⟨kE, kG⟩) (fun zH => ?_)
     clear hK K
     try simp only [Act.put, sA, sB, sC]
     refine rd1 5 (fun K hK => ?_)
     obtain ⟨z0, z1, g0, g1⟩ := cz2 kZ
     go_simp
     clear z0 z1 g0 g1
     replace TR := tSk (i := 1) (u := .slice D9 X2 d9) (tSk (i := 0) (u := .slice C9 X1 c9) TR kZ (by decide)) (zS0 (u := .slice C9 X1 c9) kZ) (by decide)
     replace RI := oSk (i := 1) (u := .slice D9 X2 d9) (oSk (i := 0) (u := .slice C9 X1 c9) RI kZ (by decide)) (zS0 (u := .slice C9 X1 c9) kZ) (by decide)
     replace D := (D.setCell (p := ⟨w.heap.size + 1 + 1, 0, none⟩) le2 (.slice C9 X1 c9)).setCell (p := ⟨w.heap.size + 1 + 1, 1, none⟩) le2 (.slice D9 X2 d9)
     have mG := ne_kind kG kZ (by decide)
     replace kG := mSo (i := 1) (u := .slice D9 X2 d9) (mSo (i := 0) (u := .slice C9 X1 c9) kG mG) mG
     replace kE := mSo (i := 1) (u := .slice D9 X2 d9) (mSo (i := 0) (u := .slice C9 X1 c9) kE hEZ) hEZ
     have kZ' := zS1 (u := .slice D9 X2 d9) (zS0 (u := .slice C9 X1 c9) kZ)
     clear kZ mG
     have kZ := kZ'
     clear kZ'
     refine hK.out _ _ (⟨kE, kG⟩) (fun zH => ?_)
     clear hK K
     try simp only [Act.put, sA, sB, sC]
     refine tkV 6 ?_
     refine dn1 ?_
     generalize ((v4.setCell ⟨w.heap.size + 1 + 1, 0, none⟩ (.slice C9 X1 c9)).setCell ⟨w.heap.size + 1 + 1, 1, none⟩ (.slice D9 X2 d9)) = wf at *
     have HR := Lib.hid RI
     have HT := Lib.hid TR
     have HD := Lib.hid D
     have HZ := Lib.hid kZ
     clear zH kE kG kZ RI TR D
     go_wp2_with fail
     obtain ⟨z0, z1, -⟩ := cz2 HZ.out
     refine bodyPost_ret (v := .tuple #[.agg #[.slice C9 X1 c9, .slice D9 X2 d9], .slice Aw (X3 + 1) aw]) (by simp [results, Tryz.results59, go_sem, z0, z1]) rfl ⟨?_, HD.out⟩
     rw [show doT s' f 7 ac id sd pr qt md za n zb m = ((plaR id ac pr qt md s' true (tkZ za id n) (tkZ zb id m)).1, (plaR id ac pr qt md s' true (tkZ za id n) (tkZ zb id m)).2.1, canR f0 f1 f2 f3 ++ (plaR id ac pr qt md s' true (tkZ za id n) (tkZ zb id m)).2.2) by rw [doT, if_neg (by decide), if_pos rfl, HF2.out, HF3.out, if_neg (fun h => by have := HQ.out; omega), HF0.out, HF1.out]]
     exact ⟨_, _, _, _, _, _, rfl, HT.out, HR.out⟩
 · have HP := Lib.hid hp
   have tp : (pr == f2) = false := by simp [hp]
   clear hp
   obtain ⟨p0, p1⟩ := rcell2 kB
   go_wp2_with fail
   refine (impl_Taken A n c B m d za zb id w4 ha hb hn hm).mono ?_
   rintro e w5 ⟨⟨s2, f2', ok2, t1, t2, hrel, rfl, hwo⟩, hb5⟩
   obtain ⟨-, rfl, -, -, -, -⟩ := find_same HF.out hrel
   obtain ⟨ho1, ho2, hap⟩ := hwo
   simp only [if_true] at ho1 ho2
   have hx3 := D.size
   clear hrel c0 c1 c2 c3 c4 c5 c6 c7 p0 p1 o0 o1 o2 o3 ha hb kB kF
   replace kC := bk1 hb5 kC
   replace kZ := bk1 hb5 kZ
   replace D := D.trans (hb5.mono D.size)
   replace kG := bk1 hb5 kG
   have TT := (show TwoRows w5 _ t1 _ _ t2 _ _ from ⟨ho1, ho2, hap⟩).mono hx3
   clear hb5 ho1 ho2 hap hx3
   obtain ⟨A9, a9, B9, b9, rfl, rfl⟩ := TT.slices
   go_upto_region 6 with fail
   have kN := heap_alloc_new w5 (.cells #[.slice A9 (tkN za id n) a9, .slice B9 (tkN zb id m) b9] 30)
   have hba : Below w5.heap.size w5 (w5.alloc (.cells #[.slice A9 (tkN za id n) a9, .slice B9 (tkN zb id m) b9] 30)) := (Below.refl _ _).alloc (Nat.le_refl _) _
   replace kC := bk1 hba kC
   replace kZ := bk1 hba kZ
   replace D := D.trans (hba.mono D.size)
   replace kG := bk1 hba kG
   replace TT := TT.below hba
   clear hba
   generalize w5.alloc (.cells #[.slice A9 (tkN za id n) a9, .slice B9 (tkN zb id m) b9] 30) = w6 at *
   generalize w5.heap.size = XN at *
   obtain ⟨c0, c1, c2, c3, c4, c5, c6, c7, g0, g1, g2, g3, g4, g5, g6, g7⟩ := rcell8 kC
   have nN := ne_kind kN kC (by decide)
   have nZ := ne_kind kZ kC (by decide)
   have nG := ne_kind kG kC (by decide)
   go_upto_region 7 with fail
   clear c0 c1 c2 c3 c4 c5 c6 c7 g0 g1 g2 g3 g4 g5 g6 g7
   replace TT := tSk (i := 4) (u := .int .i64 s') (tSk (i := 0) (u := .int .i64 1) TT kC (by decide)) (cset0 (u := .int .i64 1) kC) (by decide)
   replace D := (D.setCell (p := ⟨w.heap.size + 1, 0, none⟩) (show w.heap.size ≤ w.heap.size + 1 by omega) (.int .i64 1)).setCell (p := ⟨w.heap.size + 1, 4, none⟩) (show w.heap.size ≤ w.heap.size + 1 by omega) (.int .i64 s')
   replace kN := mSo (i := 4) (u := .int .i64 s') (mSo (i := 0) (u := .int .i64 1) kN nN) nN
   replace kZ := mSo (i := 4) (u := .int .i64 s') (mSo (i := 0) (u := .int .i64 1) kZ nZ) nZ
   replace kG := mSo (i := 4) (u := .int .i64 s') (mSo (i := 0) (u := .int .i64 1) kG nG) nG
   have kC' := cset4 (u := .int .i64 s') (cset0 (u := .int .i64 1) kC)
   clear kC nN nZ nG
   have kC := kC'
   clear kC'
   generalize (w6.setCell ⟨w.heap.size + 1, 0, none⟩ (.int .i64 1)).setCell ⟨w.heap.size + 1, 4, none⟩ (.int .i64 s') = w7 at *
   obtain ⟨c0, c1, c2, c3, c4, c5, c6, c7⟩ := cmd_cell kC
   obtain ⟨p0, p1⟩ := rcell2 kN
   have hN20 := Nat.le_trans (tkN_le za id n) hn
   have hM20 := Nat.le_trans (tkN_le zb id m) hm
   go_wp2_with fail
   refine (impl_entered A9 (tkN za id n) a9 B9 (tkN zb id m) b9 (tkZ za id n) (tkZ zb id m) 1 sy ac id s' pr qt md w7 (Lst.of_own TT.one) (Lst.of_own TT.two) hN20 hM20 HRG2 (Lib.hid (fun _ => HPR.out))).mono ?_
   rw [show (decide ((1 : Int) = 1) || decide ((1 : Int) = 5)) = true by decide]
   rintro e w8 ⟨⟨t1, t2, t3, X1, X2, X3, rfl, TR, RR⟩, hb8⟩
   clear c0 c1 c2 c3 c4 c5 c6 c7 p0 p1 kC kN TT hN20 hM20
   obtain ⟨C9, c9, D9, d9, rfl, rfl⟩ := TR.slices
   obtain ⟨Av, av, rfl, _, _⟩ := oSl RR
   have hx := D.size
   have hlG := hlT kG
   have nG : some XG ≠ (Value.slice Av X3 av).ownBlock := fun e => by have := (RR.lt _ e.symm).1; omega
   replace kZ := bk1 hb8 kZ
   replace D := D.trans (hb8.mono D.size)
   replace kG := bk1 hb8 kG
   replace TR := TR.mono hx
   replace RR := oMn RR hx
   have hlZ := hlT kZ
   clear hb8 hx hlG
   have hX3 : X3 ≤ 1048576 := by have h := RR.1; rw [nums_length] at h; have h2 := HLN.out; omega
   go_upto_region 8 with fail
   have kE := heap_alloc_new w8 (.cells #[.slice C9 X1 c9, .slice D9 X2 d9] 30)
   have hba : Below w8.heap.size w8 (w8.alloc (.cells #[.slice C9 X1 c9, .slice D9 X2 d9] 30)) := (Below.refl _ _).alloc (Nat.le_refl _) _
   have hXE : ∀ q, (Value.slice Av X3 av).ownBlock = some q → q < w8.heap.size := fun q hq => (RR.lt q hq).2
   replace kZ := bk1 hba kZ
   replace D := D.trans (hba.mono D.size)
   replace kG := bk1 hba kG
   replace TR := TR.below hba
   replace RR := oBw RR hba
   clear hba
   have hEZ : w8.heap.size ≠ w.heap.size + 1 + 1 := by omega
   have hs9 : w8.heap.size < (w8.alloc (.cells #[.slice C9 X1 c9, .slice D9 X2 d9] 30)).heap.size := by simp
   generalize w8.alloc (.cells #[.slice C9 X1 c9, .slice D9 X2 d9] 30) = w9 at *
   generalize w8.heap.size = XE at *
   have hXA : some w9.heap.size ≠ (Value.slice Av X3 av).ownBlock := fun e => by have := hXE _ e.symm; omega
   refine wp_region_held_drew (S := (fun w' => w'.heap[XE]? = some (.cells #[.slice C9 X1 c9, .slice D9 X2 d9] 30 (0, 0)) ∧ w'.heap[XG]? = some (.cells #[.int .i64 0, .int .i64 4, .int .i64 0, .int .i64 f1, .int .i64 f0, .int .i64 0, .int .i64 f2, .int .i64 f3] 48 (0, 0)))) (by kernel_rfl) ?hSm80 (fun zH => ?restm80)
   case hSm80 => exact ⟨kE, kG⟩
   refine tkY 0 (hy := by ((intro wS hSw; obtain ⟨t0, t1⟩ := rcell2 hSw.1; go_simp) <;> with_reducible rfl)) (h := ?_)
   refine tkV 1 ?_
   refine tkY 2 (hy := by ((intro wS hSw; obtain ⟨t0, t1, t2, t3, t4, t5, t6, t7⟩ := cmd_cell hSw.2; go_simp) <;> with_reducible rfl)) (h := ?_)
   refine rd1 3 (fun K hK => ?_)
   go_simp
   have kA : (w9.alloc (.cells #[.int .i64 0, .int .i64 4, .int .i64 0, .int .i64 f1, .int .i64 f0, .int .i64 0, .int .i64 f2, .int .i64 f3] 48)).drew.heap[w9.heap.size]? = some (.cells #[.int .i64 0, .int .i64 4, .int .i64 0, .int .i64 f1, .int .i64 f0, .int .i64 0, .int .i64 f2, .int .i64 f3] 48) := heap_alloc_new w9 (.cells #[.int .i64 0, .int .i64 4, .int .i64 0, .int .i64 f1, .int .i64 f0, .int .i64 0, .int .i64 f2, .int .i64 f3] 48)
   have hba : Below w9.heap.size w9 (w9.alloc (.cells #[.int .i64 0, .int .i64 4, .int .i64 0, .int .i64 f1, .int .i64 f0, .int .i64 0, .int .i64 f2, .int .i64 f3] 48)).drew := ((Below.refl _ w9).alloc (Nat.le_refl _) _).drew
   replace kE := bk1 hba kE
   replace kG := bk1 hba kG
   replace kZ := bk1 hba kZ
   replace TR := TR.below hba
   replace RR := oBw RR hba
   replace D := D.trans (hba.mono D.size)
   clear hba
   generalize (w9.alloc (.cells #[.int .i64 0, .int .i64 4, .int .i64 0, .int .i64 f1, .int .i64 f0, .int .i64 0, .int .i64 f2, .int .i64 f3] 48)).drew = v3 at *
   generalize w9.heap.size = xa at *
   refine hK.out _ _ (⟨kE, kG⟩) (fun zH => ?_)
   clear hK K
   try simp only [Act.put, sA, sB, sC]
   refine rd1 4 (fun K hK => ?_)
   have hne : some xa ≠ (Value.slice Av X3 av).ownBlock := hXA
   have hle := D.size
   have hI := impl_InsertR w.heap.size X3 0 xa 0 4 0 f1 f0 0 f2 f3 (.slice Av X3 av) ((plaR id ac pr qt md s' true (tkZ za id n) (tkZ zb id m)).2.2) v3 RR hle hX3 (Nat.zero_le _) kA hne
   rw [show ((0 : Nat) : Int) = 0 from rfl, insR_0] at hI
   go_simp
   refine hI.mono ?_
   clear hI
   rintro e v4 ⟨⟨vq, rfl, RI⟩, hg4⟩
   have nZ := rec_ne RR kZ (by decide)
   have nE := rec_ne RR kE (by decide)
   replace TR := tGr TR RR hg4
   replace D := D.grown hg4 D.size (fun q hq => (RR.lt q hq).1)
   replace kG := (hg4.block _ (hlT kG) nG).trans kG
   replace kZ := (hg4.block _ (hlT kZ) nZ).trans kZ
   replace kE := (hg4.block _ (hlT kE) nE).trans kE
   clear nZ nE hg4 kA hne RR hle
   obtain ⟨Aw, aw, rfl, _, _⟩ := oSl RI
   refine hK.out _ _ (⟨kE, kG⟩) (fun zH => ?_)
   clear hK K
   try simp only [Act.put, sA, sB, sC]
   refine rd1 5 (fun K hK => ?_)
   obtain ⟨z0, z1, g0, g1⟩ := cz2 kZ
   go_simp
   clear z0 z1 g0 g1
   replace TR := tSk (i := 1) (u := .slice D9 X2 d9) (tSk (i := 0) (u := .slice C9 X1 c9) TR kZ (by decide)) (zS0 (u := .slice C9 X1 c9) kZ) (by decide)
   replace RI := oSk (i := 1) (u := .slice D9 X2 d9) (oSk (i := 0) (u := .slice C9 X1 c9) RI kZ (by decide)) (zS0 (u := .slice C9 X1 c9) kZ) (by decide)
   replace D := (D.setCell (p := ⟨w.heap.size + 1 + 1, 0, none⟩) le2 (.slice C9 X1 c9)).setCell (p := ⟨w.heap.size + 1 + 1, 1, none⟩) le2 (.slice D9 X2 d9)
   have mG := ne_kind kG kZ (by decide)
   replace kG := mSo (i := 1) (u := .slice D9 X2 d9) (mSo (i := 0) (u := .slice C9 X1 c9) kG mG) mG
   replace kE := mSo (i := 1) (u := .slice D9 X2 d9) (mSo (i := 0) (u := .slice C9 X1 c9) kE hEZ) hEZ
   have kZ' := zS1 (u := .slice D9 X2 d9) (zS0 (u := .slice C9 X1 c9) kZ)
   clear kZ mG
   have kZ := kZ'
   clear kZ'
   refine hK.out _ _ (⟨kE, kG⟩) (fun zH => ?_)
   clear hK K
   try simp only [Act.put, sA, sB, sC]
   refine tkV 6 ?_
   refine dn1 ?_
   generalize ((v4.setCell ⟨w.heap.size + 1 + 1, 0, none⟩ (.slice C9 X1 c9)).setCell ⟨w.heap.size + 1 + 1, 1, none⟩ (.slice D9 X2 d9)) = wf at *
   have HR := Lib.hid RI
   have HT := Lib.hid TR
   have HD := Lib.hid D
   have HZ := Lib.hid kZ
   clear zH kE kG kZ RI TR D
   go_wp2_with fail
   obtain ⟨z0, z1, -⟩ := cz2 HZ.out
   refine bodyPost_ret (v := .tuple #[.agg #[.slice C9 X1 c9, .slice D9 X2 d9], .slice Aw (X3 + 1) aw]) (by simp [results, Tryz.results59, go_sem, z0, z1]) rfl ⟨?_, HD.out⟩
   rw [show doT s' f 7 ac id sd pr qt md za n zb m = ((plaR id ac pr qt md s' true (tkZ za id n) (tkZ zb id m)).1, (plaR id ac pr qt md s' true (tkZ za id n) (tkZ zb id m)).2.1, canR f0 f1 f2 f3 ++ (plaR id ac pr qt md s' true (tkZ za id n) (tkZ zb id m)).2.2) by rw [doT, if_neg (by decide), if_pos rfl, HF2.out, HF3.out, if_neg (fun h => HP.out h.1), HF0.out, HF1.out]]
   exact ⟨_, _, _, _, _, _, rfl, HT.out, HR.out⟩
end Go.Proofs.YtgjjdnojiegidaaGreatDoor

namespace Go.Proofs.YtgjjdnojiegidaaGreatDoor
open Go.RowKit Wire
set_option maxHeartbeats 6400000
set_option maxRecDepth 100000
set_option linter.unusedSimpArgs false
set_option linter.unusedVariables false

theorem Opened.setN {w : World} {X S L : Nat} {T0 T1 T2 : TypeId} {F : Value} {side : Int} {zs : List Int} {n : Nat} {v : Value} {gs : Nat → Nat} (h : Opened w X S L T0 T1 T2 F side zs n v gs) (g i : Nat) (u : Value) (h1 : g ≠ S) (h2 : g ≠ L) (h3 : some g ≠ v.ownBlock) : Opened (w.setCell ⟨g, i, none⟩ u) X S L T0 T1 T2 F side zs n v gs :=
 ⟨h.low, (Below.heap_setCell w _ u S (fun e => h1 e.symm)).trans h.side, (Below.heap_setCell w _ u L (fun e => h2 e.symm)).trans h.list, own_apart h.own (set_grown w g i u) (fun q hq e => by injection e with e; subst e; exact h3 hq.symm), h.far⟩
theorem Opened.as {w : World} {X S L : Nat} {T0 T1 T2 : TypeId} {F : Value} {side : Int} {zs ys : List Int} {n : Nat} {v : Value} {gs : Nat → Nat} (h : Opened w X S L T0 T1 T2 F side zs n v gs) : Opened w X S L T0 T1 T2 F side ys n v gs := ⟨h.low, h.side, h.list, h.own, h.far⟩
theorem Copies.setN {w : World} {X S L : Nat} {T : TypeId} {zs : List Int} {n : Nat} {v : Value} {gs : Nat → Nat} (h : Copies w X S L T zs n v gs) (g i : Nat) (u : Value) (hg : ∀ k, k < n → gs k ≠ g) : Copies (w.setCell ⟨g, i, none⟩ u) X S L T zs n v gs := fun k hk => by
 obtain ⟨h1, h2, h3, h4, h5⟩ := h k hk
 exact ⟨h1, h2, h3, h4, h5.setOther (a := ⟨g, i, none⟩) (hg k hk) _⟩
def Half (w : World) (T : TypeId) (zs : List Int) (id qt : Int) (n : Nat) (gs : Nat → Nat) (k : Nat) : Prop :=
 ∀ j, j < n → w.rowIs (gs j) T 4 (numAt fun i => if j < k then num (rdZ zs id qt n) (j * 4 + i) else num zs (j * 4 + i))
def put4 (w : World) (g : Nat) (a b c d : Int) : World := (((w.setCell ⟨g, 0, none⟩ (.int .i64 a)).setCell ⟨g, 1, none⟩ (.int .i64 b)).setCell ⟨g, 2, none⟩ (.int .i64 c)).setCell ⟨g, 3, none⟩ (.int .i64 d)
theorem put4_row {w : World} {g : Nat} {T : TypeId} {f h : Nat → Int} {a b c d : Int} (hr : w.rowIs g T 4 (numAt f)) (h0 : h 0 = a) (h1 : h 1 = b) (h2 : h 2 = c) (h3 : h 3 = d) : (put4 w g a b c d).rowIs g T 4 (numAt h) :=
 ((((hr.set _ _).set _ _).set _ _).set _ _).congr fun j hj => by
  rcases (show j = 0 ∨ j = 1 ∨ j = 2 ∨ j = 3 by omega) with rfl | rfl | rfl | rfl <;> simp [numAt, h0, h1, h2, h3]
theorem put4_other {w : World} {g q : Nat} {T : TypeId} {m : Nat} {f : Nat → Value} {a b c d : Int} (hr : w.rowIs q T m f) (hne : q ≠ g) : (put4 w g a b c d).rowIs q T m f :=
 (((hr.setOther (a := ⟨g, 0, none⟩) hne _).setOther (a := ⟨g, 1, none⟩) hne _).setOther (a := ⟨g, 2, none⟩) hne _).setOther (a := ⟨g, 3, none⟩) hne _
theorem put4_below {B g : Nat} {w w' : World} {a b c d : Int} (h : Below B w w') (hg : B ≤ g) : Below B w (put4 w' g a b c d) := by
 have h0 := h.setCell (p := ⟨g, 0, none⟩) hg (.int .i64 a)
 have h1 := h0.setCell (p := ⟨g, 1, none⟩) hg (.int .i64 b)
 have h2 := h1.setCell (p := ⟨g, 2, none⟩) hg (.int .i64 c)
 exact h2.setCell (p := ⟨g, 3, none⟩) hg (.int .i64 d)
theorem put4_blk {w : World} {g q : Nat} {o : Obj} {a b c d : Int} (h : w.heap[q]? = some o) (hne : q ≠ g) : (put4 w g a b c d).heap[q]? = some o :=
 mSo (mSo (mSo (mSo h hne) hne) hne) hne
theorem Opened.put4 {w : World} {X S L : Nat} {T0 T1 T2 : TypeId} {F : Value} {side : Int} {zs : List Int} {n : Nat} {v : Value} {gs : Nat → Nat} {a b c d : Int} (h : Opened w X S L T0 T1 T2 F side zs n v gs) (g : Nat) (h1 : g ≠ S) (h2 : g ≠ L) (h3 : some g ≠ v.ownBlock) : Opened (Go.Proofs.YtgjjdnojiegidaaGreatDoor.put4 w g a b c d) X S L T0 T1 T2 F side zs n v gs :=
 (((h.setN g 0 _ h1 h2 h3).setN g 1 _ h1 h2 h3).setN g 2 _ h1 h2 h3).setN g 3 _ h1 h2 h3
theorem Copies.put4 {w : World} {X S L : Nat} {T : TypeId} {zs : List Int} {n : Nat} {v : Value} {gs : Nat → Nat} {a b c d : Int} (h : Copies w X S L T zs n v gs) (g : Nat) (hg : ∀ k, k < n → gs k ≠ g) : Copies (Go.Proofs.YtgjjdnojiegidaaGreatDoor.put4 w g a b c d) X S L T zs n v gs :=
 (((h.setN g 0 _ hg).setN g 1 _ hg).setN g 2 _ hg).setN g 3 _ hg
theorem Half.below {w w' : World} {T : TypeId} {zs : List Int} {id qt : Int} {n k : Nat} {gs : Nat → Nat} (h : Half w T zs id qt n gs k) (hb : Below w.heap.size w w') : Half w' T zs id qt n gs k := fun j hj => (h j hj).of_block (hb.block _ (h j hj).lt)
theorem Half.start {w : World} {X S L : Nat} {T : TypeId} {zs : List Int} {n : Nat} {v : Value} {gs : Nat → Nat} (h : Copies w X S L T zs n v gs) (id qt : Int) : Half w T zs id qt n gs 0 := fun j hj => (h j hj).2.2.2.2.congr fun i _ => by simp [numAt]
theorem Half.skip {w : World} {T : TypeId} {zs : List Int} {id qt : Int} {n k : Nat} {gs : Nat → Nat} (h : Half w T zs id qt n gs k) (hk : k < n) (hne : num zs (k * 4) ≠ id) : Half w T zs id qt n gs (k + 1) := fun j hj => (h j hj).congr fun i hi => by
 show Value.int .i64 (if j < k then num (rdZ zs id qt n) (j * 4 + i) else num zs (j * 4 + i)) = Value.int .i64 (if j < k + 1 then num (rdZ zs id qt n) (j * 4 + i) else num zs (j * 4 + i))
 by_cases h1 : j < k
 · rw [if_pos h1, if_pos (by omega)]
 by_cases h2 : j = k
 · subst h2
   rw [if_neg h1, if_pos (by omega), rdZ_at zs id qt n j i hj hi, if_neg (fun h => hne h.2)]
 · rw [if_neg h1, if_neg (by omega)]
theorem Half.put {w : World} {T : TypeId} {zs : List Int} {id ac pr qt : Int} {n k : Nat} {gs : Nat → Nat} (h : Half w T zs id qt n gs k) (hu : Up gs n) (hk : k < n) (e0 : num zs (k * 4) = id) (e1 : num zs (k * 4 + 1) = ac) (e2 : num zs (k * 4 + 2) = pr) : Half (put4 w (gs k) id ac pr qt) T zs id qt n gs (k + 1) := fun j hj => by
 by_cases h2 : j = k
 · subst h2
   refine put4_row (h := fun i => if j < j + 1 then num (rdZ zs id qt n) (j * 4 + i) else num zs (j * 4 + i)) (h j hj) ?_ ?_ ?_ ?_
   · show (if j < j + 1 then _ else _) = _
     rw [if_pos (by omega), rdZ_at zs id qt n j 0 hj (by omega), if_neg (by omega)]; exact e0
   · show (if j < j + 1 then _ else _) = _
     rw [if_pos (by omega), rdZ_at zs id qt n j 1 hj (by omega), if_neg (by omega)]; exact e1
   · show (if j < j + 1 then _ else _) = _
     rw [if_pos (by omega), rdZ_at zs id qt n j 2 hj (by omega), if_neg (by omega)]; exact e2
   · show (if j < j + 1 then _ else _) = _
     rw [if_pos (by omega), rdZ_at zs id qt n j 3 hj (by omega), if_pos ⟨rfl, e0⟩]
 · refine put4_other ((h j hj).congr fun i hi => ?_) (hu.ne hj hk h2)
   show Value.int .i64 (if j < k then num (rdZ zs id qt n) (j * 4 + i) else num zs (j * 4 + i)) = Value.int .i64 (if j < k + 1 then num (rdZ zs id qt n) (j * 4 + i) else num zs (j * 4 + i))
   by_cases h1 : j < k
   · rw [if_pos h1, if_pos (by omega)]
   · rw [if_neg h1, if_neg (by omega)]
theorem Half.done {w0 w : World} {X S L : Nat} {T : TypeId} {zs : List Int} {id qt : Int} {n : Nat} {v : Value} {gs : Nat → Nat} (h : Half w T zs id qt n gs n) (hc : Copies w0 X S L T zs n v gs) : Copies w X S L T (rdZ zs id qt n) n v gs := fun k hk => by
 obtain ⟨h1, h2, h3, h4, _⟩ := hc k hk
 refine ⟨h1, h2, h3, h4, (h k hk).congr fun i _ => ?_⟩
 show Value.int .i64 (if k < n then num (rdZ zs id qt n) (k * 4 + i) else num zs (k * 4 + i)) = _
 rw [if_pos hk]; rfl
theorem impl_reduced1 (A : Option Addr) (n c : Nat) (B : Option Addr) (m d : Nat) (za zb : List Int) (id ac pr qt : Int) (w : World) (ha : Lst w w.heap.size 4 A n za) (hb : Lst w w.heap.size 4 B m zb) (hn : n ≤ 1048576) (hm : m ≤ 1048576) (H1 : Hid (∀ k, k < n → num za (k * 4) = id → num za (k * 4 + 1) = ac ∧ num za (k * 4 + 2) = pr)) (H2 : Hid (∀ k, k < m → num zb (k * 4) = id → num zb (k * 4 + 1) = ac ∧ num zb (k * 4 + 2) = pr)) (HN : Hid (noId zb m id)) :
 Calls Tryz.prog 88 #[.agg #[.slice A n c, .slice B m d], .int .i64 1, .agg #[.int .i64 id, .int .i64 ac, .int .i64 pr, .int .i64 qt]] w fun e w' => (∃ v1 v2, e = .returned (.agg #[v1, v2]) ∧ TwoRows w' w.heap.size v1 n (rdZ za id qt n) v2 m (rdZ zb id qt m)) ∧ Below w.heap.size w w' := by
 have HT1 := H1
 have HT2 := H2
 have hlA := ha.1
 have hlB := hb.1
 obtain ⟨kB, kO, kZ⟩ := three_blocks w (.cells #[.slice A n c, .slice B m d] 30) (.cells #[.int .i64 id, .int .i64 ac, .int .i64 pr, .int .i64 qt] 65) (.cells #[.slice none 0 0, .slice none 0 0] 30)
 have D : Below w.heap.size w (((w.alloc (.cells #[.slice A n c, .slice B m d] 30)).alloc (.cells #[.int .i64 id, .int .i64 ac, .int .i64 pr, .int .i64 qt] 65)).alloc (.cells #[.slice none 0 0, .slice none 0 0] 30)) := (((Below.refl _ _).alloc (Nat.le_refl _) _).alloc (by simp) _).alloc (by simp; omega) _
 have hs0 : w.heap.size + 3 ≤ (((w.alloc (.cells #[.slice A n c, .slice B m d] 30)).alloc (.cells #[.int .i64 id, .int .i64 ac, .int .i64 pr, .int .i64 qt] 65)).alloc (.cells #[.slice none 0 0, .slice none 0 0] 30)).heap.size := by simp
 replace ha := ha.later D
 replace hb := hb.later D
 go_enter Tryz.func88, Tryz.ntmps88
 go_upto_region 1 with fail
 generalize (((w.alloc (.cells #[.slice A n c, .slice B m d] 30)).alloc (.cells #[.int .i64 id, .int .i64 ac, .int .i64 pr, .int .i64 qt] 65)).alloc (.cells #[.slice none 0 0, .slice none 0 0] 30)) = w0 at *
 obtain ⟨p0, p1⟩ := rcell2 kB
 go_wp2_with fail
 refine (impl_openedU A n c B m d za zb w0 ha hb hn hm).mono ?_
 rintro e w1 ⟨X1, S1, L1, v1, gs1, X2, S2, L2, v2, gs2, rfl, ⟨hp1, hc1⟩, ⟨hp2, hc2⟩, hX1, hX2, hfar, hu1, hu2, hb1⟩
 clear ha hb kB p0 p1
 replace kO := bk1 hb1 kO
 replace kZ := bk1 hb1 kZ
 replace D := D.trans (hb1.mono D.size)
 clear hb1
 have kP := heap_alloc_new w1 (.cells #[.pointer (some ⟨L1, 0, none⟩), .pointer (some ⟨L2, 0, none⟩)] 55)
 have hba : Below w1.heap.size w1 (w1.alloc (.cells #[.pointer (some ⟨L1, 0, none⟩), .pointer (some ⟨L2, 0, none⟩)] 55)) := (Below.refl _ _).alloc (Nat.le_refl _) _
 replace kO := bk1 hba kO
 replace kZ := bk1 hba kZ
 replace D := D.trans (hba.mono D.size)
 replace hp1 := hp1.below hba
 replace hc1 := hc1.below hba
 replace hp2 := hp2.below hba
 replace hc2 := hc2.below hba
 clear hba
 obtain ⟨p0, p1⟩ := rcell2 kP
 go_wp2_with fail
 generalize w1.alloc (.cells #[.pointer (some ⟨L1, 0, none⟩), .pointer (some ⟨L2, 0, none⟩)] 55) = w2 at *
 generalize w1.heap.size = XP at *
 refine (impl_side ⟨L1, 0, none⟩ ⟨L2, 0, none⟩ 1 w2).mono ?_
 rintro e w3 ⟨rfl, hb3⟩
 replace kO := bk1 hb3 kO
 replace kZ := bk1 hb3 kZ
 replace D := D.trans (hb3.mono D.size)
 replace hp1 := hp1.below hb3
 replace hc1 := hc1.below hb3
 replace hp2 := hp2.below hb3
 replace hc2 := hc2.below hb3
 replace kP := bk1 hb3 kP
 clear hb3 p0 p1
 rw [if_pos rfl]
 obtain ⟨A9, d9, rfl, _, _⟩ := oSl hp1.own
 obtain ⟨cL, _⟩ := rcell2 hp1.list
 go_wp2_with fail
 clear cL
 have hh0 := Half.start hc1 id qt
 go_loopw [19] (fun i wr => ∃ k : Nat, k ≤ n ∧ i = .int .i64 (k : Int) ∧ Opened wr X1 S1 L1 2 106 101 (.func (.func 77) #[] #[.pointer (some ⟨S1, 0, none⟩)]) 1 za n (.slice A9 n d9) gs1 ∧ Half wr 65 za id qt n gs1 k ∧ Opened wr X2 S2 L2 2 106 101 (.func (.func 77) #[] #[.pointer (some ⟨S2, 0, none⟩)]) 2 zb m v2 gs2 ∧ Copies wr X2 S2 L2 65 zb m v2 gs2 ∧ wr.heap[w.heap.size + 1]? = some (.cells #[.int .i64 id, .int .i64 ac, .int .i64 pr, .int .i64 qt] 65 (0, 0)) ∧ wr.heap[w.heap.size + 1 + 1]? = some (.cells #[.slice none 0 0, .slice none 0 0] 30 (0, 0)) ∧ wr.heap[XP]? = some (.cells #[.pointer (some ⟨L1, 0, none⟩), .pointer (some ⟨L2, 0, none⟩)] 55 (0, 0)) ∧ Below w.heap.size w wr) (fun i _ => n - (intOf i).toNat)
 case atStart => exact ⟨0, Nat.zero_le _, rfl, hp1, hh0, hp2, hc2, kO, kZ, kP, D⟩
 case round =>
  clear hh0 hp1 hp2 hc2 kO kZ kP D
  obtain ⟨k, hk, rfl, hp1, hh, hp2, hc2, kO, kZ, kP, D⟩ := hrel
  by_cases hlt : k < n
  · obtain ⟨g, cap, hg, _, _⟩ := hp1.own.form (by omega)
    injection hg with hg1 hg2 hg3
    subst hg1 hg3
    have p0 := hp1.own.cells (g := g) rfl k _ (ptrs_at gs1 n k hlt)
    rw [add0 g] at p0
    have q0 : wr.cell? ⟨gs1 k, 0, none⟩ = some (.int .i64 (num za (k * 4))) := by have h := (hh k hlt).cell (i := 0) (by omega); rw [numAt, if_neg (Nat.lt_irrefl k)] at h; exact h
    obtain ⟨o0, o1, o2, o3⟩ := rrcell4 kO
    have HH := Lib.hid hh
    clear hh
    by_cases he : num za (k * 4) = id
    · have HE := Lib.hid he
      have te : (num za (k * 4) == id) = true := by simp [he]
      clear he
      go_upto_region 5 with fail
      go_quiet (fail)
      rename Nat => nq
      have hqr := Below.refl wr.heap.size wr
      have hq : Below wr.heap.size wr (wr.drewN nq) := ⟨hqr.os, hqr.tape, hqr.output, hqr.size, hqr.block⟩
      have hh := HH.out.below hq
      clear HH hqr p0 q0 o0 o1 o2 o3
      replace hp1 := hp1.below hq
      replace hp2 := hp2.below hq
      replace hc2 := hc2.below hq
      replace kO := bk1 hq kO
      replace kZ := bk1 hq kZ
      replace kP := bk1 hq kP
      replace D := D.trans (hq.mono D.size)
      clear hq
      generalize wr.drewN nq = wz at *
      obtain ⟨hg1, hg2, hg3, hg4, -⟩ := (hc1 k hlt)
      have hrk := hh k hlt
      have q0 := hrk.cell (i := 0) (by omega)
      have f0 := hrk.frozen 0
      have q1 := hrk.cell (i := 1) (by omega)
      have f1 := hrk.frozen 1
      have q2 := hrk.cell (i := 2) (by omega)
      have f2 := hrk.frozen 2
      have q3 := hrk.cell (i := 3) (by omega)
      have f3 := hrk.frozen 3
      obtain ⟨o0, o1, o2, o3⟩ := rrcell4 kO
      obtain ⟨he1, he2⟩ := HT1.out k hlt HE.out
      have HH2 := Lib.hid (show Half ((((wz.setCell ⟨gs1 k, 0, none⟩ (.int .i64 id)).setCell ⟨gs1 k, 1, none⟩ (.int .i64 ac)).setCell ⟨gs1 k, 2, none⟩ (.int .i64 pr)).setCell ⟨gs1 k, 3, none⟩ (.int .i64 qt)) 65 za id qt n gs1 (k + 1) from hh.put hu1 hlt HE.out he1 he2)
      have HPA := Lib.hid (show Opened ((((wz.setCell ⟨gs1 k, 0, none⟩ (.int .i64 id)).setCell ⟨gs1 k, 1, none⟩ (.int .i64 ac)).setCell ⟨gs1 k, 2, none⟩ (.int .i64 pr)).setCell ⟨gs1 k, 3, none⟩ (.int .i64 qt)) X1 S1 L1 2 106 101 (.func (.func 77) #[] #[.pointer (some ⟨S1, 0, none⟩)]) 1 za n (.slice (some ⟨g, 0, none⟩) n d9) gs1 from hp1.put4 (gs1 k) hg2 hg3 hg4)
      have nS : gs1 k ≠ S2 := fun e => by have := hp2.low; have := hfar.2.2.2 k hlt; omega
      have nL : gs1 k ≠ L2 := fun e => by have := hp2.low; have := hfar.2.2.2 k hlt; omega
      have nV : some (gs1 k) ≠ v2.ownBlock := fun e => by have := (hp2.own.lt _ e.symm).1; have := hfar.2.2.2 k hlt; omega
      have nC : ∀ j, j < m → gs2 j ≠ gs1 k := fun j hj e => by have := (hc2 j hj).1; have := hfar.2.2.2 k hlt; omega
      have HPB := Lib.hid (show Opened ((((wz.setCell ⟨gs1 k, 0, none⟩ (.int .i64 id)).setCell ⟨gs1 k, 1, none⟩ (.int .i64 ac)).setCell ⟨gs1 k, 2, none⟩ (.int .i64 pr)).setCell ⟨gs1 k, 3, none⟩ (.int .i64 qt)) X2 S2 L2 2 106 101 (.func (.func 77) #[] #[.pointer (some ⟨S2, 0, none⟩)]) 2 zb m v2 gs2 from hp2.put4 (gs1 k) nS nL nV)
      have HCB := Lib.hid (show Copies ((((wz.setCell ⟨gs1 k, 0, none⟩ (.int .i64 id)).setCell ⟨gs1 k, 1, none⟩ (.int .i64 ac)).setCell ⟨gs1 k, 2, none⟩ (.int .i64 pr)).setCell ⟨gs1 k, 3, none⟩ (.int .i64 qt)) X2 S2 L2 65 zb m v2 gs2 from hc2.put4 (gs1 k) nC)
      have nO : w.heap.size + 1 ≠ gs1 k := by omega
      have nZ : w.heap.size + 1 + 1 ≠ gs1 k := by omega
      have nP : XP ≠ gs1 k := by obtain ⟨cs, hcs, -, -⟩ := hrk; exact ne_kind kP hcs (by decide)
      have HO := Lib.hid (show ((((wz.setCell ⟨gs1 k, 0, none⟩ (.int .i64 id)).setCell ⟨gs1 k, 1, none⟩ (.int .i64 ac)).setCell ⟨gs1 k, 2, none⟩ (.int .i64 pr)).setCell ⟨gs1 k, 3, none⟩ (.int .i64 qt)).heap[w.heap.size + 1]? = _ from put4_blk kO nO)
      have HZ := Lib.hid (show ((((wz.setCell ⟨gs1 k, 0, none⟩ (.int .i64 id)).setCell ⟨gs1 k, 1, none⟩ (.int .i64 ac)).setCell ⟨gs1 k, 2, none⟩ (.int .i64 pr)).setCell ⟨gs1 k, 3, none⟩ (.int .i64 qt)).heap[w.heap.size + 1 + 1]? = _ from put4_blk kZ nZ)
      have HP := Lib.hid (show ((((wz.setCell ⟨gs1 k, 0, none⟩ (.int .i64 id)).setCell ⟨gs1 k, 1, none⟩ (.int .i64 ac)).setCell ⟨gs1 k, 2, none⟩ (.int .i64 pr)).setCell ⟨gs1 k, 3, none⟩ (.int .i64 qt)).heap[XP]? = _ from put4_blk kP nP)
      have HD := Lib.hid (show Below w.heap.size w ((((wz.setCell ⟨gs1 k, 0, none⟩ (.int .i64 id)).setCell ⟨gs1 k, 1, none⟩ (.int .i64 ac)).setCell ⟨gs1 k, 2, none⟩ (.int .i64 pr)).setCell ⟨gs1 k, 3, none⟩ (.int .i64 qt)) from put4_below D (by omega))
      clear hh hp1 hp2 hc2 kO kZ kP D hrk nS nL nV nC nO nZ nP hg1 hg2 hg3 hg4 he1 he2
      go_wp2_with fail
      generalize ((((wz.setCell ⟨gs1 k, 0, none⟩ (.int .i64 id)).setCell ⟨gs1 k, 1, none⟩ (.int .i64 ac)).setCell ⟨gs1 k, 2, none⟩ (.int .i64 pr)).setCell ⟨gs1 k, 3, none⟩ (.int .i64 qt)) = wf at *
      go_roundw
      case rel => exact ⟨k + 1, by omega, by go_num, HPA.out, HH2.out, HPB.out, HCB.out, HO.out, HZ.out, HP.out, HD.out⟩
      case measure => simp [intOf]; omega
    · have HE := Lib.hid he
      have te : (num za (k * 4) == id) = false := by simp [he]
      clear he
      go_upto_region 5 with fail
      go_quiet (fail)
      rename Nat => nq
      have hqr := Below.refl wr.heap.size wr
      have hq : Below wr.heap.size wr (wr.drewN nq) := ⟨hqr.os, hqr.tape, hqr.output, hqr.size, hqr.block⟩
      have hh := HH.out.below hq
      clear HH hqr p0 q0 o0 o1 o2 o3
      replace hp1 := hp1.below hq
      replace hp2 := hp2.below hq
      replace hc2 := hc2.below hq
      replace kO := bk1 hq kO
      replace kZ := bk1 hq kZ
      replace kP := bk1 hq kP
      replace D := D.trans (hq.mono D.size)
      clear hq
      generalize wr.drewN nq = wz at *
      have hh2 := hh.skip hlt HE.out
      clear hh
      go_wp2_with fail
      go_roundw
      case rel => exact ⟨k + 1, by omega, by go_num, hp1, hh2, hp2, hc2, kO, kZ, kP, D⟩
      case measure => simp [intOf]; omega
  · rw [show k = n by omega] at hh
    obtain ⟨p0, p1⟩ := rcell2 kP
    go_wp2_with fail
    refine (impl_closed X1 S1 L1 X2 S2 L2 n m _ v2 gs1 gs2 (rdZ za id qt n) zb wr hp1.as (hh.done hc1) hp2 hc2 hn hm (rdZ_len _ _ _ _) hlB).mono ?_
    rintro e w9 ⟨⟨r1, r2, rfl, ho1, ho2, hap⟩, hb9⟩
    have hx9 := D.size
    have TT := (show TwoRows w9 _ r1 _ _ r2 _ _ from ⟨ho1, ho2, hap⟩).mono hx9
    replace kZ := bk1 hb9 kZ
    replace D := D.trans (hb9.mono D.size)
    obtain ⟨C1, c1, C2, c2, rfl, rfl⟩ := TT.slices
    clear ho1 ho2 hap hb9 hx9 p0 p1 kP kO hh hp1 hp2 hc2
    obtain ⟨z0, z1, g0, g1⟩ := cz2 kZ
    have HZ := Lib.hid (show ((w9.setCell ⟨w.heap.size + 1 + 1, 0, none⟩ (.slice C1 n c1)).setCell ⟨w.heap.size + 1 + 1, 1, none⟩ (.slice C2 m c2)).heap[w.heap.size + 1 + 1]? = some (.cells #[.slice C1 n c1, .slice C2 m c2] 30 (0, 0)) from zS1 (zS0 kZ))
    have HT := Lib.hid (tSk (i := 1) (u := .slice C2 m c2) (tSk (i := 0) (u := .slice C1 n c1) TT kZ (by decide)) (zS0 (u := .slice C1 n c1) kZ) (by decide))
    have HD := Lib.hid ((D.setCell (p := ⟨w.heap.size + 1 + 1, 0, none⟩) le2 (.slice C1 n c1)).setCell (p := ⟨w.heap.size + 1 + 1, 1, none⟩) le2 (.slice C2 m c2))
    clear kZ TT D
    go_wp2_with fail
    clear z0 z1
    obtain ⟨z0, z1, -⟩ := cz2 HZ.out
    refine bodyPost_ret (v := .agg #[.slice C1 n c1, .slice C2 m c2]) (by simp [results, Tryz.results88, go_sem, z0, z1]) rfl ⟨?_, HD.out⟩
    exact ⟨_, _, rfl, by rw [rdZ_no hlB HN.out]; exact HT.out⟩
theorem impl_reduced2 (A : Option Addr) (n c : Nat) (B : Option Addr) (m d : Nat) (za zb : List Int) (id ac pr qt : Int) (w : World) (ha : Lst w w.heap.size 4 A n za) (hb : Lst w w.heap.size 4 B m zb) (hn : n ≤ 1048576) (hm : m ≤ 1048576) (H1 : Hid (∀ k, k < n → num za (k * 4) = id → num za (k * 4 + 1) = ac ∧ num za (k * 4 + 2) = pr)) (H2 : Hid (∀ k, k < m → num zb (k * 4) = id → num zb (k * 4 + 1) = ac ∧ num zb (k * 4 + 2) = pr)) (HN : Hid (noId za n id)) :
 Calls Tryz.prog 88 #[.agg #[.slice A n c, .slice B m d], .int .i64 2, .agg #[.int .i64 id, .int .i64 ac, .int .i64 pr, .int .i64 qt]] w fun e w' => (∃ v1 v2, e = .returned (.agg #[v1, v2]) ∧ TwoRows w' w.heap.size v1 n (rdZ za id qt n) v2 m (rdZ zb id qt m)) ∧ Below w.heap.size w w' := by
 have HT1 := H1
 have HT2 := H2
 have hlA := ha.1
 have hlB := hb.1
 obtain ⟨kB, kO, kZ⟩ := three_blocks w (.cells #[.slice A n c, .slice B m d] 30) (.cells #[.int .i64 id, .int .i64 ac, .int .i64 pr, .int .i64 qt] 65) (.cells #[.slice none 0 0, .slice none 0 0] 30)
 have D : Below w.heap.size w (((w.alloc (.cells #[.slice A n c, .slice B m d] 30)).alloc (.cells #[.int .i64 id, .int .i64 ac, .int .i64 pr, .int .i64 qt] 65)).alloc (.cells #[.slice none 0 0, .slice none 0 0] 30)) := (((Below.refl _ _).alloc (Nat.le_refl _) _).alloc (by simp) _).alloc (by simp; omega) _
 have hs0 : w.heap.size + 3 ≤ (((w.alloc (.cells #[.slice A n c, .slice B m d] 30)).alloc (.cells #[.int .i64 id, .int .i64 ac, .int .i64 pr, .int .i64 qt] 65)).alloc (.cells #[.slice none 0 0, .slice none 0 0] 30)).heap.size := by simp
 replace ha := ha.later D
 replace hb := hb.later D
 go_enter Tryz.func88, Tryz.ntmps88
 go_upto_region 1 with fail
 generalize (((w.alloc (.cells #[.slice A n c, .slice B m d] 30)).alloc (.cells #[.int .i64 id, .int .i64 ac, .int .i64 pr, .int .i64 qt] 65)).alloc (.cells #[.slice none 0 0, .slice none 0 0] 30)) = w0 at *
 obtain ⟨p0, p1⟩ := rcell2 kB
 go_wp2_with fail
 refine (impl_openedU A n c B m d za zb w0 ha hb hn hm).mono ?_
 rintro e w1 ⟨X1, S1, L1, v1, gs1, X2, S2, L2, v2, gs2, rfl, ⟨hp1, hc1⟩, ⟨hp2, hc2⟩, hX1, hX2, hfar, hu1, hu2, hb1⟩
 clear ha hb kB p0 p1
 replace kO := bk1 hb1 kO
 replace kZ := bk1 hb1 kZ
 replace D := D.trans (hb1.mono D.size)
 clear hb1
 have kP := heap_alloc_new w1 (.cells #[.pointer (some ⟨L1, 0, none⟩), .pointer (some ⟨L2, 0, none⟩)] 55)
 have hba : Below w1.heap.size w1 (w1.alloc (.cells #[.pointer (some ⟨L1, 0, none⟩), .pointer (some ⟨L2, 0, none⟩)] 55)) := (Below.refl _ _).alloc (Nat.le_refl _) _
 replace kO := bk1 hba kO
 replace kZ := bk1 hba kZ
 replace D := D.trans (hba.mono D.size)
 replace hp1 := hp1.below hba
 replace hc1 := hc1.below hba
 replace hp2 := hp2.below hba
 replace hc2 := hc2.below hba
 clear hba
 obtain ⟨p0, p1⟩ := rcell2 kP
 go_wp2_with fail
 generalize w1.alloc (.cells #[.pointer (some ⟨L1, 0, none⟩), .pointer (some ⟨L2, 0, none⟩)] 55) = w2 at *
 generalize w1.heap.size = XP at *
 refine (impl_side ⟨L1, 0, none⟩ ⟨L2, 0, none⟩ 2 w2).mono ?_
 rintro e w3 ⟨rfl, hb3⟩
 replace kO := bk1 hb3 kO
 replace kZ := bk1 hb3 kZ
 replace D := D.trans (hb3.mono D.size)
 replace hp1 := hp1.below hb3
 replace hc1 := hc1.below hb3
 replace hp2 := hp2.below hb3
 replace hc2 := hc2.below hb3
 replace kP := bk1 hb3 kP
 clear hb3 p0 p1
 rw [if_neg (by decide)]
 obtain ⟨A9, d9, rfl, _, _⟩ := oSl hp2.own
 obtain ⟨cL, _⟩ := rcell2 hp2.list
 go_wp2_with fail
 clear cL
 have hh0 := Half.start hc2 id qt
 go_loopw [19] (fun i wr => ∃ k : Nat, k ≤ m ∧ i = .int .i64 (k : Int) ∧ Opened wr X2 S2 L2 2 106 101 (.func (.func 77) #[] #[.pointer (some ⟨S2, 0, none⟩)]) 2 zb m (.slice A9 m d9) gs2 ∧ Half wr 65 zb id qt m gs2 k ∧ Opened wr X1 S1 L1 2 106 101 (.func (.func 77) #[] #[.pointer (some ⟨S1, 0, none⟩)]) 1 za n v1 gs1 ∧ Copies wr X1 S1 L1 65 za n v1 gs1 ∧ wr.heap[w.heap.size + 1]? = some (.cells #[.int .i64 id, .int .i64 ac, .int .i64 pr, .int .i64 qt] 65 (0, 0)) ∧ wr.heap[w.heap.size + 1 + 1]? = some (.cells #[.slice none 0 0, .slice none 0 0] 30 (0, 0)) ∧ wr.heap[XP]? = some (.cells #[.pointer (some ⟨L1, 0, none⟩), .pointer (some ⟨L2, 0, none⟩)] 55 (0, 0)) ∧ Below w.heap.size w wr) (fun i _ => m - (intOf i).toNat)
 case atStart => exact ⟨0, Nat.zero_le _, rfl, hp2, hh0, hp1, hc1, kO, kZ, kP, D⟩
 case round =>
  clear hh0 hp1 hp2 hc1 kO kZ kP D
  obtain ⟨k, hk, rfl, hp2, hh, hp1, hc1, kO, kZ, kP, D⟩ := hrel
  by_cases hlt : k < m
  · obtain ⟨g, cap, hg, _, _⟩ := hp2.own.form (by omega)
    injection hg with hg1 hg2 hg3
    subst hg1 hg3
    have p0 := hp2.own.cells (g := g) rfl k _ (ptrs_at gs2 m k hlt)
    rw [add0 g] at p0
    have q0 : wr.cell? ⟨gs2 k, 0, none⟩ = some (.int .i64 (num zb (k * 4))) := by have h := (hh k hlt).cell (i := 0) (by omega); rw [numAt, if_neg (Nat.lt_irrefl k)] at h; exact h
    obtain ⟨o0, o1, o2, o3⟩ := rrcell4 kO
    have HH := Lib.hid hh
    clear hh
    by_cases he : num zb (k * 4) = id
    · have HE := Lib.hid he
      have te : (num zb (k * 4) == id) = true := by simp [he]
      clear he
      go_upto_region 5 with fail
      go_quiet (fail)
      rename Nat => nq
      have hqr := Below.refl wr.heap.size wr
      have hq : Below wr.heap.size wr (wr.drewN nq) := ⟨hqr.os, hqr.tape, hqr.output, hqr.size, hqr.block⟩
      have hh := HH.out.below hq
      clear HH hqr p0 q0 o0 o1 o2 o3
      replace hp2 := hp2.below hq
      replace hp1 := hp1.below hq
      replace hc1 := hc1.below hq
      replace kO := bk1 hq kO
      replace kZ := bk1 hq kZ
      replace kP := bk1 hq kP
      replace D := D.trans (hq.mono D.size)
      clear hq
      generalize wr.drewN nq = wz at *
      obtain ⟨hg1, hg2, hg3, hg4, -⟩ := (hc2 k hlt)
      have hrk := hh k hlt
      have q0 := hrk.cell (i := 0) (by omega)
      have f0 := hrk.frozen 0
      have q1 := hrk.cell (i := 1) (by omega)
      have f1 := hrk.frozen 1
      have q2 := hrk.cell (i := 2) (by omega)
      have f2 := hrk.frozen 2
      have q3 := hrk.cell (i := 3) (by omega)
      have f3 := hrk.frozen 3
      obtain ⟨o0, o1, o2, o3⟩ := rrcell4 kO
      obtain ⟨he1, he2⟩ := HT2.out k hlt HE.out
      have HH2 := Lib.hid (show Half ((((wz.setCell ⟨gs2 k, 0, none⟩ (.int .i64 id)).setCell ⟨gs2 k, 1, none⟩ (.int .i64 ac)).setCell ⟨gs2 k, 2, none⟩ (.int .i64 pr)).setCell ⟨gs2 k, 3, none⟩ (.int .i64 qt)) 65 zb id qt m gs2 (k + 1) from hh.put hu2 hlt HE.out he1 he2)
      have HPA := Lib.hid (show Opened ((((wz.setCell ⟨gs2 k, 0, none⟩ (.int .i64 id)).setCell ⟨gs2 k, 1, none⟩ (.int .i64 ac)).setCell ⟨gs2 k, 2, none⟩ (.int .i64 pr)).setCell ⟨gs2 k, 3, none⟩ (.int .i64 qt)) X2 S2 L2 2 106 101 (.func (.func 77) #[] #[.pointer (some ⟨S2, 0, none⟩)]) 2 zb m (.slice (some ⟨g, 0, none⟩) m d9) gs2 from hp2.put4 (gs2 k) hg2 hg3 hg4)
      have nS : gs2 k ≠ S1 := fun e => by have := hfar.1; omega
      have nL : gs2 k ≠ L1 := fun e => by have := hfar.2.1; omega
      have nV : some (gs2 k) ≠ v1.ownBlock := fun e => by have := hfar.2.2.1 _ e.symm; omega
      have nC : ∀ j, j < n → gs1 j ≠ gs2 k := fun j hj e => by have := hfar.2.2.2 j hj; omega
      have HPB := Lib.hid (show Opened ((((wz.setCell ⟨gs2 k, 0, none⟩ (.int .i64 id)).setCell ⟨gs2 k, 1, none⟩ (.int .i64 ac)).setCell ⟨gs2 k, 2, none⟩ (.int .i64 pr)).setCell ⟨gs2 k, 3, none⟩ (.int .i64 qt)) X1 S1 L1 2 106 101 (.func (.func 77) #[] #[.pointer (some ⟨S1, 0, none⟩)]) 1 za n v1 gs1 from hp1.put4 (gs2 k) nS nL nV)
      have HCB := Lib.hid (show Copies ((((wz.setCell ⟨gs2 k, 0, none⟩ (.int .i64 id)).setCell ⟨gs2 k, 1, none⟩ (.int .i64 ac)).setCell ⟨gs2 k, 2, none⟩ (.int .i64 pr)).setCell ⟨gs2 k, 3, none⟩ (.int .i64 qt)) X1 S1 L1 65 za n v1 gs1 from hc1.put4 (gs2 k) nC)
      have nO : w.heap.size + 1 ≠ gs2 k := by omega
      have nZ : w.heap.size + 1 + 1 ≠ gs2 k := by omega
      have nP : XP ≠ gs2 k := by obtain ⟨cs, hcs, -, -⟩ := hrk; exact ne_kind kP hcs (by decide)
      have HO := Lib.hid (show ((((wz.setCell ⟨gs2 k, 0, none⟩ (.int .i64 id)).setCell ⟨gs2 k, 1, none⟩ (.int .i64 ac)).setCell ⟨gs2 k, 2, none⟩ (.int .i64 pr)).setCell ⟨gs2 k, 3, none⟩ (.int .i64 qt)).heap[w.heap.size + 1]? = _ from put4_blk kO nO)
      have HZ := Lib.hid (show ((((wz.setCell ⟨gs2 k, 0, none⟩ (.int .i64 id)).setCell ⟨gs2 k, 1, none⟩ (.int .i64 ac)).setCell ⟨gs2 k, 2, none⟩ (.int .i64 pr)).setCell ⟨gs2 k, 3, none⟩ (.int .i64 qt)).heap[w.heap.size + 1 + 1]? = _ from put4_blk kZ nZ)
      have HP := Lib.hid (show ((((wz.setCell ⟨gs2 k, 0, none⟩ (.int .i64 id)).setCell ⟨gs2 k, 1, none⟩ (.int .i64 ac)).setCell ⟨gs2 k, 2, none⟩ (.int .i64 pr)).setCell ⟨gs2 k, 3, none⟩ (.int .i64 qt)).heap[XP]? = _ from put4_blk kP nP)
      have HD := Lib.hid (show Below w.heap.size w ((((wz.setCell ⟨gs2 k, 0, none⟩ (.int .i64 id)).setCell ⟨gs2 k, 1, none⟩ (.int .i64 ac)).setCell ⟨gs2 k, 2, none⟩ (.int .i64 pr)).setCell ⟨gs2 k, 3, none⟩ (.int .i64 qt)) from put4_below D (by omega))
      clear hh hp2 hp1 hc1 kO kZ kP D hrk nS nL nV nC nO nZ nP hg1 hg2 hg3 hg4 he1 he2
      go_wp2_with fail
      generalize ((((wz.setCell ⟨gs2 k, 0, none⟩ (.int .i64 id)).setCell ⟨gs2 k, 1, none⟩ (.int .i64 ac)).setCell ⟨gs2 k, 2, none⟩ (.int .i64 pr)).setCell ⟨gs2 k, 3, none⟩ (.int .i64 qt)) = wf at *
      go_roundw
      case rel => exact ⟨k + 1, by omega, by go_num, HPA.out, HH2.out, HPB.out, HCB.out, HO.out, HZ.out, HP.out, HD.out⟩
      case measure => simp [intOf]; omega
    · have HE := Lib.hid he
      have te : (num zb (k * 4) == id) = false := by simp [he]
      clear he
      go_upto_region 5 with fail
      go_quiet (fail)
      rename Nat => nq
      have hqr := Below.refl wr.heap.size wr
      have hq : Below wr.heap.size wr (wr.drewN nq) := ⟨hqr.os, hqr.tape, hqr.output, hqr.size, hqr.block⟩
      have hh := HH.out.below hq
      clear HH hqr p0 q0 o0 o1 o2 o3
      replace hp2 := hp2.below hq
      replace hp1 := hp1.below hq
      replace hc1 := hc1.below hq
      replace kO := bk1 hq kO
      replace kZ := bk1 hq kZ
      replace kP := bk1 hq kP
      replace D := D.trans (hq.mono D.size)
      clear hq
      generalize wr.drewN nq = wz at *
      have hh2 := hh.skip hlt HE.out
      clear hh
      go_wp2_with fail
      go_roundw
      case rel => exact ⟨k + 1, by omega, by go_num, hp2, hh2, hp1, hc1, kO, kZ, kP, D⟩
      case measure => simp [intOf]; omega
  · rw [show k = m by omega] at hh
    obtain ⟨p0, p1⟩ := rcell2 kP
    go_wp2_with fail
    refine (impl_closed X1 S1 L1 X2 S2 L2 n m v1 _ gs1 gs2 za (rdZ zb id qt m) wr hp1 hc1 hp2.as (hh.done hc2) hn hm hlA (rdZ_len _ _ _ _)).mono ?_
    rintro e w9 ⟨⟨r1, r2, rfl, ho1, ho2, hap⟩, hb9⟩
    have hx9 := D.size
    have TT := (show TwoRows w9 _ r1 _ _ r2 _ _ from ⟨ho1, ho2, hap⟩).mono hx9
    replace kZ := bk1 hb9 kZ
    replace D := D.trans (hb9.mono D.size)
    obtain ⟨C1, c1, C2, c2, rfl, rfl⟩ := TT.slices
    clear ho1 ho2 hap hb9 hx9 p0 p1 kP kO hh hp1 hp2 hc1
    obtain ⟨z0, z1, g0, g1⟩ := cz2 kZ
    have HZ := Lib.hid (show ((w9.setCell ⟨w.heap.size + 1 + 1, 0, none⟩ (.slice C1 n c1)).setCell ⟨w.heap.size + 1 + 1, 1, none⟩ (.slice C2 m c2)).heap[w.heap.size + 1 + 1]? = some (.cells #[.slice C1 n c1, .slice C2 m c2] 30 (0, 0)) from zS1 (zS0 kZ))
    have HT := Lib.hid (tSk (i := 1) (u := .slice C2 m c2) (tSk (i := 0) (u := .slice C1 n c1) TT kZ (by decide)) (zS0 (u := .slice C1 n c1) kZ) (by decide))
    have HD := Lib.hid ((D.setCell (p := ⟨w.heap.size + 1 + 1, 0, none⟩) le2 (.slice C1 n c1)).setCell (p := ⟨w.heap.size + 1 + 1, 1, none⟩) le2 (.slice C2 m c2))
    clear kZ TT D
    go_wp2_with fail
    clear z0 z1
    obtain ⟨z0, z1, -⟩ := cz2 HZ.out
    refine bodyPost_ret (v := .agg #[.slice C1 n c1, .slice C2 m c2]) (by simp [results, Tryz.results88, go_sem, z0, z1]) rfl ⟨?_, HD.out⟩
    exact ⟨_, _, rfl, by rw [rdZ_no hlA HN.out]; exact HT.out⟩
end Go.Proofs.YtgjjdnojiegidaaGreatDoor

namespace Go.Proofs.YtgjjdnojiegidaaGreatDoor
open Go.RowKit Wire
set_option maxHeartbeats 6400000
set_option maxRecDepth 100000
set_option linter.unusedSimpArgs false
set_option linter.unusedVariables false

theorem book20 {za zb : List Int} {n m : Nat} (h : bookB za n zb m = true) : n ≤ 20 ∧ m ≤ 20 := by
 unfold bookB sideB at h
 simp only [Bool.and_eq_true, decide_eq_true_eq] at h
 exact ⟨h.1.1, h.2.1.1⟩
theorem run_neq_nil_right {P : Program} (w : World) {ti : TypeId} {ms : Array (String × TypeId)} (tp : TypeId) (v : Value) (hi : P.underlying ti = some (.interface ms)) : (binOp .neq ti (.iface tp v) .nilIface).run P w = .ok (.bool true) w := by
 have h : ∀ d : Nat, (Op.equalIn (d + 1) ti (.iface tp v) .nilIface).run P w = .ok false w := fun d => by simp [Op.equalIn, run_underlying hi]
 simp only [binOp]
 simp [Op.equal, Op.maxDepth, h 9999]
theorem run_neq_nil_nil {P : Program} (w : World) {ti : TypeId} {ms : Array (String × TypeId)} (hi : P.underlying ti = some (.interface ms)) : (binOp .neq ti .nilIface .nilIface).run P w = .ok (.bool false) w := by
 have h : ∀ d : Nat, (Op.equalIn (d + 1) ti .nilIface .nilIface).run P w = .ok true w := fun d => by simp [Op.equalIn, run_underlying hi]
 simp only [binOp]
 simp [Op.equal, Op.maxDepth, h 9999]
theorem ea_nil (w : World) (base : Nat) : EAns w base ([], [], []) (.returned (.tuple #[.agg #[.slice none 0 0, .slice none 0 0], .slice none 0 0])) :=
 ⟨_, _, _, 0, 0, 0, rfl, TwoRows.nil w base, World.ownsRow_nil _ _ _ _⟩
theorem impl_performedX (A : Option Addr) (n c : Nat) (B : Option Addr) (m d : Nat) (za zb : List Int) (k sy ac id sd pr qt md : Int) (w : World) (ha : Lst w w.heap.size 4 A n za) (hb : Lst w w.heap.size 4 B m zb) (hn : n ≤ 1048576) (hm : m ≤ 1048576) (s : Int) (f : Nat → Int) (ok : Bool) (HF : Hid (FindRel (bookB za n zb m) za n zb m id s f ok)) (HBK : Hid (bookB za n zb m = true)) (HW : Hid (whyA ok f k sy ac id sd pr qt md za n zb m = 0)) :
 Calls Tryz.prog 27 #[.agg #[.slice A n c, .slice B m d], .agg #[.int .i64 k, .int .i64 sy, .int .i64 ac, .int .i64 id, .int .i64 sd, .int .i64 pr, .int .i64 qt, .int .i64 md]] w fun e w' => EAns w' w.heap.size (doT s f k ac id sd pr qt md za n zb m) e ∧ Below w.heap.size w w' := by
 obtain ⟨hn20, hm20⟩ := book20 HBK.out
 refine impl_performed A n c B m d za zb k sy ac id sd pr qt md w ha hb hn hm s f ok HF (Lib.hid fun h => (why_old HW.out (.inl h)).2.1) (fun h7 wx hax hbx => ?_) (fun h => ?_)
 · obtain ⟨hc, hok, hf1⟩ := why_old HW.out (.inr h7)
   subst h7
   subst hok
   obtain ⟨hi, hmd, hp⟩ := cmd_repl hc
   have HR := rg_repl HBK.out hi hmd HF.out
   refine impl_replaced A n c B m d za zb sy ac id sd pr qt md wx hax hbx hn hm s f HF (Lib.hid HR) (Lib.hid hp) (Lib.hid (Nat.le_trans (pla_len (tkZ_len _ _ _) (tkZ_len _ _ _) HR (Nat.le_trans (tkN_le za id n) hn20) (Nat.le_trans (tkN_le zb id m) hm20)) (by decide))) (Lib.hid fun hpr wy hay hby => ?_)
   rcases found_rows HBK.out HF.out with ⟨rfl, hno, hr⟩ | ⟨rfl, hno, hr⟩
   · exact impl_reduced1 A n c B m d za zb id ac pr qt wy hay hby hn hm (Lib.hid fun k hk e => by obtain ⟨a, b⟩ := hr k hk e; exact ⟨a.trans hf1, b.trans hpr.symm⟩) (Lib.hid fun k hk e => absurd e (hno k hk)) (Lib.hid hno)
   · exact impl_reduced2 A n c B m d za zb id ac pr qt wy hay hby hn hm (Lib.hid fun k hk e => absurd e (hno k hk)) (Lib.hid fun k hk e => by obtain ⟨a, b⟩ := hr k hk e; exact ⟨a.trans hf1, b.trans hpr.symm⟩) (Lib.hid hno)
 · obtain ⟨hc, h5, hok⟩ := why_new HW.out (fun e => e.elim h.1 h.2)
   subst hok
   obtain ⟨hs, hi, hmd, hp⟩ := cmd_new hc h5
   exact ⟨rg_new HBK.out hs hi hmd HF.out, hp⟩
theorem impl_Exec (A : Option Addr) (n c : Nat) (B : Option Addr) (m d : Nat) (za zb : List Int) (k sy ac id sd pr qt md : Int) (Ad : Nat → Addr) (w : World) (ha : Lst w w.heap.size 4 A n za) (hb : Lst w w.heap.size 4 B m zb) (hn : n ≤ 1048576) (hm : m ≤ 1048576) (hE : Errs w Ad) (s : Int) (f : Nat → Int) (ok : Bool) (HF : Hid (FindRel (bookB za n zb m) za n zb m id s f ok)) :
 Calls Tryz.prog 8 #[.agg #[.slice A n c, .slice B m d], .agg #[.int .i64 k, .int .i64 sy, .int .i64 ac, .int .i64 id, .int .i64 sd, .int .i64 pr, .int .i64 qt, .int .i64 md]] w fun e w' => EAns w' w.heap.size (exA s f ok k sy ac id sd pr qt md za n zb m) e ∧ Below w.heap.size w w' := by
 obtain ⟨kB, kC, kZ⟩ := three_blocks w (.cells #[.slice A n c, .slice B m d] 30) (.cells #[.int .i64 k, .int .i64 sy, .int .i64 ac, .int .i64 id, .int .i64 sd, .int .i64 pr, .int .i64 qt, .int .i64 md] 35) (.cells #[.slice none 0 0, .slice none 0 0] 30)
 have D : Below w.heap.size w (((w.alloc (.cells #[.slice A n c, .slice B m d] 30)).alloc (.cells #[.int .i64 k, .int .i64 sy, .int .i64 ac, .int .i64 id, .int .i64 sd, .int .i64 pr, .int .i64 qt, .int .i64 md] 35)).alloc (.cells #[.slice none 0 0, .slice none 0 0] 30)) := (((Below.refl _ _).alloc (Nat.le_refl _) _).alloc (by simp) _).alloc (by simp; omega) _
 replace ha := ha.later D
 replace hb := hb.later D
 replace hE := hE.below D
 go_enter Tryz.func8, Tryz.ntmps8
 go_upto_region 1 with fail
 generalize (((w.alloc (.cells #[.slice A n c, .slice B m d] 30)).alloc (.cells #[.int .i64 k, .int .i64 sy, .int .i64 ac, .int .i64 id, .int .i64 sd, .int .i64 pr, .int .i64 qt, .int .i64 md] 35)).alloc (.cells #[.slice none 0 0, .slice none 0 0] 30)) = w0 at *
 obtain ⟨p0, p1⟩ := rcell2 kB
 go_wp2_with fail
 refine (impl_BookOk A n c B m d za zb w0 ha hb hn hm).mono ?_
 rintro e w1 ⟨rfl, hb1⟩
 clear p0 p1
 replace ha := ha.later hb1
 replace hb := hb.later hb1
 replace hE := hE.below hb1
 replace kB := bk1 hb1 kB
 replace kC := bk1 hb1 kC
 replace kZ := bk1 hb1 kZ
 replace D := D.trans (hb1.mono D.size)
 clear hb1
 obtain ⟨p0, p1⟩ := rcell2 kB
 obtain ⟨bk, hbk⟩ : ∃ x, bookB za n zb m = x := ⟨_, rfl⟩
 have HBX := Lib.hid hbk
 rw [hbk]
 clear hbk
 cases bk
 · clear p0 p1
   have HZ := Lib.hid (show ((w1.setCell ⟨w.heap.size + 1 + 1, 0, none⟩ (.slice none 0 0)).setCell ⟨w.heap.size + 1 + 1, 1, none⟩ (.slice none 0 0)).heap[w.heap.size + 1 + 1]? = some (.cells #[.slice none 0 0, .slice none 0 0] 30 (0, 0)) from zS1 (zS0 kZ))
   have HD := Lib.hid ((D.setCell (p := ⟨w.heap.size + 1 + 1, 0, none⟩) le2 (.slice none 0 0)).setCell (p := ⟨w.heap.size + 1 + 1, 1, none⟩) le2 (.slice none 0 0))
   obtain ⟨z0, z1, g0, g1⟩ := cz2 kZ
   clear kZ D
   go_wp2_with fail
   clear z0 z1
   obtain ⟨z0, z1, -⟩ := cz2 HZ.out
   refine bodyPost_ret (v := .tuple #[.agg #[.slice none 0 0, .slice none 0 0], .slice none 0 0]) (by simp [results, Tryz.results8, go_sem, z0, z1]) rfl ⟨?_, HD.out⟩
   rw [exA, if_neg (by rw [HBX.out]; decide)]
   exact ea_nil _ _
 · have HBK : Hid (bookB za n zb m = true) := HBX
   obtain ⟨c0, c1, c2, c3, c4, c5, c6, c7⟩ := cmd_cell kC
   go_wp2_with fail
   refine (impl_checked A n c B m d za zb k sy ac id sd pr qt md Ad w1 ha hb hn hm hE s f ok HF HBK).mono ?_
   rintro e w2 ⟨hans, hb2⟩
   clear p0 p1 c0 c1 c2 c3 c4 c5 c6 c7
   replace ha := ha.later hb2
   replace hb := hb.later hb2
   replace hE := hE.below hb2
   replace kB := bk1 hb2 kB
   replace kC := bk1 hb2 kC
   replace kZ := bk1 hb2 kZ
   replace D := D.trans (hb2.mono D.size)
   have h12 := hb2.size
   clear hb2
   obtain ⟨cw, hcw⟩ : ∃ x, whyA ok f k sy ac id sd pr qt md za n zb m = x := ⟨_, rfl⟩
   have HCW := Lib.hid hcw
   rw [hcw] at hans
   rcases hans with ⟨h0, rfl⟩ | ⟨eb, h0, rfl, heb, kR⟩
   · have HW : Hid (whyA ok f k sy ac id sd pr qt md za n zb m = 0) := Lib.hid (hcw.trans h0)
     clear hcw h0
     have ht := run_neq_nil_nil (P := Tryz.prog) w2 Tryz.underlying51
     obtain ⟨p0, p1⟩ := rcell2 kB
     obtain ⟨c0, c1, c2, c3, c4, c5, c6, c7⟩ := cmd_cell kC
     go_wp2_with fail
     refine (impl_performedX A n c B m d za zb k sy ac id sd pr qt md w2 ha hb hn hm s f ok HF HBK HW).mono ?_
     obtain ⟨TT, hTT⟩ : ∃ x, doT s f k ac id sd pr qt md za n zb m = x := ⟨_, rfl⟩
     have HTT := Lib.hid hTT
     rw [hTT]
     clear hTT
     obtain ⟨Y1, Y2, RR⟩ := TT
     rintro e w3 ⟨⟨t1, t2, t3, N1, N2, N3, rfl, TM, RM⟩, hb3⟩
     obtain ⟨B1, b1, B2, b2, rfl, rfl⟩ := TM.slices
     obtain ⟨E1, e1, rfl, hN3a, hN3b⟩ := oSl RM
     have hN3 := Nat.le_trans hN3a hN3b
     unfold maxLen at hN3
     clear hN3a hN3b
     dsimp only at TM RM
     clear p0 p1 c0 c1 c2 c3 c4 c5 c6 c7 ha hb hE ht
     have hd3 := D.size
     replace kC := bk1 hb3 kC
     replace kZ := bk1 hb3 kZ
     replace D := D.trans (hb3.mono D.size)
     replace TM := TM.mono hd3
     replace RM := oMn RM hd3
     clear hb3 kB hd3
     have kN := heap_alloc_new w3 (.cells #[.slice B1 N1 b1, .slice B2 N2 b2] 30)
     have hba : Below w3.heap.size w3 (w3.alloc (.cells #[.slice B1 N1 b1, .slice B2 N2 b2] 30)) := (Below.refl _ _).alloc (Nat.le_refl _) _
     have hlZ := hlT kZ
     replace kC := bk1 hba kC
     replace kZ := bk1 hba kZ
     replace D := D.trans (hba.mono D.size)
     replace TM := TM.below hba
     replace RM := oBw RM hba
     clear hba
     go_wp2_with fail
     generalize w3.alloc (.cells #[.slice B1 N1 b1, .slice B2 N2 b2] 30) = w4 at *
     generalize w3.heap.size = XN at *
     go_loopw [33] (fun i wr => ∃ z : Nat, z ≤ N3 ∧ i = .int .i64 (z : Int) ∧ wr.ownsRow w.heap.size 48 8 (.slice E1 N3 e1) N3 (nums (symR sy RR z)) ∧ TwoRows wr w.heap.size (.slice B1 N1 b1) N1 Y1 (.slice B2 N2 b2) N2 Y2 ∧ wr.heap[w.heap.size + 1]? = some (.cells #[.int .i64 k, .int .i64 sy, .int .i64 ac, .int .i64 id, .int .i64 sd, .int .i64 pr, .int .i64 qt, .int .i64 md] 35 (0, 0)) ∧ wr.heap[w.heap.size + 1 + 1]? = some (.cells #[.slice none 0 0, .slice none 0 0] 30 (0, 0)) ∧ wr.heap[XN]? = some (.cells #[.slice B1 N1 b1, .slice B2 N2 b2] 30 (0, 0)) ∧ Below w.heap.size w wr) (fun i _ => N3 - (intOf i).toNat)
     case atStart => exact ⟨0, Nat.zero_le _, rfl, RM, TM, kC, kZ, kN, D⟩
     case round =>
      clear RM TM kC kZ kN D
      obtain ⟨z, hz, rfl, RM, TM, kC, kZ, kN, D⟩ := hrel
      by_cases hlt : z < N3
      · obtain ⟨q, cap, hq, hqb, hql⟩ := RM.form (by omega)
        injection hq with hq1 hq2 hq3
        subst hq1 hq3
        have hlR : (symR sy RR z).length = N3 * 8 := by have := RM.1; rwa [nums_length] at this
        have q2 := own_at RM (i := z * 8 + 2) (by omega)
        have f2 := own_freeN RM (z * 8 + 2)
        obtain ⟨c0, c1, c2, c3, c4, c5, c6, c7⟩ := cmd_cell kC
        have nC := rows_off RM kC (by decide)
        have nZ := rows_off RM kZ (by decide)
        have nN := rows_off RM kN (by decide)
        have HR := Lib.hid (show (wr.setCell ⟨q, z * 8 + 2, none⟩ (.int .i64 sy)).ownsRow w.heap.size 48 8 (.slice (some ⟨q, 0, none⟩) N3 e1) N3 (nums (symR sy RR (z + 1))) from own_putN RM (z * 8 + 2) sy)
        have HT := Lib.hid (show TwoRows (wr.setCell ⟨q, z * 8 + 2, none⟩ (.int .i64 sy)) w.heap.size (.slice B1 N1 b1) N1 Y1 (.slice B2 N2 b2) N2 Y2 from two_put TM RM)
        have HC := Lib.hid (show (wr.setCell ⟨q, z * 8 + 2, none⟩ (.int .i64 sy)).heap[w.heap.size + 1]? = _ from mSo kC nC)
        have HZ := Lib.hid (show (wr.setCell ⟨q, z * 8 + 2, none⟩ (.int .i64 sy)).heap[w.heap.size + 1 + 1]? = _ from mSo kZ nZ)
        have HN := Lib.hid (show (wr.setCell ⟨q, z * 8 + 2, none⟩ (.int .i64 sy)).heap[XN]? = _ from mSo kN nN)
        have HD := Lib.hid (D.setCell (p := ⟨q, z * 8 + 2, none⟩) hqb (.int .i64 sy))
        clear RM TM kC kZ kN D nC nZ nN
        go_wp2_with fail
        generalize (wr.setCell ⟨q, z * 8 + 2, none⟩ (.int .i64 sy)) = wf at *
        go_roundw
        case rel => exact ⟨z + 1, by omega, by go_num, HR.out, HT.out, HC.out, HZ.out, HN.out, HD.out⟩
        case measure => simp [intOf]; omega
      · rw [show z = N3 by omega] at RM
        obtain ⟨p0, p1⟩ := rcell2 kN
        have HZ := Lib.hid (show ((wr.setCell ⟨w.heap.size + 1 + 1, 0, none⟩ (.slice B1 N1 b1)).setCell ⟨w.heap.size + 1 + 1, 1, none⟩ (.slice B2 N2 b2)).heap[w.heap.size + 1 + 1]? = some (.cells #[.slice B1 N1 b1, .slice B2 N2 b2] 30 (0, 0)) from zS1 (zS0 kZ))
        have HD := Lib.hid ((D.setCell (p := ⟨w.heap.size + 1 + 1, 0, none⟩) le2 (.slice B1 N1 b1)).setCell (p := ⟨w.heap.size + 1 + 1, 1, none⟩) le2 (.slice B2 N2 b2))
        have HT := Lib.hid (tSk (i := 1) (u := .slice B2 N2 b2) (tSk (i := 0) (u := .slice B1 N1 b1) TM kZ (by decide)) (zS0 (u := .slice B1 N1 b1) kZ) (by decide))
        have HR := Lib.hid (oSk (i := 1) (u := .slice B2 N2 b2) (oSk (i := 0) (u := .slice B1 N1 b1) RM kZ (by decide)) (zS0 (u := .slice B1 N1 b1) kZ) (by decide))
        clear TM RM
        obtain ⟨z0, z1, g0, g1⟩ := cz2 kZ
        clear kZ D
        go_wp2_with fail
        clear z0 z1
        obtain ⟨z0, z1, -⟩ := cz2 HZ.out
        refine bodyPost_ret (v := .tuple #[.agg #[.slice B1 N1 b1, .slice B2 N2 b2], .slice E1 N3 e1]) (by simp [results, Tryz.results8, go_sem, z0, z1]) rfl ⟨?_, HD.out⟩
        have hl3 : (symR sy RR N3).length = N3 * 8 := by have := HR.out.1; rwa [nums_length] at this
        rw [symR_len] at hl3
        rw [exA, if_pos HBK.out, if_pos HW.out, HTT.out]
        exact ⟨_, _, _, _, _, _, rfl, HT.out, by rw [show RR.length / 8 = N3 by omega]; exact HR.out⟩
   · clear hcw
     have ht := run_neq_nil_right (P := Tryz.prog) w2 79 (.pointer (some ⟨eb, 0, none⟩)) Tryz.underlying51
     have HC0 := Lib.hid h0
     clear h0
     obtain ⟨p0, p1⟩ := rcell2 kB
     go_wp2_with fail
     refine (impl_opened A n c B m d za zb w2 ha hb hn hm).mono ?_
     rintro e w3 ⟨X1, S1, L1, v1, gs1, X2, S2, L2, v2, gs2, rfl, ⟨hp1, hc1⟩, ⟨hp2, hc2⟩, _, _, _, hb3⟩
     have hlA := ha.1
     have hlB := hb.1
     clear ha hb p0 p1 ht kC kB heb h12
     replace hE := hE.below hb3
     replace kZ := bk1 hb3 kZ
     replace D := D.trans (hb3.mono D.size)
     replace kR := bk1 hb3 kR
     clear hb3
     go_wp2_with fail
     refine (impl_closed X1 S1 L1 X2 S2 L2 n m v1 v2 gs1 gs2 za zb w3 hp1 hc1 hp2 hc2 hn hm hlA hlB).mono ?_
     rintro e w4 ⟨⟨r1, r2, rfl, ho1, ho2, hap⟩, hb4⟩
     have hx4 := D.size
     have TT := (show TwoRows w4 _ r1 _ _ r2 _ _ from ⟨ho1, ho2, hap⟩).mono hx4
     clear hp1 hc1 hp2 hc2 ho1 ho2 hap hx4
     replace hE := hE.below hb4
     replace kZ := bk1 hb4 kZ
     replace D := D.trans (hb4.mono D.size)
     replace kR := bk1 hb4 kR
     clear hb4
     obtain ⟨C1, c1, C2, c2, rfl, rfl⟩ := TT.slices
     have hc7 : cw ≤ 7 := by rw [← HCW.out]; exact whyA_le
     go_wp2_with fail
     refine (impl_rejectRec eb cw k sy ac id sd pr qt md Ad w4 hE kR (Nat.pos_of_ne_zero HC0.out) hc7).mono ?_
     rintro e w5 ⟨rfl, hb5⟩
     clear kR hE hc7
     replace kZ := bk1 hb5 kZ
     replace D := D.trans (hb5.mono D.size)
     replace TT := TT.below hb5
     clear hb5
     have RA : (w5.alloc (.cells #[.int .i64 0, .int .i64 2, .int .i64 (symN cw sy), .int .i64 ac, .int .i64 id, .int .i64 (cw : Int), .int .i64 0, .int .i64 0] 48)).ownsRow w.heap.size 48 8 (.slice (some ⟨w5.heap.size, 0, none⟩) 1 1) 1 (nums (rejR (symN cw sy) ac id cw)) := ⟨rfl, .inr ⟨w5.heap.size, 1, #[.int .i64 0, .int .i64 2, .int .i64 (symN cw sy), .int .i64 ac, .int .i64 id, .int .i64 (cw : Int), .int .i64 0, .int .i64 0], rfl, D.size, heap_alloc_new w5 (.cells #[.int .i64 0, .int .i64 2, .int .i64 (symN cw sy), .int .i64 ac, .int .i64 id, .int .i64 (cw : Int), .int .i64 0, .int .i64 0] 48), Nat.le_refl _, by unfold maxLen; omega, rfl, rfl⟩⟩
     have hba : Below w5.heap.size w5 (w5.alloc (.cells #[.int .i64 0, .int .i64 2, .int .i64 (symN cw sy), .int .i64 ac, .int .i64 id, .int .i64 (cw : Int), .int .i64 0, .int .i64 0] 48)) := (Below.refl _ _).alloc (Nat.le_refl _) _
     replace kZ := bk1 hba kZ
     replace D := D.trans (hba.mono D.size)
     replace TT := TT.below hba
     clear hba
     have HZ := Lib.hid (show (((w5.alloc (.cells #[.int .i64 0, .int .i64 2, .int .i64 (symN cw sy), .int .i64 ac, .int .i64 id, .int .i64 (cw : Int), .int .i64 0, .int .i64 0] 48)).setCell ⟨w.heap.size + 1 + 1, 0, none⟩ (.slice C1 n c1)).setCell ⟨w.heap.size + 1 + 1, 1, none⟩ (.slice C2 m c2)).heap[w.heap.size + 1 + 1]? = some (.cells #[.slice C1 n c1, .slice C2 m c2] 30 (0, 0)) from zS1 (zS0 kZ))
     have HD := Lib.hid ((D.setCell (p := ⟨w.heap.size + 1 + 1, 0, none⟩) le2 (.slice C1 n c1)).setCell (p := ⟨w.heap.size + 1 + 1, 1, none⟩) le2 (.slice C2 m c2))
     have HT := Lib.hid (tSk (i := 1) (u := .slice C2 m c2) (tSk (i := 0) (u := .slice C1 n c1) TT kZ (by decide)) (zS0 (u := .slice C1 n c1) kZ) (by decide))
     have HR := Lib.hid (oSk (i := 1) (u := .slice C2 m c2) (oSk (i := 0) (u := .slice C1 n c1) RA kZ (by decide)) (zS0 (u := .slice C1 n c1) kZ) (by decide))
     clear TT RA
     obtain ⟨z0, z1, g0, g1⟩ := cz2 kZ
     clear kZ D
     go_wp2_with fail
     clear z0 z1
     obtain ⟨z0, z1, -⟩ := cz2 HZ.out
     refine bodyPost_ret (v := .tuple #[.agg #[.slice C1 n c1, .slice C2 m c2], .slice (some ⟨w5.heap.size, 0, none⟩) 1 1]) (by simp [results, Tryz.results8, go_sem, z0, z1]) rfl ⟨?_, HD.out⟩
     rw [exA, if_pos HBK.out, HCW.out, if_neg HC0.out]
     exact ⟨_, _, _, _, _, _, rfl, HT.out, HR.out⟩
end Go.Proofs.YtgjjdnojiegidaaGreatDoor
