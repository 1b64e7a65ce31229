/-
  The exact law of CancelAll.
-/
import Derived.Test.YtnldfbcelakimaaCanS
import Derived.Test.YtnldfbcelakimaaHeldR
import Derived.Test.YtnldfbcelakimaaGB
import Derived.Test.YtnldfbcelakimaaBookZ
import Derived.Test.YtnldfbcelakimaaKeep
namespace Go.Proofs.Ytnldfbcelakimaa
open Go.RowKit Wire

theorem own_keptlt {w w' : World} {base sz n g : Nat} {e : TypeId} {v : Value} {xs : List Value} (h : w.ownsRow base e sz v n xs) (hg : w.grownBy w' (some g)) (hlt : g < base) : w'.ownsRow base e sz v n xs :=
  h.kept hg (.inr (fun e => absurd (h.lt g e).1 (Nat.not_le_of_lt hlt)))
set_option linter.unusedSimpArgs false in
set_option maxHeartbeats 6400000 in
set_option maxRecDepth 100000 in
theorem law_CancelAll (A : Option Addr) (n c : Nat) (B : Option Addr) (m d : Nat) (za zb : List Int) (acct : Int) (w : World) (hl : BookIn w w.heap.size A n B m za zb) (hn : n ≤ maxLen) (hm : m ≤ maxLen) :
    Calls Try.prog 7 #[.agg #[.slice A n c, .slice B m d], .int .i64 acct] w fun e w' => e = .returned (.bool true) ∧ Below w.heap.size w w' := by
  go_enter Try.func7, Try.ntmps7
  go_wp2_with fail
  refine (szBook_any A n c B m d _ hn hm).mono ?_
  rintro e w0 ⟨⟨z, rfl, hz⟩, hbx⟩
  have H0 := (hbx.block w.heap.size (by simp)).trans (heap_alloc_new w _)
  have lH0 : w.heap.size < w0.heap.size := heap_lt H0
  have hb0 := below_alloc hbx
  clear hbx
  obtain ⟨p0, p1⟩ := cell2 H0
  rcases hz with ⟨rfl, hbig⟩ | ⟨hz0, hnm⟩
  · go_wp2_with fail
    go_ret
    exact ⟨rfl, hb0⟩
  have hz1 : decide (z < 0) = false := decide_eq_false (by omega)
  have hn1 : n ≤ 1048576 := by omega
  have hm1 : m ≤ 1048576 := by omega
  obtain ⟨N1, hsN1⟩ : ∃ x, onN (bookB za n zb m) (tkNA za acct n) = x := ⟨_, rfl⟩
  obtain ⟨N2, hsN2⟩ : ∃ x, onN (bookB za n zb m) (tkNA zb acct m) = x := ⟨_, rfl⟩
  obtain ⟨N3, hsN3⟩ : ∃ x, onN (bookB za n zb m) (gnN (za ++ zb) acct (n + m)) = x := ⟨_, rfl⟩
  obtain ⟨Z1, hsZ1⟩ : ∃ x, onZ (bookB za n zb m) (tkZA za acct n) = x := ⟨_, rfl⟩
  obtain ⟨Z2, hsZ2⟩ : ∃ x, onZ (bookB za n zb m) (tkZA zb acct m) = x := ⟨_, rfl⟩
  obtain ⟨RR, hsR⟩ : ∃ x, onZ (bookB za n zb m) (gnR (za ++ zb) acct (n + m)) = x := ⟨_, rfl⟩
  have hN1 : N1 ≤ 1048576 := by have := tkN_leA za acct n; rw [← hsN1]; unfold onN; split <;> omega
  have hN2 : N2 ≤ 1048576 := by have := tkN_leA zb acct m; rw [← hsN2]; unfold onN; split <;> omega
  have hN3 : N3 ≤ 1048576 := by have := gnN_le (za ++ zb) acct (n + m); rw [← hsN3]; unfold onN; split <;> omega
  have HCS : Hid (∀ (v : World) (g f : Nat), BookIn v v.heap.size (some ⟨g, 0, none⟩) n (some ⟨f, 0, none⟩) m za zb → Calls Try.prog 34 #[.agg #[.slice (some ⟨g, 0, none⟩) n n, .slice (some ⟨f, 0, none⟩) m m], .int .i64 acct] v fun e w' => (∃ v1 v2 v3, e = .returned (.tuple #[.agg #[v1, v2], v3]) ∧ TwoRows w' v.heap.size v1 N1 Z1 v2 N2 Z2 ∧ w'.ownsRow v.heap.size 103 8 v3 N3 (nums RR)) ∧ Below v.heap.size v w') := Lib.hid (fun v g f hx => by
    have := spec_CancelAll (some ⟨g, 0, none⟩) n n (some ⟨f, 0, none⟩) m m za zb acct v hx.1 hx.2 hn1 hm1 (fun e => by cases e) (fun e => by cases e)
    unfold CAns at this
    rw [hsN1, hsN2, hsN3, hsZ1, hsZ2, hsR] at this
    exact this)
  have HCI : Hid (∀ (v : World) (g f : Nat), BookIn v v.heap.size (some ⟨g, 0, none⟩) n (some ⟨f, 0, none⟩) m za zb → Calls Try.prog 36 #[.agg #[.slice (some ⟨g, 0, none⟩) n n, .slice (some ⟨f, 0, none⟩) m m], .int .i64 acct] v fun e w' => (∃ v1 v2 v3, e = .returned (.tuple #[.agg #[v1, v2], v3]) ∧ TwoRows w' v.heap.size v1 N1 Z1 v2 N2 Z2 ∧ w'.ownsRow v.heap.size 103 8 v3 N3 (nums RR)) ∧ Below v.heap.size v w') := Lib.hid (fun v g f hx => by
    have := impl_CancelAll (some ⟨g, 0, none⟩) n n (some ⟨f, 0, none⟩) m m za zb acct v hx.1 hx.2 hn1 hm1 (fun e => by cases e) (fun e => by cases e)
    unfold CAns at this
    rw [hsN1, hsN2, hsN3, hsZ1, hsZ2, hsR] at this
    exact this)
  clear hsN1 hsN2 hsN3 hsZ1 hsZ2 hsR
  have hl0 := hl.later hb0
  go_wp2_with fail
  refine (toBook_any A n c B m d za zb _ hl0 hnm).mono ?_
  rintro e w1 ⟨g1, f1, rfl, hg1, hf1, hgf1, hr1, hs1, hb1⟩
  have hx1 : BookIn w1 w1.heap.size (some ⟨g1, 0, none⟩) n (some ⟨f1, 0, none⟩) m za zb := ⟨Lst.of_row (sz := 4) (zs := za) (n := n) hr1 (Nat.le_refl _) hl.1.1 (fun _ _ => rfl), Lst.of_row (sz := 4) (zs := zb) (n := m) hs1 (Nat.le_refl _) hl.2.1 (fun _ _ => rfl)⟩
  have H1 := (hb1.block _ lH0).trans H0
  have lH1 := Nat.lt_of_lt_of_le lH0 hb1.size
  have hl1 := hl0.later hb1
  have hB1 := ord_later hb0 hb1
  clear hl0 hb0 hb1 hr1 hs1 H0 lH0 p0 p1
  go_wp2_with fail
  refine (HCS.out w1 g1 f1 hx1).mono ?_
  rintro e w2 ⟨⟨t1, t2, t3, rfl, TW, RW⟩, hb2⟩
  obtain ⟨Aw, cw, Av, cv, rfl, rfl⟩ := TW.slices
  obtain ⟨Rw, dw, rfl, -, -⟩ := own_slice RW
  have H2 := (hb2.block _ lH1).trans H1
  have lH2 := Nat.lt_of_lt_of_le lH1 hb2.size
  have hl2 := hl1.later hb2
  have hB2 := ord_later hB1 hb2
  clear hl1 hB1 hb2 hx1 H1 lH1 HCS
  have hba : Below w2.heap.size w2 (w2.alloc (.cells #[.slice Aw N1 cw, .slice Av N2 cv] 26)) := (Below.refl _ _).alloc (Nat.le_refl _) _
  have Wa := heap_alloc_new w2 (.cells #[.slice Aw N1 cw, .slice Av N2 cv] 26)
  have Ha := (hba.block _ lH2).trans H2
  have lHa := Nat.lt_of_lt_of_le lH2 hba.size
  have lWa := heap_lt Wa
  have hla := hl2.later hba
  have hBa := ord_later hB2 hba
  have TWa := TW.below hba
  have RWa := own_below RW hba
  obtain ⟨p0, p1⟩ := cell2 Ha
  clear H2 hl2 hB2 hba TW RW lH2
  go_wp2_with fail
  generalize (w2.alloc (.cells #[.slice Aw N1 cw, .slice Av N2 cv] 26)) = wa at *
  refine (toBook_any A n c B m d za zb _ hla hnm).mono ?_
  rintro e w3 ⟨g3, f3, rfl, hg3, hf3, hgf3, hr3, hs3, hb3⟩
  have hx3 : BookIn w3 w3.heap.size (some ⟨g3, 0, none⟩) n (some ⟨f3, 0, none⟩) m za zb := ⟨Lst.of_row (sz := 4) (zs := za) (n := n) hr3 (Nat.le_refl _) hl.1.1 (fun _ _ => rfl), Lst.of_row (sz := 4) (zs := zb) (n := m) hs3 (Nat.le_refl _) hl.2.1 (fun _ _ => rfl)⟩
  have HR3 := Lib.hid hr3
  have HS3 := Lib.hid hs3
  have lg3 := hr3.lt
  have lf3 := hs3.lt
  have D3 := hb3
  clear hb3 hr3 hs3 p0 p1
  have hbb : Below w3.heap.size w3 (w3.alloc (.cells #[.slice (some ⟨g3, 0, none⟩) n n, .slice (some ⟨f3, 0, none⟩) m m] 26)) := (Below.refl _ _).alloc (Nat.le_refl _) _
  have Xb := heap_alloc_new w3 (.cells #[.slice (some ⟨g3, 0, none⟩) n n, .slice (some ⟨f3, 0, none⟩) m m] 26)
  have lX := heap_lt Xb
  have Db := ord_later D3 hbb
  have hxb := hx3.later hbb
  have HR3 := Lib.hid (HR3.out.of_block (hbb.block g3 lg3))
  have HS3 := Lib.hid (HS3.out.of_block (hbb.block f3 lf3))
  have lgX : g3 < w3.heap.size := lg3
  have lfX : f3 < w3.heap.size := lf3
  have lg3 := Nat.lt_of_lt_of_le lg3 hbb.size
  have lf3 := Nat.lt_of_lt_of_le lf3 hbb.size
  clear hx3 D3
  obtain ⟨q0, q1⟩ := cell2 Xb
  go_wp2_with fail
  generalize (w3.alloc (.cells #[.slice (some ⟨g3, 0, none⟩) n n, .slice (some ⟨f3, 0, none⟩) m m] 26)) = wb at *
  refine (HCI.out wb g3 f3 hxb).mono ?_
  rintro e w4 ⟨⟨t1, t2, t3, rfl, TG, RG⟩, hb4⟩
  obtain ⟨Ag, cg, Ah, ch, rfl, rfl⟩ := TG.slices
  obtain ⟨Rg, dg, rfl, -, -⟩ := own_slice RG
  have hap1 := mt_apart TG.one RG (by decide)
  have hap2 := mt_apart TG.two RG (by decide)
  have hGr : some w4.heap.size ≠ (Value.slice Rg N3 dg).ownBlock := fun e => by have := (RG.lt _ e.symm).2; omega
  have hGa : some w4.heap.size ≠ (Value.slice Ag N1 cg).ownBlock := fun e => by have := (TG.one.lt _ e.symm).2; omega
  have hGb : some w4.heap.size ≠ (Value.slice Ah N2 ch).ownBlock := fun e => by have := (TG.two.lt _ e.symm).2; omega
  have X4 := (hb4.block _ lX).trans Xb
  have hx4 := hxb.later hb4
  have D4 := ord_later Db hb4
  have lX4 := Nat.lt_of_lt_of_le lX hb4.size
  clear Xb hxb Db q0 q1
  have hwab : wa.heap.size ≤ wb.heap.size := by have := hbb.size; omega
  have hbc : Below w4.heap.size w4 (w4.alloc (.cells #[.slice Ag N1 cg, .slice Ah N2 ch] 26)) := (Below.refl _ _).alloc (Nat.le_refl _) _
  have Gc := heap_alloc_new w4 (.cells #[.slice Ag N1 cg, .slice Ah N2 ch] 26)
  have lGc := heap_lt Gc
  have Xc := (hbc.block _ lX4).trans X4
  have hxc := hx4.later hbc
  have Dc := ord_later D4 hbc
  have Ec := ord_later hb4 hbc
  have TGc := TG.below hbc
  have Wc := (Dc.block _ lWa).trans Wa
  have TWc := TWa.below Dc
  have RGc := own_below RG hbc
  have RWc := own_below RWa Dc
  have lXc := Nat.lt_of_lt_of_le lX4 hbc.size
  have hw4 : wb.heap.size ≤ w4.heap.size := hb4.size
  clear X4 hx4 D4 hb4 TG RG lX4
  obtain ⟨q0, q1⟩ := cell2 Gc
  obtain ⟨r0, r1⟩ := cell2 Wc
  go_wp2_with fail
  generalize (w4.alloc (.cells #[.slice Ag N1 cg, .slice Ah N2 ch] 26)) = wc at *
  refine (eqBook_same _ _ _ _ N1 N2 _ _ _ _ Z1 Z2 wc TGc.bookIn TWc.bookIn hN1 hN2).mono ?_
  rintro e wd ⟨rfl, hbd⟩
  have RGd := own_below RGc hbd
  have RWd := own_below RWc hbd
  go_wp2_with fail
  refine (eqRecS_same _ _ N3 _ _ RR wd (Lst.of_own RGd) (Lst.of_own RWd) hN3).mono ?_
  rintro e w5 ⟨rfl, hbt⟩
  have hb5 : Below wc.heap.size wc w5 := hbd.trans (hbt.mono hbd.size)
  clear hbd hbt RGd RWd RWc
  have D5 := ord_later Dc hb5
  have E5 := ord_later Ec hb5
  have TG5 := TGc.below hb5
  have RG5 := own_below RGc hb5
  clear RGc
  have X5 := (hb5.block _ lXc).trans Xc
  have G5 := (hb5.block _ lGc).trans Gc
  have H5 := (D5.block _ lHa).trans Ha
  have hx5 := hxc.later hb5
  have hl5 := hla.later D5
  have lX := Nat.lt_of_lt_of_le lXc hb5.size
  have lG := Nat.lt_of_lt_of_le lGc hb5.size
  have lg3b : g3 < wb.heap.size := lg3
  have lf3b : f3 < wb.heap.size := lf3
  clear Dc Ec TGc Xc Gc hxc hb5 Wc TWc q0 q1 r0 r1 lXc lGc hbc hbb
  obtain ⟨p0, p1⟩ := cell2 H5
  obtain ⟨q0, q1⟩ := cell2 X5
  have hd5 : Below w5.heap.size w5 w5.drew := (Below.refl _ _).drew
  have hl5d := hl5.later hd5
  have hx5d := hx5.later hd5
  clear hl5 hx5
  go_upto_region 10 with fail
  refine wp_region_held_drew (S := (fun w' => Below w5.heap.size w5 w' ∧ w'.cell? ⟨w.heap.size, 0, none⟩ = some (.slice A n c) ∧ w'.cell? ⟨w.heap.size, 1, none⟩ = some (.slice B m d) ∧ w'.cell? ⟨w3.heap.size, 0, none⟩ = some (.slice (some ⟨g3, 0, none⟩) n n) ∧ w'.cell? ⟨w3.heap.size, 1, none⟩ = some (.slice (some ⟨f3, 0, none⟩) m m))) (by kernel_rfl) ?hSq1xs (fun hHeld => ?restq1xs)
  case hSq1xs => ((first | assumption | ((((try dsimp only); repeat' apply And.intro) <;> (first | assumption | (refine below_later ?_ (by assumption); first | assumption | (simp only [*]; done) | (go_grown; done)) | (refine cell_later (by assumption) ?_; first | assumption | (simp only [*]; done) | (simp [go_sem]; done)) | (go_grown; done) | (simp [go_sem]; done))))))
  refine wpAnyH_take (i := 0) (oi := ?oiq1x1) (v := ?vq1x1) ?hiq1x1 (by kernel_rfl) (by kernel_rfl) (by kernel_rfl) ?hQq1x1 (Or.inl ⟨?hwq1x1, ?hyq1x1⟩) (by assumption) ?restq1x1
  case hiq1x1 => simp only [List.getElem?_toArray, List.getElem?_cons_succ, List.getElem?_cons_zero]; exact rfl
  case hQq1x1 => exact fun _ _ _ h => h
  case hwq1x1 => rfl
  case hyq1x1 => ((intro w hSw; (try dsimp only at hSw); go_simp) <;> with_reducible rfl)
  try simp only [Act.put, List.setIfInBounds_toArray, List.set_cons_zero, List.set_cons_succ]
  refine wpAnyH_take (i := 1) (oi := ?oiq1x2) (v := ?vq1x2) ?hiq1x2 (by kernel_rfl) (by kernel_rfl) (by kernel_rfl) ?hQq1x2 (Or.inl ⟨?hwq1x2, ?hyq1x2⟩) (by assumption) ?restq1x2
  case hiq1x2 => simp only [List.getElem?_toArray, List.getElem?_cons_succ, List.getElem?_cons_zero]; exact rfl
  case hQq1x2 => exact fun _ _ _ h => h
  case hwq1x2 => rfl
  case hyq1x2 => ((intro w hSw; (try dsimp only at hSw); go_simp) <;> with_reducible rfl)
  try simp only [Act.put, List.setIfInBounds_toArray, List.set_cons_zero, List.set_cons_succ]
  refine wpAnyH_ready (rs := [2]) (by kernel_rfl) (by simp) ?_
  refine AllReadyH.cons (o := ?oq1x3) ?hoq1x3 (fun K hK => ?stepq1x3) ?moreq1x3
  case hoq1x3 => simp only [List.getElem?_toArray, List.getElem?_cons_succ, List.getElem?_cons_zero]; exact rfl
  case moreq1x3 => exact AllReadyH.nil
  go_simp
  (go_at_call 35; refine (toBook_any A n c B m d za zb _ hl5d hnm).mono ?_; rintro e w6 ⟨g6, f6, rfl, _, _, _, hr6, hs6, hb6⟩; have hx6 : BookIn w6 w6.heap.size (some ⟨g6, 0, none⟩) n (some ⟨f6, 0, none⟩) m za zb := ⟨Lst.of_row (sz := 4) (zs := za) (n := n) hr6 (Nat.le_refl _) hl.1.1 (fun _ _ => rfl), Lst.of_row (sz := 4) (zs := zb) (n := m) hs6 (Nat.le_refl _) hl.2.1 (fun _ _ => rfl)⟩)
  refine hK.out _ _ ?hSq1x3 (fun hHeld => ?restq1x3)
  case hSq1x3 => ((first | assumption | ((((try dsimp only); repeat' apply And.intro) <;> (first | assumption | (refine below_later ?_ (by assumption); first | assumption | (simp only [*]; done) | (go_grown; done)) | (refine cell_later (by assumption) ?_; first | assumption | (simp only [*]; done) | (simp [go_sem]; done)) | (go_grown; done) | (simp [go_sem]; done))))))
  clear hK K
  try simp only [Act.put, List.setIfInBounds_toArray, List.set_cons_zero, List.set_cons_succ]
  refine wpAnyH_ready (rs := [3]) (by kernel_rfl) (by simp) ?_
  refine AllReadyH.cons (o := ?oq1x4) ?hoq1x4 (fun K hK => ?stepq1x4) ?moreq1x4
  case hoq1x4 => simp only [List.getElem?_toArray, List.getElem?_cons_succ, List.getElem?_cons_zero]; exact rfl
  case moreq1x4 => exact AllReadyH.nil
  go_simp
  (go_at_call 37; refine (eqBook_same _ _ _ _ n m _ _ _ _ za zb w6 (hx5d.later hb6) hx6 hn1 hm1).mono ?_; rintro e w7 ⟨rfl, hb7⟩)
  refine hK.out _ _ ?hSq1x4 (fun hHeld => ?restq1x4)
  case hSq1x4 => ((first | assumption | ((((try dsimp only); repeat' apply And.intro) <;> (first | assumption | (refine below_later ?_ (by assumption); first | assumption | (simp only [*]; done) | (go_grown; done)) | (refine cell_later (by assumption) ?_; first | assumption | (simp only [*]; done) | (simp [go_sem]; done)) | (go_grown; done) | (simp [go_sem]; done))))))
  clear hK K
  try simp only [Act.put, List.setIfInBounds_toArray, List.set_cons_zero, List.set_cons_succ]
  refine wpAnyH_take (i := 4) (oi := ?oiq1x5) (v := ?vq1x5) ?hiq1x5 (by kernel_rfl) (by kernel_rfl) (by kernel_rfl) ?hQq1x5 (Or.inl ⟨?hwq1x5, ?hyq1x5⟩) (by assumption) ?restq1x5
  case hiq1x5 => simp only [List.getElem?_toArray, List.getElem?_cons_succ, List.getElem?_cons_zero]; exact rfl
  case hQq1x5 => exact fun _ _ _ h => h
  case hwq1x5 => rfl
  case hyq1x5 => ((intro w hSw; (try dsimp only at hSw); go_simp) <;> with_reducible rfl)
  try simp only [Act.put, List.setIfInBounds_toArray, List.set_cons_zero, List.set_cons_succ]
  refine wpAnyH_done (by kernel_rfl) ?_ _
  obtain ⟨hb7, -, -, -, -⟩ := hHeld
  have hsz7 := hb7.size
  have D7 := ord_later D5 hb7
  have E7 := ord_later E5 hb7
  have X7 := (hb7.block _ lX).trans X5
  have G7 := (hb7.block _ lG).trans G5
  have TG7 := TG5.below hb7
  have RG7 := own_below RG5 hb7
  clear RG5
  obtain ⟨q0, q1⟩ := cell2 X7
  clear hb7
  go_wp2_with fail
  have hr7 := HR3.out.of_block (E7.block g3 lg3)
  have hs7 := HS3.out.of_block (E7.block f3 lf3)
  refine (markBook_any g3 f3 n n m m (n * 4) (m * 4) _ ⟨_, hr7⟩ ⟨_, hs7⟩ hgf3 (Nat.le_refl _) (Nat.le_refl _) hn1 hm1).mono ?_
  rintro e w8 ⟨⟨k, hk, rfl⟩, o, wm, hga, hgb⟩
  have hszm := hga.size
  have D8 := ((D7.alloc D7.size o).grown hga (Nat.le_trans D7.size (by simp)) (fun q hq => by cases hq; exact hg3)).grown hgb (Nat.le_trans (Nat.le_trans D7.size (by simp)) hszm) (fun q hq => by cases hq; exact hf3)
  have TG8 := ((TG7.alloc o).kept hga lg3b).kept hgb lf3b
  have RG8 := own_keptlt (own_keptlt (RG7.alloc o) hga lg3b) hgb lf3b
  clear RG7
  have G8 := (hgb.block _ (by simp at hszm; omega) (fun e => by injection e with e; omega)).trans ((hga.block _ (by simp; omega) (fun e => by injection e with e; omega)).trans ((Below.heap_alloc _ o _ (by omega)).trans G7))
  have lG8 : w4.heap.size < w8.heap.size := by have := hgb.size; simp at hszm; omega
  have hk0 : decide (k < 0) = false := decide_eq_false (by omega)
  have W8 := (D8.block _ lWa).trans Wa
  have TW8 := TWa.below D8
  clear hga hgb hszm hr7 hs7 q0 q1 X7 G7 TG7 E7
  obtain ⟨q0, q1⟩ := cell2 G8
  obtain ⟨r0, r1⟩ := cell2 W8
  go_wp2_with fail
  refine (eqBook_same _ _ _ _ N1 N2 _ _ _ _ Z1 Z2 w8 TG8.bookIn TW8.bookIn hN1 hN2).mono ?_
  rintro e wd ⟨rfl, hbd⟩
  have RGd := own_below RG8 hbd
  have RWd := own_below RWa (ord_later D8 hbd)
  go_wp2_with fail
  refine (eqRecS_same _ _ N3 _ _ RR wd (Lst.of_own RGd) (Lst.of_own RWd) hN3).mono ?_
  rintro e w9 ⟨rfl, hbt⟩
  have hb9 := hbd.trans (hbt.mono hbd.size)
  have RG9 := own_below RG8 hb9
  clear hbd hbt RGd RWd RG8
  have D9 := ord_later D8 hb9
  have TG9 := TG8.below hb9
  have G9 := (hb9.block _ lG8).trans G8
  have lG9 := Nat.lt_of_lt_of_le lG8 hb9.size
  clear TW8 D8 hb9 TG8 G8 W8 q0 q1 r0 r1
  obtain ⟨q0, q1⟩ := cell2 G9
  go_wp2_with fail
  refine (markBook_own wb.heap.size _ _ _ _ N1 N2 Z1 Z2 w9 TG9 hN1 hN2).mono ?_
  rintro e wk ⟨rfl, Mk, hbel, hblk⟩
  have Dk := hbel _ _ D9 hwab D9.size
  have Gk := (hblk _ lG9 hGa hGb).trans G9
  have lGk : w4.heap.size < wk.heap.size := heap_lt' Gk
  have RGk := cown_blocks RG9 (fun q hq => hblk q (RG9.lt q hq).2 (fun e => hap1 q e.symm hq) (fun e => hap2 q e.symm hq))
  clear hbel hblk G9 lG9 D9 TG9 RG9 q0 q1
  have hct : ((N2 * 4 + (N1 * 4 + 1) : Nat) : Int) = (N2 : Int) * 4 + ((N1 : Int) * 4 + 1) := by omega
  have hmr := markRecS_anyFrom wb.heap.size (N2 * 4 + (N1 * 4 + 1)) _ N3 _ wk RGk hN3 (by omega)
  rw [hct] at hmr
  have HMR := Lib.hid hmr
  have HCT := Lib.hid hct
  clear hmr hct
  go_wp2_with fail
  refine (HMR.out).mono ?_
  rintro e w10 ⟨rfl, MR10, hgR⟩
  have D10 := Dk.grown hgR Dk.size (fun q hq => Nat.le_trans hwab (RGk.lt q hq).1)
  have G10 := (hgR.block _ lGk hGr).trans Gk
  have M10 : MarkedTwo w10 (.slice Ag N1 cg) N1 (.slice Ah N2 ch) N2 := ⟨Mk.1.apart hgR hap1, Mk.2.apart hgR hap2⟩
  have lG10 : w4.heap.size < w10.heap.size := heap_lt' G10
  clear HMR hgR Gk lGk Mk Dk RGk
  have ht0 : decide ((N2 : Int) * 4 + ((N1 : Int) * 4 + 1) < 0) = false := decide_eq_false (by omega)
  obtain ⟨q0, q1⟩ := cell2 G10
  go_wp2_with fail
  refine (heldBook_own _ _ _ _ N1 N2 w10 M10 hN1 hN2).mono ?_
  rintro e w11 ⟨rfl, hb11⟩
  have D11 := ord_later D10 hb11
  have G11 := (hb11.block _ lG10).trans G10
  have M11 := M10.below hb11
  have MR11 := MR10.below hb11
  clear MR10
  have lG11 := Nat.lt_of_lt_of_le lG10 hb11.size
  have H11 := (D11.block _ lHa).trans Ha
  have hl11 := hla.later D11
  clear D10 G10 M10 lG10 hb11 q0 q1
  have ht1 : decide ((N3 : Int) * 8 + ((N2 : Int) * 4 + ((N1 : Int) * 4 + 1)) < 0) = false := decide_eq_false (by omega)
  have hmr := heldRecS_anyFrom (N2 * 4 + (N1 * 4 + 1)) _ N3 w11 MR11 hN3 (by omega)
  rw [HCT.out] at hmr
  have HMR := Lib.hid hmr
  clear hmr
  go_wp2_with fail
  refine ((HMR.out).mono (fun e w' h => (⟨h.1, h.2.symm⟩ : _ ∧ _))).mono ?_
  rintro e _ ⟨rfl, rfl⟩
  clear HMR
  obtain ⟨p0, p1⟩ := cell2 H11
  go_wp2_with fail
  refine (toBook_any A n c B m d za zb _ hl11 hnm).mono ?_
  rintro e w12 ⟨g12, f12, rfl, hg12, hf12, hgf12, hr12, hs12, hb12⟩
  have hx12 : BookIn w12 w12.heap.size (some ⟨g12, 0, none⟩) n (some ⟨f12, 0, none⟩) m za zb := ⟨Lst.of_row (sz := 4) (zs := za) (n := n) hr12 (Nat.le_refl _) hl.1.1 (fun _ _ => rfl), Lst.of_row (sz := 4) (zs := zb) (n := m) hs12 (Nat.le_refl _) hl.2.1 (fun _ _ => rfl)⟩
  have D12 := ord_later D11 hb12
  have G12 := (hb12.block _ lG11).trans G11
  have M12 := M11.below hb12
  have MR12 := MR11.below hb12
  have lG12 := Nat.lt_of_lt_of_le lG11 hb12.size
  clear D11 G11 M11 MR11 lG11 H11 hl11 hb12 hr12 hs12 p0 p1
  go_wp2_with fail
  refine (HCI.out w12 g12 f12 hx12).mono ?_
  rintro e w13 ⟨⟨t1, t2, t3, rfl, TH, RH⟩, hb13⟩
  obtain ⟨At, ct, Au, cu, rfl, rfl⟩ := TH.slices
  obtain ⟨Rh, dh, rfl, -, -⟩ := own_slice RH
  have D13 := ord_later D12 hb13
  have G13 := (hb13.block _ lG12).trans G12
  have M13 := M12.below hb13
  have MR13 := MR12.below hb13
  have lG13 := Nat.lt_of_lt_of_le lG12 hb13.size
  clear D12 G12 M12 MR12 lG12 hb13 hx12
  have hbd : Below w13.heap.size w13 (w13.alloc (.cells #[.slice At N1 ct, .slice Au N2 cu] 26)) := (Below.refl _ _).alloc (Nat.le_refl _) _
  have Q14 := heap_alloc_new w13 (.cells #[.slice At N1 ct, .slice Au N2 cu] 26)
  have D14 := ord_later D13 hbd
  have G14 := (hbd.block _ lG13).trans G13
  have M14 := M13.below hbd
  have MR14 := MR13.below hbd
  have lG14 := Nat.lt_of_lt_of_le lG13 hbd.size
  have TH14 := TH.below hbd
  have RH14 := own_below RH hbd
  have W14 := (D14.block _ lWa).trans Wa
  have TW14 := TWa.below D14
  have RW14 := own_below RWa D14
  obtain ⟨q0, q1⟩ := cell2 Q14
  obtain ⟨r0, r1⟩ := cell2 W14
  clear D13 G13 M13 MR13 lG13 hbd TH RH Q14
  go_wp2_with fail
  refine (eqBook_same _ _ _ _ N1 N2 _ _ _ _ Z1 Z2 _ TH14.bookIn TW14.bookIn hN1 hN2).mono ?_
  rintro e wd ⟨rfl, hbd⟩
  have RHd := own_below RH14 hbd
  have RWd := own_below RW14 hbd
  go_wp2_with fail
  refine (eqRecS_same _ _ N3 _ _ RR wd (Lst.of_own RHd) (Lst.of_own RWd) hN3).mono ?_
  rintro e w15 ⟨rfl, hbt⟩
  have hb15 := hbd.trans (hbt.mono hbd.size)
  have D15 := ord_later D14 hb15
  have G15 := (hb15.block _ lG14).trans G14
  have M15 := M14.below hb15
  have MR15 := MR14.below hb15
  clear D14 G14 M14 MR14 lG14 TH14 W14 TW14 RH14 RW14 RHd RWd hbd hbt hb15 q0 q1 r0 r1
  obtain ⟨q0, q1⟩ := cell2 G15
  go_wp2_with fail
  refine (heldBook_own _ _ _ _ N1 N2 w15 M15 hN1 hN2).mono ?_
  rintro e w16 ⟨rfl, hb16⟩
  have hfin := ord_later hBa (ord_later D15 hb16)
  have hmr := heldRecS_anyFrom (N2 * 4 + (N1 * 4 + 1)) _ N3 w16 (MR15.below hb16) hN3 (by omega)
  rw [HCT.out] at hmr
  have HMR := Lib.hid hmr
  clear hmr
  go_wp2_with fail
  refine ((HMR.out).mono (fun e w' h => (⟨h.1, h.2.symm⟩ : _ ∧ _))).mono ?_
  rintro e _ ⟨rfl, rfl⟩
  go_wp2_with fail
  go_ret
  exact ⟨by first | rfl | simp, hfin⟩
end Go.Proofs.Ytnldfbcelakimaa
