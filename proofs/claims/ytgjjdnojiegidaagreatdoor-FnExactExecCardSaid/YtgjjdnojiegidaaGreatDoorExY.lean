/-
 A replacement: the document's.
-/
import Derived.Test.YtgjjdnojiegidaaGreatDoorTak
import Derived.Test.YtgjjdnojiegidaaGreatDoorExT
import Derived.Test.YtgjjdnojiegidaaGreatDoorHE
import Derived.Test.YtgjjdnojiegidaaGreatDoorHI
namespace Go.Proofs.YtgjjdnojiegidaaGreatDoor
open Go.RowKit Wire
set_option maxHeartbeats 6400000
set_option maxRecDepth 100000
set_option linter.unusedSimpArgs false
set_option linter.unusedVariables false

theorem sAn {P : Program} (w : World) {ops : Array Oper} {o : Oper} {a : Act} {K : Act → World → Prop} {Q : Exit → Act → World → Prop} {E : Prop} (hgd : o.guard = none) (s x : Operand) (t : TypeId)
 (ho : o.op = .call { callee := .builtin .append, args := #[s, x], argTypes := #[t, t] })
 (base : Nat) (e : TypeId) (i : TypeInfo) (z : Value) (size bytes : Nat) (ht : P.underlying t = some (.slice e)) (hi : P.info? e = some i) (hz : i.zero = some z)
 (hsize : i.size = size) (hby : i.bytes = bytes) (hzs : z.cells.size = size) (hsz : 0 < size)
 (v : Value) (n : Nat) (xs : List Value) (hs : a.eval s = v) (hown : w.ownsRow base e size v n xs)
 (A : Option Addr) (m c : Nat) (hA : A = none → m = 0 ∧ c = 0) (news : List Value) (hx : a.eval x = .slice A m c) (hl : news.length = m * size) (hnews : ∀ ad, A = some ad → ∀ j u, news[j]? = some u → w.cell? (ad.add j) = some u) (h1 : ∀ u ∈ news, u.oneCell' = true)
 (h63 : n + m ≤ maxLen) (hbytes : (n + m) * bytes ≤ 140737488355328) (hbase : base ≤ w.heap.size)
 (h : ∀ v' w', w'.ownsRow base e size v' (n + m) (xs ++ news) → w.grownBy w' v.ownBlock → K (a.put o.dst v') w') :
 if Region.wanted o (yielded ops a.tmps) = true then Oper.wp P o a w K Q else E := by
 cases A with
 | some ad => exact sAa w hgd s x t ho base e i z size bytes ht hi hz hsize hby hzs hsz v n xs hs hown ad m c news hx hl (hnews ad rfl) h1 h63 hbytes hbase fun v' w' h2 h3 _ _ => h v' w' h2 h3
 | none =>
  rw [if_pos (by simp [Region.wanted, hgd])]
  obtain ⟨rfl, rfl⟩ := hA rfl
  have hr := run_append_owned_none (P := P) (w := w) base t o.type e i size ht hi v n xs hown
  have e0 : news = [] := List.eq_nil_of_length_eq_zero (by rw [hl]; omega)
  subst e0
  unfold Oper.wp execOp
  simp only [ho, resolve, invoke, builtin, Sem.run_bind, Sem.run_pure, Result.andThen_ok, List.map_toArray, List.map_cons, List.map_nil, hs, hx, hr]
  exact h v w (by simpa using hown) (World.grownBy.refl _ _)
theorem exL_yes {s : Int} {f : Nat → Int} {ok : Bool} {k sy ac id sd pr qt md : Int} {za zb : List Int} {n m : Nat} (h : whyA ok f k sy ac id sd pr qt md za n zb m = 0) : exL s f ok k sy ac id sd pr qt md za n zb m = doT s f k ac id sd pr qt md za n zb m := by
 unfold exL
 rw [if_pos h]
theorem rdZ_set {zs : List Int} {n k : Nat} {id qt : Int} (hz : zs.length = n * 4) (_ : k < n) (hi : num zs (k * 4) = id) (hd : ∀ j, j < n → num zs (j * 4) = id → j = k) : zs.set (k * 4 + 3) qt = rdZ zs id qt n := by
 apply List.ext_getElem?
 intro i
 have hl := rdZ_len zs id qt n
 rcases Nat.lt_or_ge i (n * 4) with hi4 | hi4
 · have e1 : i = i / 4 * 4 + i % 4 := by omega
   have h1 : (zs.set (k * 4 + 3) qt)[i]? = some (num (zs.set (k * 4 + 3) qt) i) := by simp [num, List.getD, List.length_set, hz, hi4]
   have h2 : (rdZ zs id qt n)[i]? = some (num (rdZ zs id qt n) i) := by simp [num, List.getD, hl, hi4]
   rw [h1, h2]
   congr 1
   rw [e1, rdZ_at zs id qt n (i / 4) (i % 4) (by omega) (by omega)]
   by_cases hq : i / 4 * 4 + i % 4 = k * 4 + 3
   · rw [hq, qnum_eq (by omega)]
     have a1 : i % 4 = 3 := by omega
     have a2 : i / 4 = k := by omega
     rw [if_pos ⟨a1, by rw [a2]; exact hi⟩]
   · rw [qnum_ne (fun e => hq e.symm), if_neg (fun h => hq (by have := hd (i / 4) (by omega) h.2; omega))]
 · rw [List.getElem?_eq_none (by rw [List.length_set]; omega), List.getElem?_eq_none (by omega)]
theorem found_at {za zb : List Int} {n m : Nat} {id s : Int} {f : Nat → Int} (hb : bookB za n zb m = true) (hf : FindRel (bookB za n zb m) za n zb m id s f true) :
 (s = 1 ∧ noId zb m id ∧ ∃ k, k < n ∧ num za (k * 4) = id) ∨ (s = 2 ∧ noId za n id ∧ ∃ k, k < m ∧ num zb (k * 4) = id) := by
 rcases found_rows hb hf with ⟨e, hno, -⟩ | ⟨e, hno, -⟩
 · subst e
   rcases hf with ⟨-, k, hk, -, hi, -⟩ | ⟨-, -, k, -, -, -, c, -⟩ | ⟨-, -, c, -⟩
   · exact .inl ⟨rfl, hno, k, hk, hi⟩
   · cases c
   · cases c
 · subst e
   rcases hf with ⟨-, k, -, -, -, c, -⟩ | ⟨-, -, k, hk, -, hi, -⟩ | ⟨-, -, c, -⟩
   · cases c
   · exact .inr ⟨rfl, hno, k, hk, hi⟩
   · cases c
theorem spec_l4Replace (base : Nat) (A : Option Addr) (n c : Nat) (B : Option Addr) (m d : Nat) (za zb : List Int) (sy ac id sd pr qt md : Int) (w : World) (hT : TwoRows w base (.slice A n c) n za (.slice B m d) m zb) (hbase : base ≤ w.heap.size) (HBK : Hid (bookB za n zb m = true)) (HCO : Hid (cmdB 7 sy ac id sd pr qt md = true)) (s : Int) (f : Nat → Int) (ok : Bool) (HF : Hid (FindRel (bookB za n zb m) za n zb m id s f ok)) :
 Calls Tryz.prog 41 #[.agg #[.slice A n c, .slice B m d], .agg #[.int .i64 7, .int .i64 sy, .int .i64 ac, .int .i64 id, .int .i64 sd, .int .i64 pr, .int .i64 qt, .int .i64 md]] w fun e w' => EAns w' base (exL s f ok 7 sy ac id sd pr qt md za n zb m) e ∧ Below w.heap.size w w' := by
 obtain ⟨kB, kC, kZ⟩ := three_blocks w (.cells #[.slice A n c, .slice B m d] 30) (.cells #[.int .i64 7, .int .i64 sy, .int .i64 ac, .int .i64 id, .int .i64 sd, .int .i64 pr, .int .i64 qt, .int .i64 md] 35) (.cells #[.slice none 0 0, .slice none 0 0] 30)
 have D : Below w.heap.size w (((w.alloc (.cells #[.slice A n c, .slice B m d] 30)).alloc (.cells #[.int .i64 7, .int .i64 sy, .int .i64 ac, .int .i64 id, .int .i64 sd, .int .i64 pr, .int .i64 qt, .int .i64 md] 35)).alloc (.cells #[.slice none 0 0, .slice none 0 0] 30)) := (((Below.refl _ _).alloc (Nat.le_refl _) _).alloc (by simp) _).alloc (by simp; omega) _
 have TI := hT.below D
 have hsm := book_small HBK.out
 have hlA : za.length = n * 4 := by have := hT.one.1; rwa [nums_length] at this
 have hlB : zb.length = m * 4 := by have := hT.two.1; rwa [nums_length] at this
 clear hT
 go_enter Tryz.func41, Tryz.ntmps41
 go_upto_region 1 with fail
 generalize (((w.alloc (.cells #[.slice A n c, .slice B m d] 30)).alloc (.cells #[.int .i64 7, .int .i64 sy, .int .i64 ac, .int .i64 id, .int .i64 sd, .int .i64 pr, .int .i64 qt, .int .i64 md] 35)).alloc (.cells #[.slice none 0 0, .slice none 0 0] 30)) = w0 at *
 obtain ⟨c0, c1, c2, c3, c4, c5, c6, c7⟩ := cmd_cell kC
 obtain ⟨p0, p1⟩ := rcell2 kB
 go_wp2_with fail
 refine (spec_FindO A n c B m d za zb id w0 (Lst.of_own TI.one) (Lst.of_own TI.two) (by omega) (by omega) (oN8 TI.one) (oN8 TI.two)).mono ?_
 rintro e w1 ⟨⟨s', f', ok', hrel, rfl⟩, hb1⟩
 obtain ⟨rfl, rfl, e0, e1, e2, e3⟩ := find_same HF.out hrel
 rw [e0, e1, e2, e3]
 clear e0 e1 e2 e3 hrel c0 c1 c2 c3 c4 c5 c6 c7 p0 p1
 replace kB := bk1 hb1 kB
 replace kC := bk1 hb1 kC
 replace kZ := bk1 hb1 kZ
 replace D := D.trans (hb1.mono D.size)
 replace TI := TI.below hb1
 clear hb1
 obtain ⟨f0, hf0⟩ : ∃ x, f 0 = x := ⟨_, rfl⟩
 obtain ⟨f1, hf1⟩ : ∃ x, f 1 = x := ⟨_, rfl⟩
 obtain ⟨f2, hf2⟩ : ∃ x, f 2 = x := ⟨_, rfl⟩
 obtain ⟨f3, hf3⟩ : ∃ x, f 3 = x := ⟨_, rfl⟩
 rw [hf0, hf1, hf2, hf3]
 have HF0 := Lib.hid hf0
 have HF1 := Lib.hid hf1
 have HF2 := Lib.hid hf2
 have HF3 := Lib.hid hf3
 clear hf0 hf1 hf2 hf3
 go_upto_region 2 with fail
 have kF := heap_alloc_new w1 (.cells #[.int .i64 f0, .int .i64 f1, .int .i64 f2, .int .i64 f3] 65)
 have hba : Below w1.heap.size w1 (w1.alloc (.cells #[.int .i64 f0, .int .i64 f1, .int .i64 f2, .int .i64 f3] 65)) := (Below.refl _ _).alloc (Nat.le_refl _) _
 replace kB := bk1 hba kB
 replace kC := bk1 hba kC
 replace kZ := bk1 hba kZ
 replace D := D.trans (hba.mono D.size)
 replace TI := TI.below hba
 clear hba
 generalize w1.alloc (.cells #[.int .i64 f0, .int .i64 f1, .int .i64 f2, .int .i64 f3] 65) = w2 at *
 generalize w1.heap.size = XF at *
 obtain ⟨o0, o1, o2, o3⟩ := rrcell4 kF
 obtain ⟨c0, c1, c2, c3, c4, c5, c6, c7⟩ := cmd_cell kC
 cases ok'
 · go_upto_region 3 with fail
   clear o0 o1 o2 o3 c0 c1 c2 c3 c4 c5 c6 c7
   refine wp_region_held_drew (S := (fun w' => w'.heap[w.heap.size]? = some (.cells #[.slice A n c, .slice B m d] 30 (0, 0)) ∧ w'.heap[w.heap.size + 1]? = some (.cells #[.int .i64 7, .int .i64 sy, .int .i64 ac, .int .i64 id, .int .i64 sd, .int .i64 pr, .int .i64 qt, .int .i64 md] 35 (0, 0)))) (by kernel_rfl) ?hSm1 (fun zH => ?restm1)
   case hSm1 => exact ⟨kB, kC⟩
   refine tkY 0 (hy := by ((intro wS hSw; obtain ⟨t0, t1⟩ := rcell2 hSw.1; go_simp) <;> with_reducible rfl)) (h := ?_)
   refine tkY 1 (hy := by ((intro wS hSw; obtain ⟨t0, t1, t2, t3, t4, t5, t6, t7⟩ := cmd_cell hSw.2; go_simp) <;> with_reducible rfl)) (h := ?_)
   refine rd1 2 (fun K hK => ?_)
   replace D := D.drew
   replace TI := TI.below (Below.refl _ _).drew
   go_simp
   refine (spec_l4Reject 7 sy ac id sd pr qt md 4 _).mono ?_
   rintro e vr ⟨⟨rv, rfl, RR⟩, hbr⟩
   have hrl := D.size
   replace kB := bk1 hbr kB
   replace kC := bk1 hbr kC
   replace kZ := bk1 hbr kZ
   replace D := D.trans (hbr.mono D.size)
   replace TI := TI.below hbr
   replace RR := oMn RR hrl
   clear hbr hrl
   refine hK.out _ _ (⟨kB, kC⟩) (fun zH => ?_)
   clear hK K
   try simp only [Act.put, sA, sB, sC]
   refine rd1 3 (fun K hK => ?_)
   obtain ⟨z0, z1, g0, g1⟩ := cz2 kZ
   go_simp
   clear z0 z1 g0 g1
   replace TI := tSk (i := 1) (u := .slice B m d) (tSk (i := 0) (u := .slice A n c) TI kZ (by decide)) (zS0 (u := .slice A n c) kZ) (by decide)
   replace RR := oSk (i := 1) (u := .slice B m d) (oSk (i := 0) (u := .slice A n c) RR kZ (by decide)) (zS0 (u := .slice A n c) kZ) (by decide)
   replace D := (D.setCell (p := ⟨w.heap.size + 1 + 1, 0, none⟩) le2 (.slice A n c)).setCell (p := ⟨w.heap.size + 1 + 1, 1, none⟩) le2 (.slice B m d)
   have nB : w.heap.size ≠ w.heap.size + 1 + 1 := by omega
   have nC : w.heap.size + 1 ≠ w.heap.size + 1 + 1 := by omega
   replace kB := mSo (i := 1) (u := .slice B m d) (mSo (i := 0) (u := .slice A n c) kB nB) nB
   replace kC := mSo (i := 1) (u := .slice B m d) (mSo (i := 0) (u := .slice A n c) kC nC) nC
   have kZ' := zS1 (u := .slice B m d) (zS0 (u := .slice A n c) kZ)
   clear kZ nB nC
   have kZ := kZ'
   clear kZ'
   refine hK.out _ _ (⟨kB, kC⟩) (fun zH => ?_)
   clear hK K
   try simp only [Act.put, sA, sB, sC]
   refine tkV 4 ?_
   refine dn1 ?_
   generalize ((vr.setCell ⟨w.heap.size + 1 + 1, 0, none⟩ (.slice A n c)).setCell ⟨w.heap.size + 1 + 1, 1, none⟩ (.slice B m d)) = wf at *
   obtain ⟨Av, av, rfl, _, _⟩ := oSl RR
   have HR := Lib.hid RR
   have HT := Lib.hid TI
   have HD := Lib.hid D
   have HZ := Lib.hid kZ
   clear zH kB kC kZ RR TI D
   go_wp2_with fail
   obtain ⟨z0, z1, -⟩ := cz2 HZ.out
   refine bodyPost_ret (v := .tuple #[.agg #[.slice A n c, .slice B m d], .slice Av 1 av]) (by simp [results, Tryz.results41, go_sem, z0, z1]) rfl ⟨?_, HD.out⟩
   rw [exL_rej (show whyA false f 7 sy ac id sd pr qt md za n zb m = 4 by rw [whyA, if_pos ⟨HCO.out, by decide⟩, if_pos (.inr rfl), HF1.out]; exact whyO_no f1 ac) (by decide)]
   exact ⟨_, _, _, _, _, _, rfl, HT.out, oMn HR.out hbase⟩
 by_cases hf : f1 = ac
 rotate_left
 · have HFA := Lib.hid hf
   have hff : (f1 != ac) = true := by simp [hf]
   clear hf
   go_upto_region 3 with fail
   clear o0 o1 o2 o3 c0 c1 c2 c3 c4 c5 c6 c7
   refine wp_region_held_drew (S := (fun w' => w'.heap[w.heap.size]? = some (.cells #[.slice A n c, .slice B m d] 30 (0, 0)) ∧ w'.heap[w.heap.size + 1]? = some (.cells #[.int .i64 7, .int .i64 sy, .int .i64 ac, .int .i64 id, .int .i64 sd, .int .i64 pr, .int .i64 qt, .int .i64 md] 35 (0, 0)))) (by kernel_rfl) ?hSm7 (fun zH => ?restm7)
   case hSm7 => exact ⟨kB, kC⟩
   refine tkY 0 (hy := by ((intro wS hSw; obtain ⟨t0, t1⟩ := rcell2 hSw.1; go_simp) <;> with_reducible rfl)) (h := ?_)
   refine tkY 1 (hy := by ((intro wS hSw; obtain ⟨t0, t1, t2, t3, t4, t5, t6, t7⟩ := cmd_cell hSw.2; go_simp) <;> with_reducible rfl)) (h := ?_)
   refine rd1 2 (fun K hK => ?_)
   replace D := D.drew
   replace TI := TI.below (Below.refl _ _).drew
   go_simp
   refine (spec_l4Reject 7 sy ac id sd pr qt md 4 _).mono ?_
   rintro e vr ⟨⟨rv, rfl, RR⟩, hbr⟩
   have hrl := D.size
   replace kB := bk1 hbr kB
   replace kC := bk1 hbr kC
   replace kZ := bk1 hbr kZ
   replace D := D.trans (hbr.mono D.size)
   replace TI := TI.below hbr
   replace RR := oMn RR hrl
   clear hbr hrl
   refine hK.out _ _ (⟨kB, kC⟩) (fun zH => ?_)
   clear hK K
   try simp only [Act.put, sA, sB, sC]
   refine rd1 3 (fun K hK => ?_)
   obtain ⟨z0, z1, g0, g1⟩ := cz2 kZ
   go_simp
   clear z0 z1 g0 g1
   replace TI := tSk (i := 1) (u := .slice B m d) (tSk (i := 0) (u := .slice A n c) TI kZ (by decide)) (zS0 (u := .slice A n c) kZ) (by decide)
   replace RR := oSk (i := 1) (u := .slice B m d) (oSk (i := 0) (u := .slice A n c) RR kZ (by decide)) (zS0 (u := .slice A n c) kZ) (by decide)
   replace D := (D.setCell (p := ⟨w.heap.size + 1 + 1, 0, none⟩) le2 (.slice A n c)).setCell (p := ⟨w.heap.size + 1 + 1, 1, none⟩) le2 (.slice B m d)
   have nB : w.heap.size ≠ w.heap.size + 1 + 1 := by omega
   have nC : w.heap.size + 1 ≠ w.heap.size + 1 + 1 := by omega
   replace kB := mSo (i := 1) (u := .slice B m d) (mSo (i := 0) (u := .slice A n c) kB nB) nB
   replace kC := mSo (i := 1) (u := .slice B m d) (mSo (i := 0) (u := .slice A n c) kC nC) nC
   have kZ' := zS1 (u := .slice B m d) (zS0 (u := .slice A n c) kZ)
   clear kZ nB nC
   have kZ := kZ'
   clear kZ'
   refine hK.out _ _ (⟨kB, kC⟩) (fun zH => ?_)
   clear hK K
   try simp only [Act.put, sA, sB, sC]
   refine tkV 4 ?_
   refine dn1 ?_
   generalize ((vr.setCell ⟨w.heap.size + 1 + 1, 0, none⟩ (.slice A n c)).setCell ⟨w.heap.size + 1 + 1, 1, none⟩ (.slice B m d)) = wf at *
   obtain ⟨Av, av, rfl, _, _⟩ := oSl RR
   have HR := Lib.hid RR
   have HT := Lib.hid TI
   have HD := Lib.hid D
   have HZ := Lib.hid kZ
   clear zH kB kC kZ RR TI D
   go_wp2_with fail
   obtain ⟨z0, z1, -⟩ := cz2 HZ.out
   refine bodyPost_ret (v := .tuple #[.agg #[.slice A n c, .slice B m d], .slice Av 1 av]) (by simp [results, Tryz.results41, go_sem, z0, z1]) rfl ⟨?_, HD.out⟩
   rw [exL_rej (show whyA true f 7 sy ac id sd pr qt md za n zb m = 4 by rw [whyA, if_pos ⟨HCO.out, by decide⟩, if_pos (.inr rfl), HF1.out]; exact whyO_not HFA.out) (by decide)]
   exact ⟨_, _, _, _, _, _, rfl, HT.out, oMn HR.out hbase⟩
 have HFA := Lib.hid hf
 have hff : (f1 != ac) = false := by simp [hf]
 clear hf
 go_upto_region 4 with fail
 go_wp2_with fail
 refine (spec_l4GoneX f0 f1 f2 f3 w2).mono ?_
 rintro e w3 ⟨rfl, hb3⟩
 clear o0 o1 o2 o3 c0 c1 c2 c3 c4 c5 c6 c7
 replace kB := bk1 hb3 kB
 replace kC := bk1 hb3 kC
 replace kZ := bk1 hb3 kZ
 replace D := D.trans (hb3.mono D.size)
 replace TI := TI.below hb3
 replace kF := bk1 hb3 kF
 clear hb3
 have RG : (w3.alloc (.cells #[.int .i64 0, .int .i64 4, .int .i64 0, .int .i64 f1, .int .i64 f0, .int .i64 0, .int .i64 f2, .int .i64 f3] 48)).ownsRow w.heap.size 48 8 (.slice (some ⟨w3.heap.size, 0, none⟩) 1 1) 1 (nums (canR f0 f1 f2 f3)) := ⟨rfl, .inr ⟨w3.heap.size, 1, #[.int .i64 0, .int .i64 4, .int .i64 0, .int .i64 f1, .int .i64 f0, .int .i64 0, .int .i64 f2, .int .i64 f3], rfl, D.size, heap_alloc_new w3 (.cells #[.int .i64 0, .int .i64 4, .int .i64 0, .int .i64 f1, .int .i64 f0, .int .i64 0, .int .i64 f2, .int .i64 f3] 48), Nat.le_refl _, by unfold maxLen; omega, rfl, rfl⟩⟩
 have hba : Below w3.heap.size w3 (w3.alloc (.cells #[.int .i64 0, .int .i64 4, .int .i64 0, .int .i64 f1, .int .i64 f0, .int .i64 0, .int .i64 f2, .int .i64 f3] 48)) := (Below.refl _ _).alloc (Nat.le_refl _) _
 replace kB := bk1 hba kB
 replace kC := bk1 hba kC
 replace kZ := bk1 hba kZ
 replace D := D.trans (hba.mono D.size)
 replace TI := TI.below hba
 replace kF := bk1 hba kF
 clear hba
 obtain ⟨o0, o1, o2, o3⟩ := rrcell4 kF
 obtain ⟨c0, c1, c2, c3, c4, c5, c6, c7⟩ := cmd_cell kC
 go_upto_region 5 with fail
 generalize w3.alloc (.cells #[.int .i64 0, .int .i64 4, .int .i64 0, .int .i64 f1, .int .i64 f0, .int .i64 0, .int .i64 f2, .int .i64 f3] 48) = w4 at *
 generalize w3.heap.size = xg at *
 obtain ⟨i0, hi, hz0, hz1, hz2⟩ := info_parts rec_info
 obtain ⟨j0, hj, jz0, jz1, jz2⟩ := info_parts ord_info
 go_cut [47] (fun s47 wx => s47 = .bool (decide (pr = f2 ∧ qt ≤ f3)) ∧ wx = w4)
 case first =>
  by_cases h1 : pr = f2
  · have H1 := Lib.hid h1
    have t1 : (pr == f2) = true := by simp [h1]
    clear h1
    by_cases h2 : qt ≤ f3
    · have H2 := Lib.hid h2
      have t2 : decide (qt ≤ f3) = true := by simp [h2]
      clear h2
      go_wp2_with fail
      go_meet
      exact ⟨by rw [decide_eq_true ⟨H1.out, H2.out⟩], rfl⟩
    · have H2 := Lib.hid h2
      have t2 : decide (qt ≤ f3) = false := by simp [h2]
      clear h2
      go_wp2_with fail
      go_meet
      exact ⟨by rw [decide_eq_false (fun h => by have h1 := H2.out; have h2 := h.2; omega)], rfl⟩
  · have H1 := Lib.hid h1
    have t1 : (pr == f2) = false := by simp [h1]
    clear h1
    go_wp2_with fail
    go_meet
    exact ⟨by rw [decide_eq_false (fun h => H1.out h.1)], rfl⟩
 rename World => wcut
 obtain ⟨rfl, hwc⟩ := hcut
 replace hwc := hwc.symm
 subst hwc
 by_cases hp : pr = f2 ∧ qt ≤ f3
 · obtain ⟨hpp, hqq⟩ := hp
   have HP := Lib.hid hpp
   have HQ := Lib.hid hqq
   rw [decide_eq_true (p := pr = f2 ∧ qt ≤ f3) ⟨hpp, hqq⟩]
   clear hpp hqq
   rcases found_at HBK.out HF.out with ⟨hs1, hNO, kx, hKI⟩ | ⟨hs1, hNO, kx, hKI⟩
   · subst hs1
     obtain ⟨p0, p1⟩ := rcell2 kB
     have TE := own_empty w4 65 4
     have hba : Below w4.heap.size w4 (w4.alloc (.cells #[] 65)) := (Below.refl _ _).alloc (Nat.le_refl _) _
     have hTA : ∀ q, (Value.slice A n c).ownBlock = some q → q < w4.heap.size := fun q hq => (TI.one.lt q hq).2
     have hTB : ∀ q, (Value.slice B m d).ownBlock = some q → q < w4.heap.size := fun q hq => (TI.two.lt q hq).2
     have hlG := hlT kF
     have hlZ := hlT kZ
     have hlg : xg < w4.heap.size := (RG.lt xg rfl).2
     have hdw := D.size
     replace kB := bk1 hba kB
     replace kC := bk1 hba kC
     replace kZ := bk1 hba kZ
     replace D := D.trans (hba.mono D.size)
     replace TI := TI.below hba
     replace kF := bk1 hba kF
     replace RG := oBw RG hba
     clear hba
     obtain ⟨p0, p1⟩ := rcell2 kB
     obtain ⟨o0, o1, o2, o3⟩ := rrcell4 kF
     obtain ⟨c0, c1, c2, c3, c4, c5, c6, c7⟩ := cmd_cell kC
     go_wp2_with fail
     generalize w4.alloc (.cells #[] 65) = w5 at *
     generalize w4.heap.size = X at *
     refine (spec_l2ListO A n c B m d 1 w5).mono ?_
     rintro e w6 ⟨rfl, hb6⟩
     rw [if_pos rfl]
     replace TE := oBw TE hb6
     have hx6 : X ≤ w6.heap.size := by have := (TE.lt X rfl).2; omega
     replace kB := bk1 hb6 kB
     replace kC := bk1 hb6 kC
     replace kZ := bk1 hb6 kZ
     replace D := D.trans (hb6.mono D.size)
     replace TI := TI.below hb6
     replace kF := bk1 hb6 kF
     replace RG := oBw RG hb6
     clear hb6 p0 p1 o0 o1 o2 o3 c0 c1 c2 c3 c4 c5 c6 c7
     have hE1 := oN8 TI.one
     have hE2 := Lst.newsN (Lst.of_own TI.one)
     have hE3 : (nums za).length = n * 4 := TI.one.1
     go_wp2_with (at_builtin; refine wAn _ rfl _ _ 28 rfl X 65 j0 _ 4 32 Tryz.underlying28 hj jz0 jz1 jz2 rfl (by decide) _ _ _ rfl TE A n c hE1 (nums za) rfl hE3 hE2 (nums_one za) (by unfold maxLen; omega) (by omega) hx6 ?_)
     intro v7 w7 TL hg7
     have hg7' : w6.grownBy w7 (some X) := hg7
     clear hE1 hE2 hE3 TE hg7
     have nX : ∀ q, q < X → some q ≠ some X := fun q hq e => by injection e with e; omega
     replace TI : TwoRows w7 _ _ _ _ _ _ _ := ⟨own_apart TI.one hg7' (fun q hq => (nX q (hTA q hq)).symm), own_apart TI.two hg7' (fun q hq => (nX q (hTB q hq)).symm), TI.apart⟩
     replace RG := own_apart RG hg7' (fun q hq => by have e : some xg = some q := hq; injection e with e; subst e; exact (nX xg hlg).symm)
     replace kB := (hg7'.block _ (hlT kB) (nX _ (by omega))).trans kB
     replace kC := (hg7'.block _ (hlT kC) (nX _ (by omega))).trans kC
     replace kZ := (hg7'.block _ (hlT kZ) (nX _ hlZ)).trans kZ
     replace D := D.grown hg7' D.size (fun q hq => by injection hq with hq; omega)
     clear hg7' nX kF hlG
     obtain ⟨A7, a7, rfl, _, _⟩ := oSl TL
     go_upto_region 7 with fail
     have hlZ' := hlA
     have hOnce := (found_once (id := id) HBK.out).1
     refine wp_region_held_drew (S := (fun w' => w'.heap[w.heap.size]? = some (.cells #[.slice A n c, .slice B m d] 30 (0, 0)) ∧ w'.heap[w.heap.size + 1]? = some (.cells #[.int .i64 7, .int .i64 sy, .int .i64 ac, .int .i64 id, .int .i64 sd, .int .i64 pr, .int .i64 qt, .int .i64 md] 35 (0, 0)))) (by kernel_rfl) ?hSm13 (fun zH => ?restm13)
     case hSm13 => exact ⟨kB, kC⟩
     refine tkV 0 ?_
     refine tkV 1 ?_
     refine tkV 2 ?_
     refine tkY 3 (hy := by ((intro wS hSw; obtain ⟨t0, t1, t2, t3, t4, t5, t6, t7⟩ := cmd_cell hSw.2; go_simp) <;> with_reducible rfl)) (h := ?_)
     refine tkV 5 ?_
     refine tkY 6 (hy := by ((intro wS hSw; obtain ⟨t0, t1, t2, t3, t4, t5, t6, t7⟩ := cmd_cell hSw.2; go_simp) <;> with_reducible rfl)) (h := ?_)
     refine rd1 4 (fun K hK => ?_)
     replace D := D.drew
     replace TI := TI.below (Below.refl _ _).drew
     replace RG := oBw RG (Below.refl _ _).drew
     replace TL := oBw TL (Below.refl _ _).drew
     go_simp
     refine (spec_l2At A7 n a7 za id _ (Lst.of_own TL) (by omega)).mono ?_
     rintro e v4 ⟨⟨zi, hat, rfl⟩, hb4⟩
     replace kB := bk1 hb4 kB
     replace kC := bk1 hb4 kC
     replace kZ := bk1 hb4 kZ
     replace D := D.trans (hb4.mono D.size)
     replace TI := TI.below hb4
     replace RG := oBw RG hb4
     replace TL := oBw TL hb4
     clear hb4
     obtain ⟨kk, hkk, rfl, hki⟩ : ∃ kk : Nat, kk < n ∧ zi = (kk : Int) ∧ num za (kk * 4) = id := by
      rcases hat with ⟨-, h0⟩ | ⟨kk, hkk, e1, e2, -⟩
      · exact absurd hKI.2 (h0 kx hKI.1)
      · exact ⟨kk, hkk, e1, e2⟩
     clear hat
     obtain ⟨g7, cp7, hv7, -, -⟩ := TL.form (by omega)
     injection hv7 with hv1 hv2 hv3
     subst hv1
     clear hv2 hv3
     have hb1 : (0 : Int) ≤ (kk : Int) := by omega
     have hb2 : (kk : Int) < (n : Int) := by omega
     have hb3 : IntKind.i64.wrap (kk : Int) = (kk : Int) := by rw [IntKind.wrap_i64]; omega
     have hb5 : ((0 : Int) ≤ (kk : Int) ∧ (kk : Int) < (n : Int)) = True := by simp; omega
     refine hK.out _ _ (⟨kB, kC⟩) (fun zH => ?_)
     clear hK K
     try simp only [Act.put, sA, sB, sC]
     refine tkV 7 ?_
     refine tkV 8 ?_
     refine rd1 9 (fun K hK => ?_)
     have q3 := own_at TL (i := kk * 4 + 3) (by omega)
     have f3 := own_freeN TL (kk * 4 + 3)
     go_simp
     clear q3 f3
     have hgX : X ≤ g7 := (TL.lt g7 rfl).1
     have TL' : (v4.setCell ⟨g7, kk * 4 + 3, none⟩ (.int .i64 qt)).ownsRow X 65 4 _ n (nums (za.set (kk * 4 + 3) qt)) := own_putN TL (kk * 4 + 3) qt
     have TI' : TwoRows (v4.setCell ⟨g7, kk * 4 + 3, none⟩ (.int .i64 qt)) _ _ _ _ _ _ _ := ⟨own_set_ne TI.one (fun e => by have := hTA _ e; omega), own_set_ne TI.two (fun e => by have := hTB _ e; omega), TI.apart⟩
     have RG' := own_set_ne (S := g7) (i := kk * 4 + 3) (u := .int .i64 qt) RG (fun e => by have e2 : some xg = some g7 := e; injection e2 with e2; omega)
     have nB : w.heap.size ≠ g7 := by omega
     have nC : w.heap.size + 1 ≠ g7 := by omega
     have nZ : w.heap.size + 1 + 1 ≠ g7 := by omega
     replace kB := mSo (i := kk * 4 + 3) (u := .int .i64 qt) kB nB
     replace kC := mSo (i := kk * 4 + 3) (u := .int .i64 qt) kC nC
     replace kZ := mSo (i := kk * 4 + 3) (u := .int .i64 qt) kZ nZ
     replace D := D.setCell (p := ⟨g7, kk * 4 + 3, none⟩) (show w.heap.size ≤ g7 by omega) (.int .i64 qt)
     clear TL TI RG nB nC nZ
     have TL := TL'
     have TI := TI'
     have RG := RG'
     clear TL' TI' RG'
     rw [rdZ_set hlZ' hkk hki (fun j hj e => hOnce j kk hj hkk e hki)] at TL
     refine hK.out _ _ (⟨kB, kC⟩) (fun zH => ?_)
     clear hK K
     try simp only [Act.put, sA, sB, sC]
     refine dn1 ?_
     generalize (v4.setCell ⟨g7, kk * 4 + 3, none⟩ (.int .i64 qt)) = w8 at *
     clear zH hb1 hb2 hb3 hb5 hkk hki
     go_upto_region 8 with fail
     refine wp_region_held_drew (S := (fun w' => w'.heap[w.heap.size]? = some (.cells #[.slice A n c, .slice B m d] 30 (0, 0)) ∧ w'.heap[w.heap.size + 1]? = some (.cells #[.int .i64 7, .int .i64 sy, .int .i64 ac, .int .i64 id, .int .i64 sd, .int .i64 pr, .int .i64 qt, .int .i64 md] 35 (0, 0)))) (by kernel_rfl) ?hSm24 (fun zH => ?restm24)
     case hSm24 => exact ⟨kB, kC⟩
     refine tkY 0 (hy := by ((intro wS hSw; obtain ⟨t0, t1⟩ := rcell2 hSw.1; go_simp) <;> with_reducible rfl)) (h := ?_)
     refine tkV 1 ?_
     refine tkV 2 ?_
     refine tkV 4 ?_
     refine tkY 5 (hy := by ((intro wS hSw; obtain ⟨t0, t1, t2, t3, t4, t5, t6, t7⟩ := cmd_cell hSw.2; go_simp) <;> with_reducible rfl)) (h := ?_)
     refine rd1 3 (fun K hK => ?_)
     replace D := D.drew
     replace TI := TI.below (Below.refl _ _).drew
     replace RG := oBw RG (Below.refl _ _).drew
     replace TL := oBw TL (Below.refl _ _).drew
     go_simp
     refine (spec_l2With1 A n c B m d za zb (some ⟨g7, 0, none⟩) n a7 _ (Lst.of_own TI.one) (Lst.of_own TI.two) (by omega) (by omega) (oN8 TI.one) (oN8 TI.two)).mono ?_
     rintro e v3 ⟨⟨r3, rfl, hr3, -⟩, hb3⟩
     have hTLl := (TL.lt g7 rfl).2
     have hr3l : ∀ q, r3.ownBlock = some q → g7 < q := fun q hq => by have := (hr3.lt q hq).1; omega
     have hx3 := D.size
     replace kB := bk1 hb3 kB
     replace kC := bk1 hb3 kC
     replace kZ := bk1 hb3 kZ
     replace D := D.trans (hb3.mono D.size)
     replace RG := oBw RG hb3
     replace TL := oBw TL hb3
     clear hb3 TI
     have TT : TwoRows v3 w.heap.size (.slice (some ⟨g7, 0, none⟩) n a7) n (rdZ za id qt n) r3 m zb := ⟨oMn TL (by omega), oMn hr3 hx3, fun q hq e => by have e2 : some g7 = some q := hq; injection e2 with e2; have := hr3l q e; omega⟩
     clear TL hr3 hr3l hx3 hTLl
     obtain ⟨C3, c3, rfl, -, -⟩ := oSl TT.two
     refine hK.out _ _ (⟨kB, kC⟩) (fun zH => ?_)
     clear hK K
     try simp only [Act.put, sA, sB, sC]
     refine rd1 6 (fun K hK => ?_)
     go_simp
     refine (spec_l4Ack 7 sy ac id sd pr qt md _).mono ?_
     rintro e v6 ⟨rfl, hb6⟩
     replace kB := bk1 hb6 kB
     replace kC := bk1 hb6 kC
     replace kZ := bk1 hb6 kZ
     replace D := D.trans (hb6.mono D.size)
     replace RG := oBw RG hb6
     replace TT := TT.below hb6
     clear hb6
     refine hK.out _ _ (⟨kB, kC⟩) (fun zH => ?_)
     clear hK K
     try simp only [Act.put, sA, sB, sC]
     refine rd1 7 (fun K hK => ?_)
     go_simp
     have RK : (v6.alloc (.cells #[.int .i64 0, .int .i64 1, .int .i64 0, .int .i64 ac, .int .i64 id, .int .i64 0, .int .i64 pr, .int .i64 qt] 48)).ownsRow w.heap.size 48 8 (.slice (some ⟨v6.heap.size, 0, none⟩) 1 1) 1 (nums (ackR ac id pr qt)) := ⟨rfl, .inr ⟨v6.heap.size, 1, #[.int .i64 0, .int .i64 1, .int .i64 0, .int .i64 ac, .int .i64 id, .int .i64 0, .int .i64 pr, .int .i64 qt], rfl, D.size, heap_alloc_new v6 (.cells #[.int .i64 0, .int .i64 1, .int .i64 0, .int .i64 ac, .int .i64 id, .int .i64 0, .int .i64 pr, .int .i64 qt] 48), Nat.le_refl _, by unfold maxLen; omega, rfl, rfl⟩⟩
     have hba : Below v6.heap.size v6 (v6.alloc (.cells #[.int .i64 0, .int .i64 1, .int .i64 0, .int .i64 ac, .int .i64 id, .int .i64 0, .int .i64 pr, .int .i64 qt] 48)) := (Below.refl _ _).alloc (Nat.le_refl _) _
     replace kB := bk1 hba kB
     replace kC := bk1 hba kC
     replace kZ := bk1 hba kZ
     replace D := D.trans (hba.mono D.size)
     replace RG := oBw RG hba
     replace TT := TT.below hba
     clear hba
     generalize v6.alloc (.cells #[.int .i64 0, .int .i64 1, .int .i64 0, .int .i64 ac, .int .i64 id, .int .i64 0, .int .i64 pr, .int .i64 qt] 48) = v7 at *
     generalize v6.heap.size = xk at *
     refine hK.out _ _ (⟨kB, kC⟩) (fun zH => ?_)
     clear hK K
     try simp only [Act.put, sA, sB, sC]
     refine rd1 8 (fun K hK => ?_)
     have hD8 := D.size
     refine sAn _ rfl _ _ 31 rfl w.heap.size 48 i0 _ 8 64 Tryz.underlying31 hi hz0 hz1 hz2 rfl (by decide) (.slice (some ⟨xg, 0, none⟩) 1 1) 1 (nums (canR f0 f1 f2 f3)) rfl RG (some ⟨xk, 0, none⟩) 1 1 (fun e => by cases e) (nums (ackR ac id pr qt)) rfl rfl (Lst.newsN (Lst.of_own RK)) (nums_one _) (by unfold maxLen; omega) (by omega) hD8 ?_
     intro v8 w8' RI hg8
     have mB := rec_ne RG kB (by decide)
     have mC := rec_ne RG kC (by decide)
     have mZ := rec_ne RG kZ (by decide)
     replace TT := tGr TT RG hg8
     replace kB := (hg8.block _ (hlT kB) mB).trans kB
     replace kC := (hg8.block _ (hlT kC) mC).trans kC
     replace kZ := (hg8.block _ (hlT kZ) mZ).trans kZ
     replace D := D.grown hg8 D.size (fun q hq => (RG.lt q hq).1)
     rw [← nums_append] at RI
     clear hg8 RG RK mB mC mZ hD8
     obtain ⟨Av, av, rfl, -, -⟩ := oSl RI
     refine hK.out _ _ (⟨kB, kC⟩) (fun zH => ?_)
     clear hK K
     try simp only [Act.put, sA, sB, sC]
     refine rd1 9 (fun K hK => ?_)
     obtain ⟨z0, z1, g0, g1⟩ := cz2 kZ
     go_simp
     clear z0 z1 g0 g1
     replace TT := tSk (i := 1) (u := .slice C3 m c3) (tSk (i := 0) (u := .slice (some ⟨g7, 0, none⟩) n a7) TT kZ (by decide)) (zS0 (u := .slice (some ⟨g7, 0, none⟩) n a7) kZ) (by decide)
     replace RI := oSk (i := 1) (u := .slice C3 m c3) (oSk (i := 0) (u := .slice (some ⟨g7, 0, none⟩) n a7) RI kZ (by decide)) (zS0 (u := .slice (some ⟨g7, 0, none⟩) n a7) kZ) (by decide)
     replace D := (D.setCell (p := ⟨w.heap.size + 1 + 1, 0, none⟩) le2 (.slice (some ⟨g7, 0, none⟩) n a7)).setCell (p := ⟨w.heap.size + 1 + 1, 1, none⟩) le2 (.slice C3 m c3)
     have nB : w.heap.size ≠ w.heap.size + 1 + 1 := by omega
     have nC : w.heap.size + 1 ≠ w.heap.size + 1 + 1 := by omega
     replace kB := mSo (i := 1) (u := .slice C3 m c3) (mSo (i := 0) (u := .slice (some ⟨g7, 0, none⟩) n a7) kB nB) nB
     replace kC := mSo (i := 1) (u := .slice C3 m c3) (mSo (i := 0) (u := .slice (some ⟨g7, 0, none⟩) n a7) kC nC) nC
     have kZ' := zS1 (u := .slice C3 m c3) (zS0 (u := .slice (some ⟨g7, 0, none⟩) n a7) kZ)
     clear kZ nB nC
     have kZ := kZ'
     clear kZ'
     refine hK.out _ _ (⟨kB, kC⟩) (fun zH => ?_)
     clear hK K
     try simp only [Act.put, sA, sB, sC]
     refine tkV 10 ?_
     refine dn1 ?_
     generalize ((w8'.setCell ⟨w.heap.size + 1 + 1, 0, none⟩ (.slice (some ⟨g7, 0, none⟩) n a7)).setCell ⟨w.heap.size + 1 + 1, 1, none⟩ (.slice C3 m c3)) = wf at *
     have HR := Lib.hid RI
     have HT := Lib.hid TT
     have HD := Lib.hid D
     have HZ := Lib.hid kZ
     clear zH kB kC kZ RI TT D
     go_wp2_with fail
     obtain ⟨z0, z1, -⟩ := cz2 HZ.out
     refine bodyPost_ret (v := .tuple #[.agg #[.slice (some ⟨g7, 0, none⟩) n a7, .slice C3 m c3], .slice Av (1 + 1) av]) (by simp [results, Tryz.results41, go_sem, z0, z1]) rfl ⟨?_, HD.out⟩
     rw [exL_yes (show whyA true f 7 sy ac id sd pr qt md za n zb m = 0 by rw [whyA, if_pos ⟨HCO.out, by decide⟩, if_pos (.inr rfl), HF1.out]; exact whyO_yes HFA.out), doT, if_neg (by decide), if_pos rfl, HF2.out, HF3.out, if_pos ⟨HP.out, HQ.out⟩, HF0.out, HF1.out]
     exact ⟨_, _, _, _, _, _, rfl, by rw [rdZ_no hlB hNO]; exact HT.out.mono hbase, oMn HR.out hbase⟩
   · subst hs1
     obtain ⟨p0, p1⟩ := rcell2 kB
     have TE := own_empty w4 65 4
     have hba : Below w4.heap.size w4 (w4.alloc (.cells #[] 65)) := (Below.refl _ _).alloc (Nat.le_refl _) _
     have hTA : ∀ q, (Value.slice A n c).ownBlock = some q → q < w4.heap.size := fun q hq => (TI.one.lt q hq).2
     have hTB : ∀ q, (Value.slice B m d).ownBlock = some q → q < w4.heap.size := fun q hq => (TI.two.lt q hq).2
     have hlG := hlT kF
     have hlZ := hlT kZ
     have hlg : xg < w4.heap.size := (RG.lt xg rfl).2
     have hdw := D.size
     replace kB := bk1 hba kB
     replace kC := bk1 hba kC
     replace kZ := bk1 hba kZ
     replace D := D.trans (hba.mono D.size)
     replace TI := TI.below hba
     replace kF := bk1 hba kF
     replace RG := oBw RG hba
     clear hba
     obtain ⟨p0, p1⟩ := rcell2 kB
     obtain ⟨o0, o1, o2, o3⟩ := rrcell4 kF
     obtain ⟨c0, c1, c2, c3, c4, c5, c6, c7⟩ := cmd_cell kC
     go_wp2_with fail
     generalize w4.alloc (.cells #[] 65) = w5 at *
     generalize w4.heap.size = X at *
     refine (spec_l2ListO A n c B m d 2 w5).mono ?_
     rintro e w6 ⟨rfl, hb6⟩
     rw [if_neg (by decide)]
     replace TE := oBw TE hb6
     have hx6 : X ≤ w6.heap.size := by have := (TE.lt X rfl).2; omega
     replace kB := bk1 hb6 kB
     replace kC := bk1 hb6 kC
     replace kZ := bk1 hb6 kZ
     replace D := D.trans (hb6.mono D.size)
     replace TI := TI.below hb6
     replace kF := bk1 hb6 kF
     replace RG := oBw RG hb6
     clear hb6 p0 p1 o0 o1 o2 o3 c0 c1 c2 c3 c4 c5 c6 c7
     have hE1 := oN8 TI.two
     have hE2 := Lst.newsN (Lst.of_own TI.two)
     have hE3 : (nums zb).length = m * 4 := TI.two.1
     go_wp2_with (at_builtin; refine wAn _ rfl _ _ 28 rfl X 65 j0 _ 4 32 Tryz.underlying28 hj jz0 jz1 jz2 rfl (by decide) _ _ _ rfl TE B m d hE1 (nums zb) rfl hE3 hE2 (nums_one zb) (by unfold maxLen; omega) (by omega) hx6 ?_)
     intro v7 w7 TL hg7
     have hg7' : w6.grownBy w7 (some X) := hg7
     clear hE1 hE2 hE3 TE hg7
     have nX : ∀ q, q < X → some q ≠ some X := fun q hq e => by injection e with e; omega
     replace TI : TwoRows w7 _ _ _ _ _ _ _ := ⟨own_apart TI.one hg7' (fun q hq => (nX q (hTA q hq)).symm), own_apart TI.two hg7' (fun q hq => (nX q (hTB q hq)).symm), TI.apart⟩
     replace RG := own_apart RG hg7' (fun q hq => by have e : some xg = some q := hq; injection e with e; subst e; exact (nX xg hlg).symm)
     replace kB := (hg7'.block _ (hlT kB) (nX _ (by omega))).trans kB
     replace kC := (hg7'.block _ (hlT kC) (nX _ (by omega))).trans kC
     replace kZ := (hg7'.block _ (hlT kZ) (nX _ hlZ)).trans kZ
     replace D := D.grown hg7' D.size (fun q hq => by injection hq with hq; omega)
     clear hg7' nX kF hlG
     obtain ⟨A7, a7, rfl, _, _⟩ := oSl TL
     go_upto_region 7 with fail
     have hlZ' := hlB
     have hOnce := (found_once (id := id) HBK.out).2
     refine wp_region_held_drew (S := (fun w' => w'.heap[w.heap.size]? = some (.cells #[.slice A n c, .slice B m d] 30 (0, 0)) ∧ w'.heap[w.heap.size + 1]? = some (.cells #[.int .i64 7, .int .i64 sy, .int .i64 ac, .int .i64 id, .int .i64 sd, .int .i64 pr, .int .i64 qt, .int .i64 md] 35 (0, 0)))) (by kernel_rfl) ?hSm36 (fun zH => ?restm36)
     case hSm36 => exact ⟨kB, kC⟩
     refine tkV 0 ?_
     refine tkV 1 ?_
     refine tkV 2 ?_
     refine tkY 3 (hy := by ((intro wS hSw; obtain ⟨t0, t1, t2, t3, t4, t5, t6, t7⟩ := cmd_cell hSw.2; go_simp) <;> with_reducible rfl)) (h := ?_)
     refine tkV 5 ?_
     refine tkY 6 (hy := by ((intro wS hSw; obtain ⟨t0, t1, t2, t3, t4, t5, t6, t7⟩ := cmd_cell hSw.2; go_simp) <;> with_reducible rfl)) (h := ?_)
     refine rd1 4 (fun K hK => ?_)
     replace D := D.drew
     replace TI := TI.below (Below.refl _ _).drew
     replace RG := oBw RG (Below.refl _ _).drew
     replace TL := oBw TL (Below.refl _ _).drew
     go_simp
     refine (spec_l2At A7 m a7 zb id _ (Lst.of_own TL) (by omega)).mono ?_
     rintro e v4 ⟨⟨zi, hat, rfl⟩, hb4⟩
     replace kB := bk1 hb4 kB
     replace kC := bk1 hb4 kC
     replace kZ := bk1 hb4 kZ
     replace D := D.trans (hb4.mono D.size)
     replace TI := TI.below hb4
     replace RG := oBw RG hb4
     replace TL := oBw TL hb4
     clear hb4
     obtain ⟨kk, hkk, rfl, hki⟩ : ∃ kk : Nat, kk < m ∧ zi = (kk : Int) ∧ num zb (kk * 4) = id := by
      rcases hat with ⟨-, h0⟩ | ⟨kk, hkk, e1, e2, -⟩
      · exact absurd hKI.2 (h0 kx hKI.1)
      · exact ⟨kk, hkk, e1, e2⟩
     clear hat
     obtain ⟨g7, cp7, hv7, -, -⟩ := TL.form (by omega)
     injection hv7 with hv1 hv2 hv3
     subst hv1
     clear hv2 hv3
     have hb1 : (0 : Int) ≤ (kk : Int) := by omega
     have hb2 : (kk : Int) < (m : Int) := by omega
     have hb3 : IntKind.i64.wrap (kk : Int) = (kk : Int) := by rw [IntKind.wrap_i64]; omega
     have hb5 : ((0 : Int) ≤ (kk : Int) ∧ (kk : Int) < (m : Int)) = True := by simp; omega
     refine hK.out _ _ (⟨kB, kC⟩) (fun zH => ?_)
     clear hK K
     try simp only [Act.put, sA, sB, sC]
     refine tkV 7 ?_
     refine tkV 8 ?_
     refine rd1 9 (fun K hK => ?_)
     have q3 := own_at TL (i := kk * 4 + 3) (by omega)
     have f3 := own_freeN TL (kk * 4 + 3)
     go_simp
     clear q3 f3
     have hgX : X ≤ g7 := (TL.lt g7 rfl).1
     have TL' : (v4.setCell ⟨g7, kk * 4 + 3, none⟩ (.int .i64 qt)).ownsRow X 65 4 _ m (nums (zb.set (kk * 4 + 3) qt)) := own_putN TL (kk * 4 + 3) qt
     have TI' : TwoRows (v4.setCell ⟨g7, kk * 4 + 3, none⟩ (.int .i64 qt)) _ _ _ _ _ _ _ := ⟨own_set_ne TI.one (fun e => by have := hTA _ e; omega), own_set_ne TI.two (fun e => by have := hTB _ e; omega), TI.apart⟩
     have RG' := own_set_ne (S := g7) (i := kk * 4 + 3) (u := .int .i64 qt) RG (fun e => by have e2 : some xg = some g7 := e; injection e2 with e2; omega)
     have nB : w.heap.size ≠ g7 := by omega
     have nC : w.heap.size + 1 ≠ g7 := by omega
     have nZ : w.heap.size + 1 + 1 ≠ g7 := by omega
     replace kB := mSo (i := kk * 4 + 3) (u := .int .i64 qt) kB nB
     replace kC := mSo (i := kk * 4 + 3) (u := .int .i64 qt) kC nC
     replace kZ := mSo (i := kk * 4 + 3) (u := .int .i64 qt) kZ nZ
     replace D := D.setCell (p := ⟨g7, kk * 4 + 3, none⟩) (show w.heap.size ≤ g7 by omega) (.int .i64 qt)
     clear TL TI RG nB nC nZ
     have TL := TL'
     have TI := TI'
     have RG := RG'
     clear TL' TI' RG'
     rw [rdZ_set hlZ' hkk hki (fun j hj e => hOnce j kk hj hkk e hki)] at TL
     refine hK.out _ _ (⟨kB, kC⟩) (fun zH => ?_)
     clear hK K
     try simp only [Act.put, sA, sB, sC]
     refine dn1 ?_
     generalize (v4.setCell ⟨g7, kk * 4 + 3, none⟩ (.int .i64 qt)) = w8 at *
     clear zH hb1 hb2 hb3 hb5 hkk hki
     go_upto_region 8 with fail
     refine wp_region_held_drew (S := (fun w' => w'.heap[w.heap.size]? = some (.cells #[.slice A n c, .slice B m d] 30 (0, 0)) ∧ w'.heap[w.heap.size + 1]? = some (.cells #[.int .i64 7, .int .i64 sy, .int .i64 ac, .int .i64 id, .int .i64 sd, .int .i64 pr, .int .i64 qt, .int .i64 md] 35 (0, 0)))) (by kernel_rfl) ?hSm47 (fun zH => ?restm47)
     case hSm47 => exact ⟨kB, kC⟩
     refine tkY 0 (hy := by ((intro wS hSw; obtain ⟨t0, t1⟩ := rcell2 hSw.1; go_simp) <;> with_reducible rfl)) (h := ?_)
     refine tkV 1 ?_
     refine tkV 2 ?_
     refine tkV 4 ?_
     refine tkY 5 (hy := by ((intro wS hSw; obtain ⟨t0, t1, t2, t3, t4, t5, t6, t7⟩ := cmd_cell hSw.2; go_simp) <;> with_reducible rfl)) (h := ?_)
     refine rd1 3 (fun K hK => ?_)
     replace D := D.drew
     replace TI := TI.below (Below.refl _ _).drew
     replace RG := oBw RG (Below.refl _ _).drew
     replace TL := oBw TL (Below.refl _ _).drew
     go_simp
     refine (spec_l2With2 A n c B m d za zb (some ⟨g7, 0, none⟩) m a7 _ (Lst.of_own TI.one) (Lst.of_own TI.two) (by omega) (by omega) (oN8 TI.one) (oN8 TI.two)).mono ?_
     rintro e v3 ⟨⟨r3, rfl, hr3, -⟩, hb3⟩
     have hTLl := (TL.lt g7 rfl).2
     have hr3l : ∀ q, r3.ownBlock = some q → g7 < q := fun q hq => by have := (hr3.lt q hq).1; omega
     have hx3 := D.size
     replace kB := bk1 hb3 kB
     replace kC := bk1 hb3 kC
     replace kZ := bk1 hb3 kZ
     replace D := D.trans (hb3.mono D.size)
     replace RG := oBw RG hb3
     replace TL := oBw TL hb3
     clear hb3 TI
     have TT : TwoRows v3 w.heap.size r3 n za (.slice (some ⟨g7, 0, none⟩) m a7) m (rdZ zb id qt m) := ⟨oMn hr3 hx3, oMn TL (by omega), fun q hq e => by have e2 : some g7 = some q := e; injection e2 with e2; have := hr3l q hq; omega⟩
     clear TL hr3 hr3l hx3 hTLl
     obtain ⟨C3, c3, rfl, -, -⟩ := oSl TT.one
     refine hK.out _ _ (⟨kB, kC⟩) (fun zH => ?_)
     clear hK K
     try simp only [Act.put, sA, sB, sC]
     refine rd1 6 (fun K hK => ?_)
     go_simp
     refine (spec_l4Ack 7 sy ac id sd pr qt md _).mono ?_
     rintro e v6 ⟨rfl, hb6⟩
     replace kB := bk1 hb6 kB
     replace kC := bk1 hb6 kC
     replace kZ := bk1 hb6 kZ
     replace D := D.trans (hb6.mono D.size)
     replace RG := oBw RG hb6
     replace TT := TT.below hb6
     clear hb6
     refine hK.out _ _ (⟨kB, kC⟩) (fun zH => ?_)
     clear hK K
     try simp only [Act.put, sA, sB, sC]
     refine rd1 7 (fun K hK => ?_)
     go_simp
     have RK : (v6.alloc (.cells #[.int .i64 0, .int .i64 1, .int .i64 0, .int .i64 ac, .int .i64 id, .int .i64 0, .int .i64 pr, .int .i64 qt] 48)).ownsRow w.heap.size 48 8 (.slice (some ⟨v6.heap.size, 0, none⟩) 1 1) 1 (nums (ackR ac id pr qt)) := ⟨rfl, .inr ⟨v6.heap.size, 1, #[.int .i64 0, .int .i64 1, .int .i64 0, .int .i64 ac, .int .i64 id, .int .i64 0, .int .i64 pr, .int .i64 qt], rfl, D.size, heap_alloc_new v6 (.cells #[.int .i64 0, .int .i64 1, .int .i64 0, .int .i64 ac, .int .i64 id, .int .i64 0, .int .i64 pr, .int .i64 qt] 48), Nat.le_refl _, by unfold maxLen; omega, rfl, rfl⟩⟩
     have hba : Below v6.heap.size v6 (v6.alloc (.cells #[.int .i64 0, .int .i64 1, .int .i64 0, .int .i64 ac, .int .i64 id, .int .i64 0, .int .i64 pr, .int .i64 qt] 48)) := (Below.refl _ _).alloc (Nat.le_refl _) _
     replace kB := bk1 hba kB
     replace kC := bk1 hba kC
     replace kZ := bk1 hba kZ
     replace D := D.trans (hba.mono D.size)
     replace RG := oBw RG hba
     replace TT := TT.below hba
     clear hba
     generalize v6.alloc (.cells #[.int .i64 0, .int .i64 1, .int .i64 0, .int .i64 ac, .int .i64 id, .int .i64 0, .int .i64 pr, .int .i64 qt] 48) = v7 at *
     generalize v6.heap.size = xk at *
     refine hK.out _ _ (⟨kB, kC⟩) (fun zH => ?_)
     clear hK K
     try simp only [Act.put, sA, sB, sC]
     refine rd1 8 (fun K hK => ?_)
     have hD8 := D.size
     refine sAn _ rfl _ _ 31 rfl w.heap.size 48 i0 _ 8 64 Tryz.underlying31 hi hz0 hz1 hz2 rfl (by decide) (.slice (some ⟨xg, 0, none⟩) 1 1) 1 (nums (canR f0 f1 f2 f3)) rfl RG (some ⟨xk, 0, none⟩) 1 1 (fun e => by cases e) (nums (ackR ac id pr qt)) rfl rfl (Lst.newsN (Lst.of_own RK)) (nums_one _) (by unfold maxLen; omega) (by omega) hD8 ?_
     intro v8 w8' RI hg8
     have mB := rec_ne RG kB (by decide)
     have mC := rec_ne RG kC (by decide)
     have mZ := rec_ne RG kZ (by decide)
     replace TT := tGr TT RG hg8
     replace kB := (hg8.block _ (hlT kB) mB).trans kB
     replace kC := (hg8.block _ (hlT kC) mC).trans kC
     replace kZ := (hg8.block _ (hlT kZ) mZ).trans kZ
     replace D := D.grown hg8 D.size (fun q hq => (RG.lt q hq).1)
     rw [← nums_append] at RI
     clear hg8 RG RK mB mC mZ hD8
     obtain ⟨Av, av, rfl, -, -⟩ := oSl RI
     refine hK.out _ _ (⟨kB, kC⟩) (fun zH => ?_)
     clear hK K
     try simp only [Act.put, sA, sB, sC]
     refine rd1 9 (fun K hK => ?_)
     obtain ⟨z0, z1, g0, g1⟩ := cz2 kZ
     go_simp
     clear z0 z1 g0 g1
     replace TT := tSk (i := 1) (u := .slice (some ⟨g7, 0, none⟩) m a7) (tSk (i := 0) (u := .slice C3 n c3) TT kZ (by decide)) (zS0 (u := .slice C3 n c3) kZ) (by decide)
     replace RI := oSk (i := 1) (u := .slice (some ⟨g7, 0, none⟩) m a7) (oSk (i := 0) (u := .slice C3 n c3) RI kZ (by decide)) (zS0 (u := .slice C3 n c3) kZ) (by decide)
     replace D := (D.setCell (p := ⟨w.heap.size + 1 + 1, 0, none⟩) le2 (.slice C3 n c3)).setCell (p := ⟨w.heap.size + 1 + 1, 1, none⟩) le2 (.slice (some ⟨g7, 0, none⟩) m a7)
     have nB : w.heap.size ≠ w.heap.size + 1 + 1 := by omega
     have nC : w.heap.size + 1 ≠ w.heap.size + 1 + 1 := by omega
     replace kB := mSo (i := 1) (u := .slice (some ⟨g7, 0, none⟩) m a7) (mSo (i := 0) (u := .slice C3 n c3) kB nB) nB
     replace kC := mSo (i := 1) (u := .slice (some ⟨g7, 0, none⟩) m a7) (mSo (i := 0) (u := .slice C3 n c3) kC nC) nC
     have kZ' := zS1 (u := .slice (some ⟨g7, 0, none⟩) m a7) (zS0 (u := .slice C3 n c3) kZ)
     clear kZ nB nC
     have kZ := kZ'
     clear kZ'
     refine hK.out _ _ (⟨kB, kC⟩) (fun zH => ?_)
     clear hK K
     try simp only [Act.put, sA, sB, sC]
     refine tkV 10 ?_
     refine dn1 ?_
     generalize ((w8'.setCell ⟨w.heap.size + 1 + 1, 0, none⟩ (.slice C3 n c3)).setCell ⟨w.heap.size + 1 + 1, 1, none⟩ (.slice (some ⟨g7, 0, none⟩) m a7)) = wf at *
     have HR := Lib.hid RI
     have HT := Lib.hid TT
     have HD := Lib.hid D
     have HZ := Lib.hid kZ
     clear zH kB kC kZ RI TT D
     go_wp2_with fail
     obtain ⟨z0, z1, -⟩ := cz2 HZ.out
     refine bodyPost_ret (v := .tuple #[.agg #[.slice C3 n c3, .slice (some ⟨g7, 0, none⟩) m a7], .slice Av (1 + 1) av]) (by simp [results, Tryz.results41, go_sem, z0, z1]) rfl ⟨?_, HD.out⟩
     rw [exL_yes (show whyA true f 7 sy ac id sd pr qt md za n zb m = 0 by rw [whyA, if_pos ⟨HCO.out, by decide⟩, if_pos (.inr rfl), HF1.out]; exact whyO_yes HFA.out), doT, if_neg (by decide), if_pos rfl, HF2.out, HF3.out, if_pos ⟨HP.out, HQ.out⟩, HF0.out, HF1.out]
     exact ⟨_, _, _, _, _, _, rfl, by rw [rdZ_no hlA hNO]; exact HT.out.mono hbase, oMn HR.out hbase⟩
 · have HP := Lib.hid hp
   have HRG2 := Lib.hid (rg_repl HBK.out (cmd_repl HCO.out).1 (cmd_repl HCO.out).2.1 HF.out)
   have hN20 := Nat.le_trans (tkN_le za id n) hsm.1
   have hM20 := Nat.le_trans (tkN_le zb id m) hsm.2
   have HLN := Lib.hid (pla_len (rest := true) (tkZ_len za id n) (tkZ_len zb id m) HRG2.out hN20 hM20)
   rw [decide_eq_false hp]
   clear hp
   go_upto_region 9 with fail
   clear o0 o1 o2 o3 c0 c1 c2 c3 c4 c5 c6 c7 kF
   go_cut [11, 12] (fun s11 s12 wx => ∃ xn C9 X1 c9 D9 X2 d9 Av X3 av, s11 = .pointer (some ⟨xn, 0, none⟩) ∧ s12 = .slice Av X3 av ∧ w.heap.size + 2 < xn ∧ wx.heap[xn]? = some (.cells #[.slice C9 X1 c9, .slice D9 X2 d9] 30 (0, 0)) ∧ wx.heap[w.heap.size + 1 + 1]? = some (.cells #[.slice none 0 0, .slice none 0 0] 30 (0, 0)) ∧ TwoRows wx w.heap.size (.slice C9 X1 c9) X1 (plaR id ac pr qt md s' true (tkZ za id n) (tkZ zb id m)).1 (.slice D9 X2 d9) X2 (plaR id ac pr qt md s' true (tkZ za id n) (tkZ zb id m)).2.1 ∧ wx.ownsRow w.heap.size 48 8 (.slice (some ⟨xg, 0, none⟩) 1 1) 1 (nums (canR f0 f1 f2 f3)) ∧ wx.ownsRow w.heap.size 48 8 (.slice Av X3 av) X3 (nums (plaR id ac pr qt md s' true (tkZ za id n) (tkZ zb id m)).2.2) ∧ Below w.heap.size w wx)
   case first =>
    refine wp_region_held_drew (S := (fun w' => w'.heap[w.heap.size]? = some (.cells #[.slice A n c, .slice B m d] 30 (0, 0)) ∧ w'.heap[w.heap.size + 1]? = some (.cells #[.int .i64 7, .int .i64 sy, .int .i64 ac, .int .i64 id, .int .i64 sd, .int .i64 pr, .int .i64 qt, .int .i64 md] 35 (0, 0)))) (by kernel_rfl) ?hSm59 (fun zH => ?restm59)
    case hSm59 => exact ⟨kB, kC⟩
    refine tkY 0 (hy := by ((intro wS hSw; obtain ⟨t0, t1⟩ := rcell2 hSw.1; go_simp) <;> with_reducible rfl)) (h := ?_)
    refine tkV 1 ?_
    refine tkY 2 (hy := by ((intro wS hSw; obtain ⟨t0, t1, t2, t3, t4, t5, t6, t7⟩ := cmd_cell hSw.2; go_simp) <;> with_reducible rfl)) (h := ?_)
    refine tkY 4 (hy := by ((intro wS hSw; obtain ⟨t0, t1, t2, t3, t4, t5, t6, t7⟩ := cmd_cell hSw.2; go_simp) <;> with_reducible rfl)) (h := ?_)
    refine tkV 5 ?_
    refine wpAnyH_ready (rs := [3, 10]) (by kernel_rfl) (by simp) ?_
    refine AllReadyH.cons (o := ?or65_3) ?hor65_3 (fun K hK => ?stepr65_3) (AllReadyH.cons (o := ?or65_10) ?hor65_10 (fun K hK => ?stepr65_10) (AllReadyH.nil))
    case hor65_3 => simp only [gA, gB, gC]; exact rfl
    case hor65_10 => simp only [gA, gB, gC]; exact rfl
    case stepr65_3 =>
     replace D := D.drew
     replace TI := TI.below (Below.refl _ _).drew
     replace RG := oBw RG (Below.refl _ _).drew
     go_simp
     refine (spec_l2TakeO A n c B m d za zb id _ (Lst.of_own TI.one) (Lst.of_own TI.two) (by omega) (by omega)).mono ?_
     rintro e v3 ⟨⟨t1, t2, rfl, ho1, ho2, hap⟩, hb3⟩
     have hx3 := D.size
     replace kB := bk1 hb3 kB
     replace kC := bk1 hb3 kC
     replace kZ := bk1 hb3 kZ
     replace D := D.trans (hb3.mono D.size)
     replace RG := oBw RG hb3
     have TT := (show TwoRows v3 _ t1 _ _ t2 _ _ from ⟨ho1, ho2, hap⟩).mono hx3
     clear hb3 ho1 ho2 hap hx3 TI
     obtain ⟨A9, a9, B9, b9, rfl, rfl⟩ := TT.slices
     refine hK.out _ _ (⟨kB, kC⟩) (fun zH => ?_)
     clear hK K
     try simp only [Act.put, sA, sB, sC]
     refine wpAnyH_ready (rs := [6, 10]) (by kernel_rfl) (by simp) ?_
     refine AllReadyH.cons (o := ?or66_6) ?hor66_6 (fun K hK => ?stepr66_6) (AllReadyH.cons (o := ?or66_10) ?hor66_10 (fun K hK => ?stepr66_10) (AllReadyH.nil))
     case hor66_6 => simp only [gA, gB, gC]; exact rfl
     case hor66_10 => simp only [gA, gB, gC]; exact rfl
     case stepr66_6 =>
      go_simp
      refine (spec_l4Place w.heap.size A9 (tkN za id n) a9 B9 (tkN zb id m) b9 (tkZ za id n) (tkZ zb id m) 7 sy ac id sd pr qt md s' true _ TT D.size HRG2).mono ?_
      rintro e v6 ⟨⟨t1, t2, t3, X1, X2, X3, rfl, TR, RR⟩, hb6⟩
      replace kB := bk1 hb6 kB
      replace kC := bk1 hb6 kC
      replace kZ := bk1 hb6 kZ
      replace D := D.trans (hb6.mono D.size)
      replace RG := oBw RG hb6
      clear hb6 TT
      obtain ⟨C9, c9, D9, d9, rfl, rfl⟩ := TR.slices
      obtain ⟨Av, av, rfl, -, -⟩ := oSl RR
      refine hK.out _ _ (⟨kB, kC⟩) (fun zH => ?_)
      clear hK K
      try simp only [Act.put, sA, sB, sC]
      refine tkV 7 ?_
      refine tkV 8 ?_
      refine tkV 9 ?_
      refine rd1 10 (fun K hK => ?_)
      go_simp
      have kN : (v6.alloc (.cells #[.slice none 0 0, .slice none 0 0] 30)).heap[v6.heap.size]? = some (.cells #[.slice none 0 0, .slice none 0 0] 30) := heap_alloc_new v6 (.cells #[.slice none 0 0, .slice none 0 0] 30)
      have hba : Below v6.heap.size v6 (v6.alloc (.cells #[.slice none 0 0, .slice none 0 0] 30)) := ((Below.refl _ v6).alloc (Nat.le_refl _) _)
      have hnZ : w.heap.size + 1 + 1 < v6.heap.size := hlT kZ
      have hnD := D.size
      replace kB := bk1 hba kB
      replace kC := bk1 hba kC
      replace kZ := bk1 hba kZ
      replace D := D.trans (hba.mono D.size)
      replace RG := oBw RG hba
      replace TR := TR.below hba
      replace RR := oBw RR hba
      clear hba
      generalize (v6.alloc (.cells #[.slice none 0 0, .slice none 0 0] 30)) = v10 at *
      have hxn : w.heap.size + 2 < v6.heap.size := by omega
      generalize v6.heap.size = xn at kN hxn ⊢
      clear hnZ hnD
      refine hK.out _ _ (⟨kB, kC⟩) (fun zH => ?_)
      clear hK K
      try simp only [Act.put, sA, sB, sC]
      refine rd1 11 (fun K hK => ?_)
      obtain ⟨z0, z1, g0, g1⟩ := cz2 kN
      go_simp
      clear z0 z1 g0 g1
      replace TR := tSk (i := 1) (u := .slice D9 X2 d9) (tSk (i := 0) (u := .slice C9 X1 c9) TR kN (by decide)) (zS0 (u := .slice C9 X1 c9) kN) (by decide)
      replace RG := oSk (i := 1) (u := .slice D9 X2 d9) (oSk (i := 0) (u := .slice C9 X1 c9) RG kN (by decide)) (zS0 (u := .slice C9 X1 c9) kN) (by decide)
      replace RR := oSk (i := 1) (u := .slice D9 X2 d9) (oSk (i := 0) (u := .slice C9 X1 c9) RR kN (by decide)) (zS0 (u := .slice C9 X1 c9) kN) (by decide)
      replace D := (D.setCell (p := ⟨xn, 0, none⟩) (show w.heap.size ≤ xn by omega) (.slice C9 X1 c9)).setCell (p := ⟨xn, 1, none⟩) (show w.heap.size ≤ xn by omega) (.slice D9 X2 d9)
      have nB : w.heap.size ≠ xn := by omega
      have nC : w.heap.size + 1 ≠ xn := by omega
      have nZ : w.heap.size + 1 + 1 ≠ xn := by omega
      replace kB := mSo (i := 1) (u := .slice D9 X2 d9) (mSo (i := 0) (u := .slice C9 X1 c9) kB nB) nB
      replace kC := mSo (i := 1) (u := .slice D9 X2 d9) (mSo (i := 0) (u := .slice C9 X1 c9) kC nC) nC
      replace kZ := mSo (i := 1) (u := .slice D9 X2 d9) (mSo (i := 0) (u := .slice C9 X1 c9) kZ nZ) nZ
      have kN' := zS1 (u := .slice D9 X2 d9) (zS0 (u := .slice C9 X1 c9) kN)
      clear kN nB nC
      have kN := kN'
      clear kN'
      refine hK.out _ _ (⟨kB, kC⟩) (fun zH => ?_)
      clear hK K
      try simp only [Act.put, sA, sB, sC]
      refine tkV 12 ?_
      refine dn1 ?_
      generalize ((v10.setCell ⟨xn, 0, none⟩ (.slice C9 X1 c9)).setCell ⟨xn, 1, none⟩ (.slice D9 X2 d9)) = w8 at *
      go_wp2_with fail
      go_meet
      exact ⟨xn, C9, X1, c9, D9, X2, d9, Av, X3, av, rfl, rfl, hxn, kN, kZ, TR, RG, RR, D⟩
     case stepr66_10 =>
      go_simp
      have kN : (v3.alloc (.cells #[.slice none 0 0, .slice none 0 0] 30)).heap[v3.heap.size]? = some (.cells #[.slice none 0 0, .slice none 0 0] 30) := heap_alloc_new v3 (.cells #[.slice none 0 0, .slice none 0 0] 30)
      have hba : Below v3.heap.size v3 (v3.alloc (.cells #[.slice none 0 0, .slice none 0 0] 30)) := ((Below.refl _ v3).alloc (Nat.le_refl _) _)
      have hnZ : w.heap.size + 1 + 1 < v3.heap.size := hlT kZ
      have hnD := D.size
      replace kB := bk1 hba kB
      replace kC := bk1 hba kC
      replace kZ := bk1 hba kZ
      replace D := D.trans (hba.mono D.size)
      replace RG := oBw RG hba
      replace TT := TT.below hba
      clear hba
      generalize (v3.alloc (.cells #[.slice none 0 0, .slice none 0 0] 30)) = v10 at *
      have hxn : w.heap.size + 2 < v3.heap.size := by omega
      generalize v3.heap.size = xn at kN hxn ⊢
      clear hnZ hnD
      refine hK.out _ _ (⟨kB, kC⟩) (fun zH => ?_)
      clear hK K
      try simp only [Act.put, sA, sB, sC]
      refine rd1 6 (fun K hK => ?_)
      go_simp
      refine (spec_l4Place w.heap.size A9 (tkN za id n) a9 B9 (tkN zb id m) b9 (tkZ za id n) (tkZ zb id m) 7 sy ac id sd pr qt md s' true _ TT D.size HRG2).mono ?_
      rintro e v6 ⟨⟨t1, t2, t3, X1, X2, X3, rfl, TR, RR⟩, hb6⟩
      replace kB := bk1 hb6 kB
      replace kC := bk1 hb6 kC
      replace kZ := bk1 hb6 kZ
      replace D := D.trans (hb6.mono D.size)
      replace RG := oBw RG hb6
      replace kN := bk1 hb6 kN
      clear hb6 TT
      obtain ⟨C9, c9, D9, d9, rfl, rfl⟩ := TR.slices
      obtain ⟨Av, av, rfl, -, -⟩ := oSl RR
      refine hK.out _ _ (⟨kB, kC⟩) (fun zH => ?_)
      clear hK K
      try simp only [Act.put, sA, sB, sC]
      refine tkV 7 ?_
      refine tkV 8 ?_
      refine tkV 9 ?_
      refine rd1 11 (fun K hK => ?_)
      obtain ⟨z0, z1, g0, g1⟩ := cz2 kN
      go_simp
      clear z0 z1 g0 g1
      replace TR := tSk (i := 1) (u := .slice D9 X2 d9) (tSk (i := 0) (u := .slice C9 X1 c9) TR kN (by decide)) (zS0 (u := .slice C9 X1 c9) kN) (by decide)
      replace RG := oSk (i := 1) (u := .slice D9 X2 d9) (oSk (i := 0) (u := .slice C9 X1 c9) RG kN (by decide)) (zS0 (u := .slice C9 X1 c9) kN) (by decide)
      replace RR := oSk (i := 1) (u := .slice D9 X2 d9) (oSk (i := 0) (u := .slice C9 X1 c9) RR kN (by decide)) (zS0 (u := .slice C9 X1 c9) kN) (by decide)
      replace D := (D.setCell (p := ⟨xn, 0, none⟩) (show w.heap.size ≤ xn by omega) (.slice C9 X1 c9)).setCell (p := ⟨xn, 1, none⟩) (show w.heap.size ≤ xn by omega) (.slice D9 X2 d9)
      have nB : w.heap.size ≠ xn := by omega
      have nC : w.heap.size + 1 ≠ xn := by omega
      have nZ : w.heap.size + 1 + 1 ≠ xn := by omega
      replace kB := mSo (i := 1) (u := .slice D9 X2 d9) (mSo (i := 0) (u := .slice C9 X1 c9) kB nB) nB
      replace kC := mSo (i := 1) (u := .slice D9 X2 d9) (mSo (i := 0) (u := .slice C9 X1 c9) kC nC) nC
      replace kZ := mSo (i := 1) (u := .slice D9 X2 d9) (mSo (i := 0) (u := .slice C9 X1 c9) kZ nZ) nZ
      have kN' := zS1 (u := .slice D9 X2 d9) (zS0 (u := .slice C9 X1 c9) kN)
      clear kN nB nC
      have kN := kN'
      clear kN'
      refine hK.out _ _ (⟨kB, kC⟩) (fun zH => ?_)
      clear hK K
      try simp only [Act.put, sA, sB, sC]
      refine tkV 12 ?_
      refine dn1 ?_
      generalize ((v6.setCell ⟨xn, 0, none⟩ (.slice C9 X1 c9)).setCell ⟨xn, 1, none⟩ (.slice D9 X2 d9)) = w8 at *
      go_wp2_with fail
      go_meet
      exact ⟨xn, C9, X1, c9, D9, X2, d9, Av, X3, av, rfl, rfl, hxn, kN, kZ, TR, RG, RR, D⟩
    case stepr65_10 =>
     go_simp
     have kN : (w4.alloc (.cells #[.slice none 0 0, .slice none 0 0] 30)).drew.heap[w4.heap.size]? = some (.cells #[.slice none 0 0, .slice none 0 0] 30) := heap_alloc_new w4 (.cells #[.slice none 0 0, .slice none 0 0] 30)
     have hba : Below w4.heap.size w4 (w4.alloc (.cells #[.slice none 0 0, .slice none 0 0] 30)).drew := ((Below.refl _ w4).alloc (Nat.le_refl _) _).drew
     have hnZ : w.heap.size + 1 + 1 < w4.heap.size := hlT kZ
     have hnD := D.size
     replace kB := bk1 hba kB
     replace kC := bk1 hba kC
     replace kZ := bk1 hba kZ
     replace D := D.trans (hba.mono D.size)
     replace TI := TI.below hba
     replace RG := oBw RG hba
     clear hba
     generalize (w4.alloc (.cells #[.slice none 0 0, .slice none 0 0] 30)).drew = v10 at *
     have hxn : w.heap.size + 2 < w4.heap.size := by omega
     generalize w4.heap.size = xn at kN hxn ⊢
     clear hnZ hnD
     refine hK.out _ _ (⟨kB, kC⟩) (fun zH => ?_)
     clear hK K
     try simp only [Act.put, sA, sB, sC]
     refine rd1 3 (fun K hK => ?_)
     go_simp
     refine (spec_l2TakeO A n c B m d za zb id _ (Lst.of_own TI.one) (Lst.of_own TI.two) (by omega) (by omega)).mono ?_
     rintro e v3 ⟨⟨t1, t2, rfl, ho1, ho2, hap⟩, hb3⟩
     have hx3 := D.size
     replace kB := bk1 hb3 kB
     replace kC := bk1 hb3 kC
     replace kZ := bk1 hb3 kZ
     replace D := D.trans (hb3.mono D.size)
     replace RG := oBw RG hb3
     replace kN := bk1 hb3 kN
     have TT := (show TwoRows v3 _ t1 _ _ t2 _ _ from ⟨ho1, ho2, hap⟩).mono hx3
     clear hb3 ho1 ho2 hap hx3 TI
     obtain ⟨A9, a9, B9, b9, rfl, rfl⟩ := TT.slices
     refine hK.out _ _ (⟨kB, kC⟩) (fun zH => ?_)
     clear hK K
     try simp only [Act.put, sA, sB, sC]
     refine rd1 6 (fun K hK => ?_)
     go_simp
     refine (spec_l4Place w.heap.size A9 (tkN za id n) a9 B9 (tkN zb id m) b9 (tkZ za id n) (tkZ zb id m) 7 sy ac id sd pr qt md s' true _ TT D.size HRG2).mono ?_
     rintro e v6 ⟨⟨t1, t2, t3, X1, X2, X3, rfl, TR, RR⟩, hb6⟩
     replace kB := bk1 hb6 kB
     replace kC := bk1 hb6 kC
     replace kZ := bk1 hb6 kZ
     replace D := D.trans (hb6.mono D.size)
     replace RG := oBw RG hb6
     replace kN := bk1 hb6 kN
     clear hb6 TT
     obtain ⟨C9, c9, D9, d9, rfl, rfl⟩ := TR.slices
     obtain ⟨Av, av, rfl, -, -⟩ := oSl RR
     refine hK.out _ _ (⟨kB, kC⟩) (fun zH => ?_)
     clear hK K
     try simp only [Act.put, sA, sB, sC]
     refine tkV 7 ?_
     refine tkV 8 ?_
     refine tkV 9 ?_
     refine rd1 11 (fun K hK => ?_)
     obtain ⟨z0, z1, g0, g1⟩ := cz2 kN
     go_simp
     clear z0 z1 g0 g1
     replace TR := tSk (i := 1) (u := .slice D9 X2 d9) (tSk (i := 0) (u := .slice C9 X1 c9) TR kN (by decide)) (zS0 (u := .slice C9 X1 c9) kN) (by decide)
     replace RG := oSk (i := 1) (u := .slice D9 X2 d9) (oSk (i := 0) (u := .slice C9 X1 c9) RG kN (by decide)) (zS0 (u := .slice C9 X1 c9) kN) (by decide)
     replace RR := oSk (i := 1) (u := .slice D9 X2 d9) (oSk (i := 0) (u := .slice C9 X1 c9) RR kN (by decide)) (zS0 (u := .slice C9 X1 c9) kN) (by decide)
     replace D := (D.setCell (p := ⟨xn, 0, none⟩) (show w.heap.size ≤ xn by omega) (.slice C9 X1 c9)).setCell (p := ⟨xn, 1, none⟩) (show w.heap.size ≤ xn by omega) (.slice D9 X2 d9)
     have nB : w.heap.size ≠ xn := by omega
     have nC : w.heap.size + 1 ≠ xn := by omega
     have nZ : w.heap.size + 1 + 1 ≠ xn := by omega
     replace kB := mSo (i := 1) (u := .slice D9 X2 d9) (mSo (i := 0) (u := .slice C9 X1 c9) kB nB) nB
     replace kC := mSo (i := 1) (u := .slice D9 X2 d9) (mSo (i := 0) (u := .slice C9 X1 c9) kC nC) nC
     replace kZ := mSo (i := 1) (u := .slice D9 X2 d9) (mSo (i := 0) (u := .slice C9 X1 c9) kZ nZ) nZ
     have kN' := zS1 (u := .slice D9 X2 d9) (zS0 (u := .slice C9 X1 c9) kN)
     clear kN nB nC
     have kN := kN'
     clear kN'
     refine hK.out _ _ (⟨kB, kC⟩) (fun zH => ?_)
     clear hK K
     try simp only [Act.put, sA, sB, sC]
     refine tkV 12 ?_
     refine dn1 ?_
     generalize ((v6.setCell ⟨xn, 0, none⟩ (.slice C9 X1 c9)).setCell ⟨xn, 1, none⟩ (.slice D9 X2 d9)) = w8 at *
     go_wp2_with fail
     go_meet
     exact ⟨xn, C9, X1, c9, D9, X2, d9, Av, X3, av, rfl, rfl, hxn, kN, kZ, TR, RG, RR, D⟩
   case rest =>
    clear kB kC kZ TI RG D
    obtain ⟨xn, C9, X1, c9, D9, X2, d9, Av, X3, av, rfl, rfl, hxn, kN, kZ, TR, RG, RR, D⟩ := hcut
    rename World => w8
    have hX3 : X3 ≤ 44 := by have h := RR.1; rw [nums_length] at h; have h2 := HLN.out; omega
    have nZ : w.heap.size + 1 + 1 ≠ xn := by omega
    go_upto_region 10 with fail
    refine wp_region_held_drew (S := (fun w' => w'.heap[xn]? = some (.cells #[.slice C9 X1 c9, .slice D9 X2 d9] 30 (0, 0)))) (by kernel_rfl) ?hSm86 (fun zH => ?restm86)
    case hSm86 => exact kN
    refine tkY 0 (hy := by ((intro wS hSw; obtain ⟨t0, t1⟩ := rcell2 hSw; go_simp) <;> with_reducible rfl)) (h := ?_)
    refine tkV 1 ?_
    refine tkV 2 ?_
    refine rd1 3 (fun K hK => ?_)
    replace D := D.drew
    replace TR := TR.below (Below.refl _ _).drew
    replace RG := oBw RG (Below.refl _ _).drew
    replace RR := oBw RR (Below.refl _ _).drew
    have hD8 := D.size
    refine sAn _ rfl _ _ 31 rfl w.heap.size 48 i0 _ 8 64 Tryz.underlying31 hi hz0 hz1 hz2 rfl (by decide) (.slice (some ⟨xg, 0, none⟩) 1 1) 1 (nums (canR f0 f1 f2 f3)) rfl RG Av X3 av (oN8 RR) (nums (plaR id ac pr qt md s' true (tkZ za id n) (tkZ zb id m)).2.2) rfl RR.1 (Lst.newsN (Lst.of_own RR)) (nums_one _) (by unfold maxLen; omega) (by omega) hD8 ?_
    intro v8 v9 RI hg8
    have mN := rec_ne RG kN (by decide)
    have mZ := rec_ne RG kZ (by decide)
    replace TR := tGr TR RG hg8
    replace kN := (hg8.block _ (hlT kN) mN).trans kN
    replace kZ := (hg8.block _ (hlT kZ) mZ).trans kZ
    replace D := D.grown hg8 D.size (fun q hq => (RG.lt q hq).1)
    rw [← nums_append] at RI
    clear hg8 RG RR mN mZ hD8
    obtain ⟨Aw, aw, rfl, -, -⟩ := oSl RI
    refine hK.out _ _ (kN) (fun zH => ?_)
    clear hK K
    try simp only [Act.put, sA, sB, sC]
    refine rd1 4 (fun K hK => ?_)
    obtain ⟨z0, z1, g0, g1⟩ := cz2 kZ
    go_simp
    clear z0 z1 g0 g1
    replace TR := tSk (i := 1) (u := .slice D9 X2 d9) (tSk (i := 0) (u := .slice C9 X1 c9) TR kZ (by decide)) (zS0 (u := .slice C9 X1 c9) kZ) (by decide)
    replace RI := oSk (i := 1) (u := .slice D9 X2 d9) (oSk (i := 0) (u := .slice C9 X1 c9) RI kZ (by decide)) (zS0 (u := .slice C9 X1 c9) kZ) (by decide)
    replace D := (D.setCell (p := ⟨w.heap.size + 1 + 1, 0, none⟩) le2 (.slice C9 X1 c9)).setCell (p := ⟨w.heap.size + 1 + 1, 1, none⟩) le2 (.slice D9 X2 d9)
    have nB : w.heap.size ≠ w.heap.size + 1 + 1 := by omega
    have nC : w.heap.size + 1 ≠ w.heap.size + 1 + 1 := by omega
    replace kN := mSo (i := 1) (u := .slice D9 X2 d9) (mSo (i := 0) (u := .slice C9 X1 c9) kN nZ.symm) nZ.symm
    have kZ' := zS1 (u := .slice D9 X2 d9) (zS0 (u := .slice C9 X1 c9) kZ)
    clear kZ nB nC
    have kZ := kZ'
    clear kZ'
    refine hK.out _ _ (kN) (fun zH => ?_)
    clear hK K
    try simp only [Act.put, sA, sB, sC]
    refine tkV 5 ?_
    refine dn1 ?_
    generalize ((v9.setCell ⟨w.heap.size + 1 + 1, 0, none⟩ (.slice C9 X1 c9)).setCell ⟨w.heap.size + 1 + 1, 1, none⟩ (.slice D9 X2 d9)) = wf at *
    have HR := Lib.hid RI
    have HT := Lib.hid TR
    have HD := Lib.hid D
    have HZ := Lib.hid kZ
    clear zH kN kZ RI TR D
    go_wp2_with fail
    obtain ⟨z0, z1, -⟩ := cz2 HZ.out
    refine bodyPost_ret (v := .tuple #[.agg #[.slice C9 X1 c9, .slice D9 X2 d9], .slice Aw (1 + X3) aw]) (by simp [results, Tryz.results41, go_sem, z0, z1]) rfl ⟨?_, HD.out⟩
    rw [exL_yes (show whyA true f 7 sy ac id sd pr qt md za n zb m = 0 by rw [whyA, if_pos ⟨HCO.out, by decide⟩, if_pos (.inr rfl), HF1.out]; exact whyO_yes HFA.out), doT, if_neg (by decide), if_pos rfl, HF2.out, HF3.out, if_neg HP.out, HF0.out, HF1.out]
    exact ⟨_, _, _, _, _, _, rfl, HT.out.mono hbase, oMn HR.out hbase⟩
end Go.Proofs.YtgjjdnojiegidaaGreatDoor
