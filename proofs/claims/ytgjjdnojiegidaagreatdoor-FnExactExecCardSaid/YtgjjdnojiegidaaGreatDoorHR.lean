/-
 With, Ins, Insert, RestedI.
-/
import Derived.Test.YtgjjdnojiegidaaGreatDoorTak
import Derived.Test.YtgjjdnojiegidaaGreatDoorGH
import Derived.Test.YtgjjdnojiegidaaGreatDoorHC
import Derived.Test.YtgjjdnojiegidaaGreatDoorBookW
import Derived.Shelf.Spec.SlicesInsertGrow
import Derived.Lib.LazyBuf
import Derived.Test.YtgjjdnojiegidaaGreatDoorHD
namespace Go.Proofs.YtgjjdnojiegidaaGreatDoor
open Go.RowKit Wire
set_option maxHeartbeats 3200000
set_option maxRecDepth 100000
set_option linter.unusedSimpArgs false

theorem cell_al {w : World} {a : Addr} {u : Value} (o : Obj) (h : w.cell? a = some u) : (w.alloc o).cell? a = some u :=
 (World.cell?_alloc_some w a o (by rw [h]; rfl)).trans h
theorem some_at {v v' : Value} {q : Nat} (h : v'.ownBlock = v.ownBlock ∨ v'.ownBlock = some q) (hv : v.ownBlock.isSome = true) : v'.ownBlock.isSome = true := by
 rcases h with h | h
 · rw [h]; exact hv
 · rw [h]; rfl
def CpS (w : World) (v1 v2 : Value) (T : TypeId) (w' : World) : Prop := Below w.heap.size w w' ∧ w'.cell? ⟨w.heap.size, 0, none⟩ = some v1 ∧ w'.cell? ⟨w.heap.size, 1, none⟩ = some v2 ∧ w.heap.size + 2 ≤ w'.heap.size ∧ ∃ x y, w'.heap[w.heap.size + 1]? = some (.cells #[x, y] T (0, 0))
theorem cpS_alloc {w W : World} {v1 v2 : Value} {T : TypeId} (h : CpS w v1 v2 T W) (o : Obj) : CpS w v1 v2 T (W.alloc o) :=
 ⟨h.1.alloc h.1.size _, cell_al _ h.2.1, cell_al _ h.2.2.1, by have := h.2.2.2.1; simp; omega, by obtain ⟨x, y, hr⟩ := h.2.2.2.2; exact ⟨x, y, (Below.heap_alloc W o _ (by have := h.2.2.2.1; omega)).trans hr⟩⟩
theorem cpS_grown {w W W' : World} {v1 v2 : Value} {T : TypeId} {row : Option Nat} (h : CpS w v1 v2 T W) (hg : W.grownBy W' row) (hr : ∀ q, row = some q → w.heap.size + 2 ≤ q) : CpS w v1 v2 T W' :=
 ⟨h.1.grown hg h.1.size (fun q hq => by have := hr q hq; omega), hg.cell h.2.1 (fun e => by have := hr _ e.symm; simp at this; omega), hg.cell h.2.2.1 (fun e => by have := hr _ e.symm; simp at this; omega), Nat.le_trans h.2.2.2.1 hg.size, by obtain ⟨x, y, hx⟩ := h.2.2.2.2; exact ⟨x, y, (hg.block _ (by have := h.2.2.2.1; omega) (fun e => by have := hr _ e.symm; omega)).trans hx⟩⟩
theorem cpS_set {w W : World} {v1 v2 : Value} {T : TypeId} (h : CpS w v1 v2 T W) (x y : Value) : CpS w v1 v2 T ((W.setCell ⟨w.heap.size + 1, 0, none⟩ x).setCell ⟨w.heap.size + 1, 1, none⟩ y) :=
 ⟨(h.1.setCell (p := ⟨w.heap.size + 1, 0, none⟩) (show w.heap.size ≤ w.heap.size + 1 by omega) x).setCell (p := ⟨w.heap.size + 1, 1, none⟩) (show w.heap.size ≤ w.heap.size + 1 by omega) y, (World.cell?_setCell_far _ _ _ _ (show w.heap.size + 1 ≠ w.heap.size by omega)).trans ((World.cell?_setCell_far _ _ _ _ (show w.heap.size + 1 ≠ w.heap.size by omega)).trans h.2.1), (World.cell?_setCell_far _ _ _ _ (show w.heap.size + 1 ≠ w.heap.size by omega)).trans ((World.cell?_setCell_far _ _ _ _ (show w.heap.size + 1 ≠ w.heap.size by omega)).trans h.2.2.1), by simpa [World.setCell] using h.2.2.2.1, by obtain ⟨a, b, hr⟩ := h.2.2.2.2; exact ⟨_, _, zS1 (zS0 hr)⟩⟩
theorem step_app (w : World) {ops : Array Oper} {o : Oper} {a : Act} {K : Act → World → Prop} {Q : Exit → Act → World → Prop} {E : Prop} (hgd : o.guard = none) (s x : Operand) (ho : o.op = .call { callee := .builtin .append, args := #[s, x], argTypes := #[28, 28] })
 (base : Nat) (v : Value) (hs : a.eval s = v) (hown : w.ownsRow base 65 4 v 0 []) (A : Option Addr) (m c : Nat) (hA : A = none → m = 0 ∧ c = 0) (zs : List Int) (hx : a.eval x = .slice A m c) (B : Nat) (hl : Lst w B 4 A m zs) (hm : m ≤ 1048576) (hbase : base ≤ w.heap.size)
 (h : ∀ v' w', w'.ownsRow base 65 4 v' m (nums zs) → w.grownBy w' v.ownBlock → (v'.ownBlock = v.ownBlock ∨ v'.ownBlock = some w.heap.size) → K (a.put o.dst v') w') :
 if Region.wanted o (yielded ops a.tmps) = true then Oper.wp Tryz.prog o a w K Q else E := by
 obtain ⟨i0, hi, hz0, hz1, hz2⟩ := info_parts ord_info
 rw [if_pos (by simp [Region.wanted, hgd])]
 cases A with
 | some ad =>
  obtain ⟨v', w', hr, h2, h3, h4, h5⟩ := run_append_own_at (P := Tryz.prog) w base 28 o.type 65 i0 _ 4 32 Tryz.underlying28 hi hz0 hz1 hz2 rfl (by decide) v 0 [] hown ad m c (nums zs) (by rw [nums_length]; exact hl.1) hl.news (nums_one _) (by unfold maxLen; omega) (by omega) hbase
  rw [Nat.zero_add, List.nil_append] at h2
  unfold Oper.wp execOp
  simp only [ho, resolve, invoke, builtin, Sem.run_bind, Sem.run_pure, Result.andThen_ok, List.map_toArray, List.map_cons, List.map_nil, hs, hx]
  simp only [hr]
  exact h v' w' h2 h3 h5
 | none =>
  obtain ⟨rfl, rfl⟩ := hA rfl
  have e0 : zs = [] := List.eq_nil_of_length_eq_zero (by have := hl.1; omega)
  subst e0
  have hr := run_append_owned_none (P := Tryz.prog) (w := w) base 28 o.type 65 i0 4 Tryz.underlying28 hi v 0 [] hown
  unfold Oper.wp execOp
  simp only [ho, resolve, invoke, builtin, Sem.run_bind, Sem.run_pure, Result.andThen_ok, List.map_toArray, List.map_cons, List.map_nil, hs, hx]
  simp only [hr]
  exact h v w hown (World.grownBy.refl _ _) (.inl rfl)
theorem spec_l2CopyO (O1 : Option Addr) (n c : Nat) (O2 : Option Addr) (m d : Nat) (za zb : List Int) (w : World) (ha : Lst w w.heap.size 4 O1 n za) (hb : Lst w w.heap.size 4 O2 m zb) (hn : n ≤ 1048576) (hm : m ≤ 1048576) (hO1 : O1 = none → n = 0 ∧ c = 0) (hO2 : O2 = none → m = 0 ∧ d = 0) :
 Calls Tryz.prog 18 #[.agg #[.slice O1 n c, .slice O2 m d]] w fun e w' => (∃ r1 r2, e = .returned (.agg #[r1, r2]) ∧ TwoRows w' w.heap.size r1 n za r2 m zb ∧ r1.ownBlock.isSome = true ∧ r2.ownBlock.isSome = true) ∧ Below w.heap.size w w' := by
 obtain ⟨i0, hi, hz0, hz1, hz2⟩ := info_parts ord_info
 obtain ⟨k0, k1⟩ := two_blocks w (.cells #[.slice O1 n c, .slice O2 m d] 30) (.cells #[.slice none 0 0, .slice none 0 0] 30)
 have hb0 : Below w.heap.size w ((w.alloc (.cells #[.slice O1 n c, .slice O2 m d] 30)).alloc (.cells #[.slice none 0 0, .slice none 0 0] 30)) := ((Below.refl _ _).alloc (Nat.le_refl _) _).alloc (by simp) _
 have hs0 : w.heap.size + 2 ≤ ((w.alloc (.cells #[.slice O1 n c, .slice O2 m d] 30)).alloc (.cells #[.slice none 0 0, .slice none 0 0] 30)).heap.size := by simp
 go_enter Tryz.func18, Tryz.ntmps18
 go_upto_region 1 with fail
 generalize ((w.alloc (.cells #[.slice O1 n c, .slice O2 m d] 30)).alloc (.cells #[.slice none 0 0, .slice none 0 0] 30)) = w0 at *
 have p0 := cell_of_row w0 w.heap.size 0 _ _ (0, 0) k0
 have p1 := cell_of_row w0 w.heap.size 1 _ _ (0, 0) k0
 simp at p0 p1
 have hCS : CpS w (.slice O1 n c) (.slice O2 m d) 30 w0.drew := ⟨hb0.drew, p0, p1, hs0, _, _, k1⟩
 clear p0 p1 hb0 k0 k1
 refine wp_region_held_drew (S := (fun w' => Below w.heap.size w w' ∧ w'.cell? ⟨w.heap.size, 0, none⟩ = some (.slice O1 n c) ∧ w'.cell? ⟨w.heap.size, 1, none⟩ = some (.slice O2 m d) ∧ w.heap.size + 2 ≤ w'.heap.size ∧ ∃ x y, w'.heap[w.heap.size + 1]? = some (.cells #[x, y] 30 (0, 0)))) (by kernel_rfl) ?hSr (fun zH => ?restr)
 case hSr => exact hCS
 refine tkV 1 ?_
 refine tkV 2 ?_
 refine tkV 5 ?_
 refine tkV 6 ?_
 have hs0 : w.heap.size + 2 ≤ w0.drew.heap.size := zH.2.2.2.1
 generalize w0.drew = W at *
 refine wpAnyH_ready (rs := [0, 4]) (by kernel_rfl) (by simp) ?_
 refine AllReadyH.cons (o := ?ow5) ?how5 (fun K hK => ?stepw5) ?morew5
 case how5 => simp only [gA, gB, gC]; exact rfl
 case stepw5 =>
  go_simp
  refine hK.out _ _ (cpS_alloc zH _) (fun zH => ?_)
  clear hK K
  try simp only [Act.put, sA, sB, sC]
  have o1 := oMn (base' := w.heap.size + 2) (own_empty W 65 4) hs0
  refine wpAnyH_ready (rs := [3, 4]) (by kernel_rfl) (by simp) ?_
  refine AllReadyH.cons (o := ?ow6) ?how6 (fun K hK => ?stepw6) ?morew6
  case how6 => simp only [gA, gB, gC]; exact rfl
  case stepw6 =>
   have hsz1 := zH.2.2.2.1
   (refine step_app _ rfl _ _ rfl (w.heap.size + 2) (.slice (some ⟨W.heap.size, 0, none⟩) 0 0) rfl o1 O1 n c hO1 za rfl w.heap.size (ha.below zH.1) (by omega) hsz1 ?_; intro r1 u1 hown1 hgrow1 hat1)
   have hlt1 := o1.lt
   refine hK.out _ _ (cpS_grown zH hgrow1 (fun q hq => (hlt1 q hq).1)) (fun zH => ?_)
   clear hK K
   try simp only [Act.put, sA, sB, sC]
   have hsu1 := zH.2.2.2.1
   refine rd1 4 (fun K hK => ?_)
   go_simp
   refine hK.out _ _ (cpS_alloc zH _) (fun zH => ?_)
   clear hK K
   try simp only [Act.put, sA, sB, sC]
   have o2 := oMn (base' := w.heap.size + 2) (own_empty u1 65 4) hsu1
   have ox := hown1.alloc (.cells #[] 65)
   refine rd1 7 (fun K hK => ?_)
   have hsz2 := zH.2.2.2.1
   (refine step_app _ rfl _ _ rfl (w.heap.size + 2) (.slice (some ⟨u1.heap.size, 0, none⟩) 0 0) rfl o2 O2 m d hO2 zb rfl w.heap.size (hb.below zH.1) (by omega) hsz2 ?_; intro r2 u2 hown2 hgrow2 hat2)
   have hlt2 := o2.lt
   refine hK.out _ _ (cpS_grown zH hgrow2 (fun q hq => (hlt2 q hq).1)) (fun zH => ?_)
   clear hK K
   try simp only [Act.put, sA, sB, sC]
   have hne : ∀ q, r1.ownBlock = some q → r2.ownBlock ≠ some q := fun q h1 h2 => by have h3 := (hown1.lt q h1).2; rcases hat2 with h | h <;> (rw [h] at h2; simp [Value.ownBlock] at h2; omega)
   have hownF := own_apart ox hgrow2 (fun q hq e => by have := (hown1.lt q hq).2; simp [Value.ownBlock] at e; omega)
   have hso1 := some_at hat1 rfl
   have hso2 := some_at hat2 rfl
   obtain ⟨A1, d1, rfl, _, _⟩ := oSl hownF
   obtain ⟨A2, d2, rfl, _, _⟩ := oSl hown2
   refine tkV 8 ?_
   refine rd1 9 (fun K hK => ?_)
   have hX := zH
   obtain ⟨x, y, hr⟩ := hX.2.2.2.2
   have r0 := cell_of_row u2 (w.heap.size + 1) 0 _ _ (0, 0) hr
   have r1 := cell_of_row u2 (w.heap.size + 1) 1 _ _ (0, 0) hr
   have z0 := frozen_of_row u2 (w.heap.size + 1) 0 _ _ hr
   have z1 := frozen_of_row u2 (w.heap.size + 1) 1 _ _ hr
   simp at r0 r1
   have E0 := Lib.hid (zS1 (u := .slice A2 m d2) (zS0 (u := .slice A1 n d1) hr))
   go_simp
   refine hK.out _ _ (cpS_set hX _ _) (fun zH => ?_)
   clear hK K
   try simp only [Act.put, sA, sB, sC]
   refine dn1 ?_
   have f0 := cell_of_row _ (w.heap.size + 1) 0 _ _ (0, 0) E0.out
   have f1 := cell_of_row _ (w.heap.size + 1) 1 _ _ (0, 0) E0.out
   simp at f0 f1
   have HT := Lib.hid (((TwoRows.mk hownF hown2 hne).kept (set_grown u2 (w.heap.size + 1) 0 (.slice A1 n d1)) (by omega)).kept (set_grown _ (w.heap.size + 1) 1 (.slice A2 m d2)) (by omega))
   have HB := Lib.hid ((hX.1.setCell (p := ⟨w.heap.size + 1, 0, none⟩) (show w.heap.size ≤ w.heap.size + 1 by omega) (.slice A1 n d1)).setCell (p := ⟨w.heap.size + 1, 1, none⟩) (show w.heap.size ≤ w.heap.size + 1 by omega) (.slice A2 m d2))
   have HS1 := Lib.hid hso1
   have HS2 := Lib.hid hso2
   clear hownF hown2 hX hso1 hso2
   go_wp2_with fail
   exact bodyPost_ret (v := .agg #[.slice A1 n d1, .slice A2 m d2]) (by simp [results, Tryz.results18, go_sem, f0, f1]) rfl ⟨⟨_, _, rfl, HT.out.mono (by omega), HS1.out, HS2.out⟩, HB.out⟩
  refine AllReadyH.cons (o := ?ow11) ?how11 (fun K hK => ?stepw11) ?morew11
  case how11 => simp only [gA, gB, gC]; exact rfl
  case morew11 => exact AllReadyH.nil
  go_simp
  refine hK.out _ _ (cpS_alloc zH _) (fun zH => ?_)
  clear hK K
  try simp only [Act.put, sA, sB, sC]
  have o1 : ((W.alloc (.cells #[] 65)).alloc (.cells #[] 65)).ownsRow (w.heap.size + 2) 65 4 (.slice (some ⟨W.heap.size, 0, none⟩) 0 0) 0 [] := (oMn (own_empty W 65 4) hs0).alloc (.cells #[] 65)
  have o2 : ((W.alloc (.cells #[] 65)).alloc (.cells #[] 65)).ownsRow (w.heap.size + 2) 65 4 (.slice (some ⟨W.heap.size + 1, 0, none⟩) 0 0) 0 [] := by have h := oMn (base' := w.heap.size + 2) (own_empty (W.alloc (.cells #[] 65)) 65 4) (by simp; omega); rw [World.size_alloc] at h; exact h
  refine rd1 3 (fun K hK => ?_)
  have hsz1 := zH.2.2.2.1
  (refine step_app _ rfl _ _ rfl (w.heap.size + 2) (.slice (some ⟨W.heap.size, 0, none⟩) 0 0) rfl o1 O1 n c hO1 za rfl w.heap.size (ha.below zH.1) (by omega) hsz1 ?_; intro r1 u1 hown1 hgrow1 hat1)
  have hlt1 := o1.lt
  refine hK.out _ _ (cpS_grown zH hgrow1 (fun q hq => (hlt1 q hq).1)) (fun zH => ?_)
  clear hK K
  try simp only [Act.put, sA, sB, sC]
  have o2 := own_apart o2 hgrow1 (fun q hq e => by simp [Value.ownBlock] at hq e; omega)
  refine rd1 7 (fun K hK => ?_)
  have hsz2 := zH.2.2.2.1
  (refine step_app _ rfl _ _ rfl (w.heap.size + 2) (.slice (some ⟨W.heap.size + 1, 0, none⟩) 0 0) rfl o2 O2 m d hO2 zb rfl w.heap.size (hb.below zH.1) (by omega) hsz2 ?_; intro r2 u2 hown2 hgrow2 hat2)
  have hlt2 := o2.lt
  refine hK.out _ _ (cpS_grown zH hgrow2 (fun q hq => (hlt2 q hq).1)) (fun zH => ?_)
  clear hK K
  try simp only [Act.put, sA, sB, sC]
  have hne : ∀ q, r1.ownBlock = some q → r2.ownBlock ≠ some q := fun q h1 h2 => by have h3 := (hown1.lt q h1).2; rcases hat1 with g | g <;> rcases hat2 with h | h <;> (rw [g] at h1; rw [h] at h2; simp [Value.ownBlock] at h1 h2; omega)
  have hownF := own_apart hown1 hgrow2 (fun q hq e => by have h3 := (hown1.lt q hq).2; rcases hat1 with g | g <;> (rw [g] at hq; simp [Value.ownBlock] at hq e; omega))
  have hso1 := some_at hat1 rfl
  have hso2 := some_at hat2 rfl
  obtain ⟨A1, d1, rfl, _, _⟩ := oSl hownF
  obtain ⟨A2, d2, rfl, _, _⟩ := oSl hown2
  refine tkV 8 ?_
  refine rd1 9 (fun K hK => ?_)
  have hX := zH
  obtain ⟨x, y, hr⟩ := hX.2.2.2.2
  have r0 := cell_of_row u2 (w.heap.size + 1) 0 _ _ (0, 0) hr
  have r1 := cell_of_row u2 (w.heap.size + 1) 1 _ _ (0, 0) hr
  have z0 := frozen_of_row u2 (w.heap.size + 1) 0 _ _ hr
  have z1 := frozen_of_row u2 (w.heap.size + 1) 1 _ _ hr
  simp at r0 r1
  have E0 := Lib.hid (zS1 (u := .slice A2 m d2) (zS0 (u := .slice A1 n d1) hr))
  go_simp
  refine hK.out _ _ (cpS_set hX _ _) (fun zH => ?_)
  clear hK K
  try simp only [Act.put, sA, sB, sC]
  refine dn1 ?_
  have f0 := cell_of_row _ (w.heap.size + 1) 0 _ _ (0, 0) E0.out
  have f1 := cell_of_row _ (w.heap.size + 1) 1 _ _ (0, 0) E0.out
  simp at f0 f1
  have HT := Lib.hid (((TwoRows.mk hownF hown2 hne).kept (set_grown u2 (w.heap.size + 1) 0 (.slice A1 n d1)) (by omega)).kept (set_grown _ (w.heap.size + 1) 1 (.slice A2 m d2)) (by omega))
  have HB := Lib.hid ((hX.1.setCell (p := ⟨w.heap.size + 1, 0, none⟩) (show w.heap.size ≤ w.heap.size + 1 by omega) (.slice A1 n d1)).setCell (p := ⟨w.heap.size + 1, 1, none⟩) (show w.heap.size ≤ w.heap.size + 1 by omega) (.slice A2 m d2))
  have HS1 := Lib.hid hso1
  have HS2 := Lib.hid hso2
  clear hownF hown2 hX hso1 hso2
  go_wp2_with fail
  exact bodyPost_ret (v := .agg #[.slice A1 n d1, .slice A2 m d2]) (by simp [results, Tryz.results18, go_sem, f0, f1]) rfl ⟨⟨_, _, rfl, HT.out.mono (by omega), HS1.out, HS2.out⟩, HB.out⟩
 refine AllReadyH.cons (o := ?ow16) ?how16 (fun K hK => ?stepw16) ?morew16
 case how16 => simp only [gA, gB, gC]; exact rfl
 case morew16 => exact AllReadyH.nil
 go_simp
 refine hK.out _ _ (cpS_alloc zH _) (fun zH => ?_)
 clear hK K
 try simp only [Act.put, sA, sB, sC]
 refine rd1 0 (fun K hK => ?_)
 go_simp
 refine hK.out _ _ (cpS_alloc zH _) (fun zH => ?_)
 clear hK K
 try simp only [Act.put, sA, sB, sC]
 have o1 : ((W.alloc (.cells #[] 65)).alloc (.cells #[] 65)).ownsRow (w.heap.size + 2) 65 4 (.slice (some ⟨W.heap.size + 1, 0, none⟩) 0 0) 0 [] := by have h := oMn (base' := w.heap.size + 2) (own_empty (W.alloc (.cells #[] 65)) 65 4) (by simp; omega); rw [World.size_alloc] at h; exact h
 have o2 : ((W.alloc (.cells #[] 65)).alloc (.cells #[] 65)).ownsRow (w.heap.size + 2) 65 4 (.slice (some ⟨W.heap.size, 0, none⟩) 0 0) 0 [] := (oMn (own_empty W 65 4) hs0).alloc (.cells #[] 65)
 refine rd1 3 (fun K hK => ?_)
 have hsz1 := zH.2.2.2.1
 (refine step_app _ rfl _ _ rfl (w.heap.size + 2) (.slice (some ⟨W.heap.size + 1, 0, none⟩) 0 0) rfl o1 O1 n c hO1 za rfl w.heap.size (ha.below zH.1) (by omega) hsz1 ?_; intro r1 u1 hown1 hgrow1 hat1)
 have hlt1 := o1.lt
 refine hK.out _ _ (cpS_grown zH hgrow1 (fun q hq => (hlt1 q hq).1)) (fun zH => ?_)
 clear hK K
 try simp only [Act.put, sA, sB, sC]
 have o2 := own_apart o2 hgrow1 (fun q hq e => by simp [Value.ownBlock] at hq e; omega)
 refine rd1 7 (fun K hK => ?_)
 have hsz2 := zH.2.2.2.1
 (refine step_app _ rfl _ _ rfl (w.heap.size + 2) (.slice (some ⟨W.heap.size, 0, none⟩) 0 0) rfl o2 O2 m d hO2 zb rfl w.heap.size (hb.below zH.1) (by omega) hsz2 ?_; intro r2 u2 hown2 hgrow2 hat2)
 have hlt2 := o2.lt
 refine hK.out _ _ (cpS_grown zH hgrow2 (fun q hq => (hlt2 q hq).1)) (fun zH => ?_)
 clear hK K
 try simp only [Act.put, sA, sB, sC]
 have hne : ∀ q, r1.ownBlock = some q → r2.ownBlock ≠ some q := fun q h1 h2 => by have h3 := (hown1.lt q h1).2; rcases hat1 with g | g <;> rcases hat2 with h | h <;> (rw [g] at h1; rw [h] at h2; simp [Value.ownBlock] at h1 h2; omega)
 have hownF := own_apart hown1 hgrow2 (fun q hq e => by have h3 := (hown1.lt q hq).2; rcases hat1 with g | g <;> (rw [g] at hq; simp [Value.ownBlock] at hq e; omega))
 have hso1 := some_at hat1 rfl
 have hso2 := some_at hat2 rfl
 obtain ⟨A1, d1, rfl, _, _⟩ := oSl hownF
 obtain ⟨A2, d2, rfl, _, _⟩ := oSl hown2
 refine tkV 8 ?_
 refine rd1 9 (fun K hK => ?_)
 have hX := zH
 obtain ⟨x, y, hr⟩ := hX.2.2.2.2
 have r0 := cell_of_row u2 (w.heap.size + 1) 0 _ _ (0, 0) hr
 have r1 := cell_of_row u2 (w.heap.size + 1) 1 _ _ (0, 0) hr
 have z0 := frozen_of_row u2 (w.heap.size + 1) 0 _ _ hr
 have z1 := frozen_of_row u2 (w.heap.size + 1) 1 _ _ hr
 simp at r0 r1
 have E0 := Lib.hid (zS1 (u := .slice A2 m d2) (zS0 (u := .slice A1 n d1) hr))
 go_simp
 refine hK.out _ _ (cpS_set hX _ _) (fun zH => ?_)
 clear hK K
 try simp only [Act.put, sA, sB, sC]
 refine dn1 ?_
 have f0 := cell_of_row _ (w.heap.size + 1) 0 _ _ (0, 0) E0.out
 have f1 := cell_of_row _ (w.heap.size + 1) 1 _ _ (0, 0) E0.out
 simp at f0 f1
 have HT := Lib.hid (((TwoRows.mk hownF hown2 hne).kept (set_grown u2 (w.heap.size + 1) 0 (.slice A1 n d1)) (by omega)).kept (set_grown _ (w.heap.size + 1) 1 (.slice A2 m d2)) (by omega))
 have HB := Lib.hid ((hX.1.setCell (p := ⟨w.heap.size + 1, 0, none⟩) (show w.heap.size ≤ w.heap.size + 1 by omega) (.slice A1 n d1)).setCell (p := ⟨w.heap.size + 1, 1, none⟩) (show w.heap.size ≤ w.heap.size + 1 by omega) (.slice A2 m d2))
 have HS1 := Lib.hid hso1
 have HS2 := Lib.hid hso2
 clear hownF hown2 hX hso1 hso2
 go_wp2_with fail
 exact bodyPost_ret (v := .agg #[.slice A1 n d1, .slice A2 m d2]) (by simp [results, Tryz.results18, go_sem, f0, f1]) rfl ⟨⟨_, _, rfl, HT.out.mono (by omega), HS1.out, HS2.out⟩, HB.out⟩
end Go.Proofs.YtgjjdnojiegidaaGreatDoor

namespace Go.Proofs.YtgjjdnojiegidaaGreatDoor
open Go.RowKit Go.Lib
set_option maxHeartbeats 3200000
set_option maxRecDepth 100000
set_option linter.unusedSimpArgs false

def insP (gs : Nat → Nat) (i p : Nat) (q : Nat) : Nat := if q < i then gs q else if q = i then p else gs (q - 1)
theorem insP_end (gs : Nat → Nat) (n p : Nat) : ptrs (insP gs n p) (n + 1) = ptrs gs n ++ [.pointer (some ⟨p, 0, none⟩)] := by
 rw [ptrs, show insP gs n p n = p by simp [insP], ptrs_congr n (f := insP gs n p) (g := gs) (fun k hk => by simp [insP, hk])]
theorem row_of_ptrs {w : World} {X n c g : Nat} {T : TypeId} {gs : Nat → Nat} (hown : w.ownsRow X T 1 (.slice (some ⟨g, 0, none⟩) n c) n (ptrs gs n)) : X ≤ g ∧ ∃ F, w.rowIs g T c F ∧ ∀ q, q < n → F q = .pointer (some ⟨gs q, 0, none⟩) := by
 rcases hown.2 with ⟨h0, _⟩ | ⟨g', cap', cur, e', hX, hheap, _, _, hcs, _⟩
 · cases h0
 · injection e' with e1 _ e3
   injection e1 with e1
   injection e1 with e1
   subst e1 e3
   have hr : w.rowIs g T c (fun q => cur[q]?.getD (.pointer none)) := ⟨cur, hheap, by omega, fun i hi => by simp [show i < cur.size by omega]⟩
   refine ⟨hX, _, hr, fun q hq => ?_⟩
   have h1 := hown.cells (g := g) rfl q _ (ptrs_at gs n q hq)
   rw [show (⟨g, 0, none⟩ : Addr).add q = ⟨g, q, none⟩ from by unfold Addr.add; split <;> simp_all] at h1
   have h2 := hr.cell (i := q) (by omega)
   rw [h1] at h2
   injection h2 with h2
   exact h2.symm
theorem cell_of_ptr {w : World} {g c n : Nat} {T : TypeId} {F : Nat → Value} {gs : Nat → Nat} (hrow : w.rowIs g T c F) (hF : ∀ q, q < n → F q = .pointer (some ⟨gs q, 0, none⟩)) (hnc : n ≤ c) (i : Nat) : ∀ (j : Nat) (u : Value), ((ptrs gs n).drop i)[j]? = some u → w.cell? ⟨g, i + j, none⟩ = some u := fun j u h => by
 rw [List.getElem?_drop] at h
 have hj : i + j < n := by
  have := (List.getElem?_eq_some_iff.1 h).1
  rwa [ptrs_len] at this
 rw [ptrs_at gs n (i + j) hj] at h
 injection h with h
 rw [hrow.cell (by omega), hF _ hj, h]
theorem setsP_grown (g : Nat) : ∀ (vs : List Value) (o : Nat) (w : World), w.grownBy (w.setCells g o vs) (some g)
 | [], _, _ => World.grownBy.refl _ _
 | v :: vs, o, w => World.grownBy.trans (set_grown w g o v) (setsP_grown g vs (o + 1) _)
theorem ownP_of_row {w : World} {X g N cap : Nat} {e : TypeId} {F : Nat → Value} {xs : List Value} (h : w.rowIs g e cap F) (hX : X ≤ g) (hN : N ≤ cap) (hc : cap ≤ maxLen) (hl : xs.length = N) (hx : ∀ q, q < N → xs[q]? = some (F q)) : w.ownsRow X e 1 (.slice (some ⟨g, 0, none⟩) N cap) N xs := by
 obtain ⟨c, h1, h2, h3⟩ := h
 refine ⟨by omega, .inr ⟨g, cap, c, rfl, hX, h1, hN, hc, by omega, ?_⟩⟩
 apply List.ext_getElem?
 intro q
 rw [Nat.mul_one]
 by_cases hq : q < N
 · rw [List.getElem?_take, if_pos hq, hx q hq, Array.getElem?_toList, h3 q (by omega)]
 · rw [List.getElem?_take, if_neg hq, List.getElem?_eq_none (by omega)]
theorem drop_at (gs : Nat → Nat) (n i j : Nat) (h : i + j < n) : ((ptrs gs n).drop i)[j]? = some (.pointer (some ⟨gs (i + j), 0, none⟩)) := by
 rw [List.getElem?_drop, ptrs_at gs n (i + j) h]
theorem impl_Insert (X n i vb p : Nat) (v : Value) (gs : Nat → Nat) (w : World) (hown : w.ownsRow X 101 1 v n (ptrs gs n)) (hX : X ≤ w.heap.size) (hn : n ≤ 1048576) (hi : i ≤ n) (hvb : w.heap[vb]? = some (.cells #[.pointer (some ⟨p, 0, none⟩)] 101 (0, 0))) (hne : some vb ≠ v.ownBlock) :
 Calls Tryz.prog 121 #[v, .int .i64 (i : Int), .slice (some ⟨vb, 0, none⟩) 1 1] w fun e w' => (∃ v', e = .returned v' ∧ w'.ownsRow X 101 1 v' (n + 1) (ptrs (insP gs i p) (n + 1)) ∧ (v'.ownBlock = v.ownBlock ∨ ∃ q, v'.ownBlock = some q ∧ w.heap.size ≤ q)) ∧ w.grownBy w' v.ownBlock := by
 obtain ⟨i0, hi0, hz0, hz1, hz2⟩ := info_parts ptr_info
 obtain ⟨A, c, rfl, hnc, hcm⟩ := oSl hown
 unfold maxLen at hcm
 have mixed : Tryz.prog.follows .mixedOrders = true := by kernel_rfl
 have hvc : w.cell? ⟨vb, 0, none⟩ = some (.pointer (some ⟨p, 0, none⟩)) := by simp [World.cell?, hvb]
 rcases Nat.lt_or_eq_of_le hi with hlt | rfl
 · obtain ⟨g, cap, hg, _, _⟩ := hown.form (by omega)
   injection hg with hg1 hg2 hg3
   subst hg1 hg3
   obtain ⟨hXg, F, hrow, hF⟩ := row_of_ptrs hown
   have hgw := hrow.lt
   have hgv : vb ≠ g := fun e => hne (by rw [e]; rfl)
   have hsz : (Tryz.prog.info? 101).map (·.size) = some 1 := by rw [hi0]; simp [hz1]
   have hone : ∀ u ∈ ((ptrs gs n).drop i), u.oneCell' = true := fun u hu => ptrs_one gs n u (List.mem_of_mem_drop hu)
   have hdl : ((ptrs gs n).drop i).length = n - i := by rw [List.length_drop, ptrs_len]
   have hwr : IntKind.i64.wrap ((i : Int) + 1) = (i : Int) + 1 := by rw [IntKind.wrap_i64]; omega
   have htn : ((i : Int) + 1).toNat = i + 1 := by omega
   have hz2' : ¬ ((i : Int) = (n : Int)) := by omega
   have hci : ¬ (c = i) := by omega
   rcases Nat.lt_or_ge n c with hroom | hfull
   · obtain ⟨cv, hhv, hcv, _⟩ := id hrow
     have hov : ∀ lb cb, (callFunc 126 #[.slice (some ⟨vb, 0, none⟩) 1 1, .slice (some ⟨g, i + 1, none⟩) lb cb]).run Tryz.prog w = .ok (.value (.bool false)) w := fun lb cb => by
      rw [run_callFunc_extern Tryz.func126 (by kernel_rfl) (by kernel_rfl) (by kernel_rfl) (e := Extern.SlicesOverlaps.overlaps #[103, 103] #[4]) (by kernel_rfl),
       Lib.run_overlaps_apart w 103 4 101 Tryz.underlying103 1 Tryz.sizeOf101 ⟨vb, 0, none⟩ ⟨g, i + 1, none⟩ 1 1 lb cb hgv 101 101 1 c (by simp [World.shape?, hvb]) (by simp [World.shape?, hhv, hcv]) (by omega) (by simp [World.frozen?, hvb]) (by simp [World.frozen?, hvb])]
      rfl
     clear hhv hcv
     have hcel := cell_of_ptr hrow hF (Nat.le_of_lt hroom) i
     have hb1 : (0 : Int) ≤ (i : Int) + 1 := by omega
     have hb2 : ¬ (c = i + 1) := by omega
     have hb3 : (i : Int) ≤ (n : Int) + 1 := by omega
     have hcp1 : ∀ ty dc sc, (Builtin.copy_ #[103, 103] ty #[.slice (some ⟨g, i + 1, none⟩) (n - i) dc, .slice (some ⟨g, i, none⟩) (n + 1 - i) sc]).run Tryz.prog w.drew = .ok (goInt ((ptrs gs n).drop i).length) (w.drew.setCells g (i + 1) ((ptrs gs n).drop i)) := fun ty dc sc =>
      run_copy_cells w.drew _ _ ty 101 g (i + 1) (n - i) dc ⟨g, i, none⟩ (n + 1 - i) sc ((ptrs gs n).drop i) Tryz.underlying103 hsz (by rw [hdl]; simp only [Nat.min_def]; split <;> omega)
       (fun j u hj => by rw [Addr.add_lit]; exact hcel j u hj) (fun j hj => by rw [show w.drew.cell? ⟨g, i + 1 + j, none⟩ = _ from hrow.cell (i := i + 1 + j) (by omega)]; rfl) (fun j hj => hrow.frozen (i + 1 + j)) hone
     have hrow1 := rowIs_setCells ((ptrs gs n).drop i) (i + 1) w.drew F hrow
     have hg1 : w.grownBy (w.drew.setCells g (i + 1) ((ptrs gs n).drop i)) (some g) := (show w.grownBy w.drew (some g) from ⟨rfl, rfl, rfl, Nat.le_refl _, fun _ _ _ => rfl⟩).trans (setsP_grown g _ _ _)
     have hvc1 : (w.drew.setCells g (i + 1) ((ptrs gs n).drop i)).cell? ⟨vb, 0, none⟩ = some (.pointer (some ⟨p, 0, none⟩)) := hg1.cell hvc (fun e => hgv (by injection e))
     generalize w.drew.setCells g (i + 1) ((ptrs gs n).drop i) = W1 at *
     have hcp2 : ∀ ty dc, (Builtin.copy_ #[103, 103] ty #[.slice (some ⟨g, i, none⟩) (n + 1 - i) dc, .slice (some ⟨vb, 0, none⟩) 1 1]).run Tryz.prog W1 = .ok (goInt 1) (W1.setCells g i [.pointer (some ⟨p, 0, none⟩)]) := fun ty dc =>
      run_copy_cells W1 _ _ ty 101 g i (n + 1 - i) dc ⟨vb, 0, none⟩ 1 1 [.pointer (some ⟨p, 0, none⟩)] Tryz.underlying103 hsz (by simp only [List.length_cons, List.length_nil, Nat.min_def]; split <;> omega)
       (fun j u hj => by
        cases j with
        | zero => simp at hj; subst hj; exact hvc1
        | succ j => simp at hj) (fun j hj => by simp at hj; subst hj; rw [hrow1.cell (i := i + 0) (by omega)]; rfl) (fun j hj => hrow1.frozen (i + j)) (fun u hu => by simp at hu; subst hu; rfl)
     have hrow2 := rowIs_setCells [.pointer (some ⟨p, 0, none⟩)] i W1 _ hrow1
     have hg2 := hg1.trans (setsP_grown g [.pointer (some ⟨p, 0, none⟩)] i W1)
     have HF := Lib.hid (show (W1.setCells g i [.pointer (some ⟨p, 0, none⟩)]).ownsRow X 101 1 (.slice (some ⟨g, 0, none⟩) (n + 1) c) (n + 1) (ptrs (insP gs i p) (n + 1)) from ownP_of_row hrow2 hXg (by omega) (by unfold maxLen; omega) (ptrs_len _ _) (fun q hq => by
      rw [ptrs_at _ _ q hq]
      by_cases h1 : i ≤ q ∧ q < i + 1
      · obtain rfl : q = i := by omega
        simp [insP]
      · rw [if_neg (by simpa using h1)]
        by_cases h2 : i + 1 ≤ q ∧ q < i + 1 + ((ptrs gs n).drop i).length
        · rw [if_pos h2, drop_at gs n i (q - (i + 1)) (by omega)]
          have e1 : i + (q - (i + 1)) = q - 1 := by omega
          simp [insP, e1, show ¬ q < i by omega, show ¬ q = i by omega]
        · rw [if_neg h2, hF q (by rw [hdl] at h2; omega)]
          simp [insP, show q < i by rw [hdl] at h2; omega]))
     have HG := Lib.hid hg2
     clear hrow1 hrow2 hg1 hg2 hrow hcel hF hown hvc1
     go_enter Tryz.func121, Tryz.ntmps121
     go_wp2_with (simp only [hov])
     go_region_law_o (refine step_copy_runI rfl _ _ 103 103 rfl _ _ (by simp [Act.eval, Act.put]) (by simp [Act.eval, Act.put]) (hcp1 _ _ _) ?_)
     go_wp2_with (at_builtin; refine wpList_copy_runI _ rfl _ _ 103 103 rfl _ _ rfl rfl (hcp2 _ _) ?_)
     go_ret
     exact ⟨⟨_, rfl, HF.out, .inl rfl⟩, HG.out⟩
   · obtain rfl : c = n := by omega
     have hcs : ∀ (j : Nat) (u : Value), (ptrs gs c)[j]? = some u → w.cell? ⟨g, j, none⟩ = some u := fun j u h => by
      have := cell_of_ptr hrow hF (Nat.le_refl _) 0 j u (by simpa using h)
      simpa using this
     have hcel := cell_of_ptr hrow hF (Nat.le_refl _) i
     have hold : (Builtin.firstCells i0.size i (.slice (some ⟨g, 0, none⟩) i c)).run Tryz.prog w.drew = .ok ((ptrs gs c).take i).toArray w.drew := by
      rw [hz1]
      exact run_firstCells_some w.drew 1 i ⟨g, 0, none⟩ i c ((ptrs gs c).take i) (by rw [List.length_take, ptrs_len]; omega) (fun j u hj => by
       rw [Addr.add_lit]
       rw [List.getElem?_take] at hj
       split at hj
       · rw [Nat.zero_add]; exact hcs j u hj
       · cases hj)
     have hik : i + (c + 1 - i) = c + 1 := by omega
     have hkk : (c : Int) + 1 - (i : Int) = ((c + 1 - i : Nat) : Int) := by omega
     obtain ⟨G, hG⟩ : ∃ G, G = grownCap w (c + 1) c 101 := ⟨_, rfl⟩
     obtain ⟨ROW, hROW⟩ : ∃ ROW : Array Value, ROW = ((ptrs gs c).take i).toArray ++ Builtin.zeroCells (Value.pointer none).cells (c + 1 - i) ++ Builtin.zeroCells (Value.pointer none).cells (G - (c + 1)) := ⟨_, rfl⟩
     have hGn : c + 1 ≤ G := by rw [hG]; exact grownCap_ge w _ _ _
     have hGm : G ≤ maxLen := by rw [hG]; exact grownCap_le_maxLen w (c + 1) c 101 (by unfold maxLen; omega)
     have hRl : ROW.size = G := by
      rw [hROW]
      simp [Builtin.zeroCells, Value.cells, ptrs_len]
      omega
     have hRt : ∀ q, q < i → ROW[q]? = some (.pointer (some ⟨gs q, 0, none⟩)) := fun q hq => by
      rw [hROW, Array.append_assoc, Array.getElem?_append_left (by simp [ptrs_len]; omega)]
      simp only [List.getElem?_toArray]
      rw [List.getElem?_take, if_pos hq, ptrs_at gs c q (by omega)]
     have hrz : ∀ ty, (Builtin.append_ #[103, 3] ty #[.slice (some ⟨g, 0, none⟩) i c, .int .i64 ((c : Int) + 1 - (i : Int))]).run Tryz.prog w = .ok (.slice (some ⟨w.heap.size, 0, none⟩) (c + 1) G) (w.drew.alloc (.cells ROW 101)) := fun ty => by
      have h := Lib.run_append_grow_zeros w 103 3 ty 101 i0 _ .i64 .i64 Tryz.underlying103 Tryz.underlying3 hi0 hz0 (some ⟨g, 0, none⟩) i c ((ptrs gs c).take i) hold (c + 1 - i) (by omega) (by omega) (by omega) (by omega) (by rw [hz2]; omega) (by rw [hz2, hik]; exact growslice_fits (by omega) (by omega))
      rw [hik] at h
      rw [hkk, hROW, hG]
      exact h
     have hbN : g ≠ w.heap.size := by omega
     have hrow0 : (w.drew.alloc (.cells ROW 101)).rowIs w.heap.size 101 G (fun q => ROW[q]?.getD (.pointer none)) := ⟨ROW, heap_alloc_new w.drew _, hRl, fun q hq => by simp [show q < ROW.size by omega]⟩
     have hg0 : w.grownBy (w.drew.alloc (.cells ROW 101)) none := (show w.grownBy w.drew none from ⟨rfl, rfl, rfl, Nat.le_refl _, fun _ _ _ => rfl⟩).trans (World.grownBy_alloc w.drew _ none)
     have hb0 : Below w.heap.size w (w.drew.alloc (.cells ROW 101)) := (Below.refl _ w).drew.alloc (Nat.le_refl _) _
     have hvw : vb < w.heap.size := hlT hvb
     have hvc0 : (w.drew.alloc (.cells ROW 101)).cell? ⟨vb, 0, none⟩ = some (.pointer (some ⟨p, 0, none⟩)) := (hb0.cell (p := ⟨vb, 0, none⟩) hvw).trans hvc
     have hcel0 : ∀ (j : Nat) (u : Value), ((ptrs gs c).drop i)[j]? = some u → (w.drew.alloc (.cells ROW 101)).cell? ⟨g, i + j, none⟩ = some u := fun j u h => (hb0.cell (p := ⟨g, i + j, none⟩) hgw).trans (hcel j u h)
     have hbel := hb0
     generalize hW0 : w.drew.alloc (.cells ROW 101) = W0 at *
     have hcpA : ∀ ty dc, (Builtin.copy_ #[103, 103] ty #[.slice (some ⟨w.heap.size, i, none⟩) (c + 1 - i) dc, .slice (some ⟨vb, 0, none⟩) 1 1]).run Tryz.prog W0 = .ok (goInt 1) (W0.setCells w.heap.size i [.pointer (some ⟨p, 0, none⟩)]) := fun ty dc =>
      run_copy_cells W0 _ _ ty 101 w.heap.size i (c + 1 - i) dc ⟨vb, 0, none⟩ 1 1 [.pointer (some ⟨p, 0, none⟩)] Tryz.underlying103 hsz (by simp only [List.length_cons, List.length_nil, Nat.min_def]; split <;> omega)
       (fun j u hj => by
        cases j with
        | zero => simp at hj; subst hj; exact hvc0
        | succ j => simp at hj) (fun j hj => by simp at hj; subst hj; rw [hrow0.cell (i := i + 0) (by omega)]; rfl) (fun j hj => hrow0.frozen (i + j)) (fun u hu => by simp at hu; subst hu; rfl)
     have hrow1 := rowIs_setCells [.pointer (some ⟨p, 0, none⟩)] i W0 _ hrow0
     have hbel1 := below_setCells (b := w.heap.size) (Nat.le_refl w.heap.size) [.pointer (some ⟨p, 0, none⟩)] i W0 hbel
     have hcel1 : ∀ (j : Nat) (u : Value), ((ptrs gs c).drop i)[j]? = some u → (W0.setCells w.heap.size i [.pointer (some ⟨p, 0, none⟩)]).drew.cell? ⟨g, i + j, none⟩ = some u := fun j u h => (hbel1.cell (p := ⟨g, i + j, none⟩) hgw).trans (hcel j u h)
     generalize W0.setCells w.heap.size i [.pointer (some ⟨p, 0, none⟩)] = W1 at *
     have hcpB : ∀ ty dc sc, (Builtin.copy_ #[103, 103] ty #[.slice (some ⟨w.heap.size, i + 1, none⟩) (c - i) dc, .slice (some ⟨g, i, none⟩) (c - i) sc]).run Tryz.prog W1.drew = .ok (goInt ((ptrs gs c).drop i).length) (W1.drew.setCells w.heap.size (i + 1) ((ptrs gs c).drop i)) := fun ty dc sc =>
      run_copy_cells W1.drew _ _ ty 101 w.heap.size (i + 1) (c - i) dc ⟨g, i, none⟩ (c - i) sc ((ptrs gs c).drop i) Tryz.underlying103 hsz (by rw [hdl]; simp only [Nat.min_def]; split <;> omega)
       (fun j u hj => by rw [Addr.add_lit]; exact hcel1 j u hj) (fun j hj => by rw [show W1.drew.cell? ⟨w.heap.size, i + 1 + j, none⟩ = _ from hrow1.cell (i := i + 1 + j) (by omega)]; rfl) (fun j hj => hrow1.frozen (i + 1 + j)) hone
     have hrow2 := rowIs_setCells ((ptrs gs c).drop i) (i + 1) W1.drew _ hrow1
     have hbel2 := below_setCells (b := w.heap.size) (Nat.le_refl w.heap.size) ((ptrs gs c).drop i) (i + 1) W1.drew hbel1.drew
     have HF := Lib.hid (show (W1.drew.setCells w.heap.size (i + 1) ((ptrs gs c).drop i)).ownsRow X 101 1 (.slice (some ⟨w.heap.size, 0, none⟩) (c + 1) G) (c + 1) (ptrs (insP gs i p) (c + 1)) from ownP_of_row hrow2 hX hGn hGm (ptrs_len _ _) (fun q hq => by
      rw [ptrs_at _ _ q hq]
      by_cases h2 : i + 1 ≤ q ∧ q < i + 1 + ((ptrs gs c).drop i).length
      · rw [if_pos h2, drop_at gs c i (q - (i + 1)) (by omega)]
        have e1 : i + (q - (i + 1)) = q - 1 := by omega
        simp [insP, e1, show ¬ q < i by omega, show ¬ q = i by omega]
      · rw [if_neg h2]
        by_cases h1 : i ≤ q ∧ q < i + 1
        · obtain rfl : q = i := by omega
          simp [insP]
        · rw [if_neg (by simpa using h1), hRt q (by rw [hdl] at h2; omega)]
          simp [insP, show q < i by rw [hdl] at h2; omega]))
     have HG := Lib.hid (show w.grownBy (W1.drew.setCells w.heap.size (i + 1) ((ptrs gs c).drop i)) (Value.slice (some ⟨g, 0, none⟩) c c).ownBlock from ⟨hbel2.os, hbel2.tape, hbel2.output, hbel2.size, fun k hk _ => hbel2.block k hk⟩)
     have hGi : ¬ (G = i) := by omega
     have hGim : ¬ (G = i + 1) := by omega
     have hb1 : (0 : Int) ≤ (i : Int) + 1 := by omega
     have hb3 : (i : Int) ≤ (c : Int) := by omega
     have hGL := hGm
     unfold maxLen at hGL
     clear hrow1 hrow2 hrow0 hbel1 hbel2 hbel hcel hcel0 hcel1 hF hown hrow hvc0 hg0 hb0 hold hROW hG hRt hRl hcs hkk hik hGm
     go_enter Tryz.func121, Tryz.ntmps121
     go_wp2_with (first
      | (at_builtin; refine Lib.wpList_append_run _ rfl _ _ _ _ rfl _ _ rfl rfl _ _ (hrz _) ?_)
      | (at_builtin; refine wpList_copy_runI _ rfl _ _ 103 103 rfl _ _ rfl rfl (hcpA _ _) ?_))
     go_region_law_o (refine step_copy_runI rfl _ _ 103 103 rfl _ _ (by simp [Act.eval, Act.put]) (by simp [Act.eval, Act.put]) (hcpB _ _ _) ?_)
     go_wp2
     go_ret
     exact ⟨⟨_, rfl, HF.out, .inr ⟨_, rfl, Nat.le_refl _⟩⟩, HG.out⟩
 · have hsp : c = i ∨ (i < c ∧ ¬ (c = i)) := by omega
   rcases hsp with rfl | ⟨hci, hci'⟩
   · go_enter Tryz.func121, Tryz.ntmps121
     go_wp2_with (at_builtin; refine wpList_append_own_at _ rfl _ _ 103 rfl X 101 i0 _ 1 8 Tryz.underlying103 hi0 hz0 hz1 hz2 rfl (by decide) _ _ _ rfl hown ⟨vb, 0, none⟩ 1 1 [.pointer (some ⟨p, 0, none⟩)] rfl rfl ?c1 ?c2 ?c3 ?c4 ?c5 ?_)
     case c1 => exact World.news_of_block hvb
     case c2 => intro u hu; simp at hu; subst hu; rfl
     case c3 => unfold maxLen; omega
     case c4 => omega
     case c5 => exact hX
     intro v' w2 hown2 hgrow2 _ hat2
     have HO := Lib.hid hown2
     have HA := Lib.hid hat2
     obtain ⟨A2, d2, rfl, _, _⟩ := oSl hown2
     clear hown2 hat2
     go_wp2_with fail
     go_ret
     exact ⟨⟨_, rfl, by rw [insP_end]; exact HO.out, by rcases HA.out with h | h; exact .inl h; exact .inr ⟨_, h, Nat.le_refl _⟩⟩, hgrow2⟩
   · go_enter Tryz.func121, Tryz.ntmps121
     go_wp2_with (at_builtin; refine wpList_append_own_at _ rfl _ _ 103 rfl X 101 i0 _ 1 8 Tryz.underlying103 hi0 hz0 hz1 hz2 rfl (by decide) _ _ _ rfl hown ⟨vb, 0, none⟩ 1 1 [.pointer (some ⟨p, 0, none⟩)] rfl rfl ?c1 ?c2 ?c3 ?c4 ?c5 ?_)
     case c1 => exact World.news_of_block hvb
     case c2 => intro u hu; simp at hu; subst hu; rfl
     case c3 => unfold maxLen; omega
     case c4 => omega
     case c5 => exact hX
     intro v' w2 hown2 hgrow2 _ hat2
     have HO := Lib.hid hown2
     have HA := Lib.hid hat2
     obtain ⟨A2, d2, rfl, _, _⟩ := oSl hown2
     clear hown2 hat2
     go_wp2_with fail
     go_ret
     exact ⟨⟨_, rfl, by rw [insP_end]; exact HO.out, by rcases HA.out with h | h; exact .inl h; exact .inr ⟨_, h, Nat.le_refl _⟩⟩, hgrow2⟩
end Go.Proofs.YtgjjdnojiegidaaGreatDoor

namespace Go.Proofs.YtgjjdnojiegidaaGreatDoor
open Go.RowKit Wire
set_option maxHeartbeats 3200000
set_option maxRecDepth 100000
set_option linter.unusedSimpArgs false

def insZ (zs : List Int) (i : Nat) (o : List Int) : List Int := zs.take (i * 4) ++ o ++ zs.drop (i * 4)
theorem insZ_len {zs o : List Int} {n i : Nat} (hz : zs.length = n * 4) (ho : o.length = 4) (hi : i ≤ n) : (insZ zs i o).length = (n + 1) * 4 := by
 simp [insZ, hz, ho]
 omega
theorem insZ_lo {zs o : List Int} {n i q j : Nat} (hz : zs.length = n * 4) (hi : i ≤ n) (hq : q < i) (hj : j < 4) : num (insZ zs i o) (q * 4 + j) = num zs (q * 4 + j) := by
 unfold num insZ
 rw [List.append_assoc, List.getD_eq_getElem?_getD, List.getElem?_append_left (by simp; omega), List.getElem?_take, if_pos (by omega), ← List.getD_eq_getElem?_getD]
theorem insZ_at {zs o : List Int} {n i j : Nat} (hz : zs.length = n * 4) (ho : o.length = 4) (hi : i ≤ n) (hj : j < 4) : num (insZ zs i o) (i * 4 + j) = num o j := by
 unfold num insZ
 have ht : (zs.take (i * 4)).length = i * 4 := by simp; omega
 rw [List.append_assoc, List.getD_eq_getElem?_getD, List.getElem?_append_right (by omega), ht, List.getElem?_append_left (by omega), List.getD_eq_getElem?_getD]
 congr 2
 omega
theorem insZ_hi {zs o : List Int} {n i q j : Nat} (hz : zs.length = n * 4) (ho : o.length = 4) (hi : i < q) (hq : q < n + 1) (hj : j < 4) : num (insZ zs i o) (q * 4 + j) = num zs ((q - 1) * 4 + j) := by
 unfold num insZ
 have ht : (zs.take (i * 4)).length = i * 4 := by simp; omega
 rw [List.append_assoc, List.getD_eq_getElem?_getD, List.getElem?_append_right (by omega), ht, List.getElem?_append_right (by omega), ho, List.getElem?_drop, List.getD_eq_getElem?_getD]
 congr 2
 omega
theorem row4_of {w : World} {bo : Nat} {a b c d : Int} {T : TypeId} (h : w.heap[bo]? = some (.cells #[.int .i64 a, .int .i64 b, .int .i64 c, .int .i64 d] T (0, 0))) : w.rowIs bo T 4 (numAt fun j => num [a, b, c, d] j) :=
 ⟨_, h, rfl, fun i hi => by
  rcases (show i = 0 ∨ i = 1 ∨ i = 2 ∨ i = 3 from by omega) with rfl | rfl | rfl | rfl <;> rfl⟩
def restI (side p : Int) (zs : List Int) (n : Nat) : Nat := lead (fun k => !betB side p (price zs k)) n
theorem cell_lt {w : World} {p : Addr} {u : Value} (h : w.cell? p = some u) : p.block < w.heap.size := by
 rcases Nat.lt_or_ge p.block w.heap.size with h' | h'
 · exact h'
 · simp [World.cell?, Array.getElem?_eq_none h'] at h
theorem Opened.lower {w : World} {X X' S L : Nat} {T0 T1 T2 : TypeId} {F : Value} {side : Int} {zs : List Int} {n : Nat} {v : Value} {gs : Nat → Nat} (h : Opened w X S L T0 T1 T2 F side zs n v gs) (hX : X' ≤ X) : Opened w X' S L T0 T1 T2 F side zs n v gs :=
 ⟨⟨Nat.le_trans hX h.low.1, Nat.le_trans hX h.low.2.1, h.low.2.2⟩, h.side, h.list, oMn h.own hX, h.far⟩
theorem Copies.lower {w : World} {X X' S L : Nat} {T : TypeId} {zs : List Int} {n : Nat} {v : Value} {gs : Nat → Nat} (h : Copies w X S L T zs n v gs) (hX : X' ≤ X) : Copies w X' S L T zs n v gs := fun k hk => by
 obtain ⟨h1, h2⟩ := h k hk
 exact ⟨Nat.le_trans hX h1, h2⟩
theorem insert_one {u u1 : World} {X S L bo i : Nat} {T T0 T1 T2 : TypeId} {F : Value} {side : Int} {zs o : List Int} {n : Nat} {v v' : Value} {gs : Nat → Nat} (hop : Opened u X S L T0 T1 T2 F side zs n v gs) (hcp : Copies u X S L T zs n v gs) (hz : zs.length = n * 4) (ho : o.length = 4) (hi : i ≤ n)
 (hg : u.grownBy u1 v.ownBlock) (hown : u1.ownsRow X T2 1 v' (n + 1) (ptrs (insP gs i bo) (n + 1))) (hv : v'.ownBlock = v.ownBlock ∨ ∃ q, v'.ownBlock = some q ∧ u.heap.size ≤ q)
 (hb : u.rowIs bo T 4 (numAt fun j => num o j)) (hbX : X ≤ bo) (hbS : bo ≠ S) (hbL : bo ≠ L) (hbv : some bo ≠ v.ownBlock) :
 Opened (u1.setCell ⟨L, 0, none⟩ v') X S L T0 T1 T2 F side (insZ zs i o) (n + 1) v' (insP gs i bo) ∧ Copies (u1.setCell ⟨L, 0, none⟩ v') X S L T (insZ zs i o) (n + 1) v' (insP gs i bo) := by
 have hL := hlT hop.list
 have hS := hlT hop.side
 have far : ∀ q, q < u.heap.size → some q ≠ v.ownBlock → v'.ownBlock ≠ some q := fun q hq h1 e => by
  rcases hv with h | ⟨r, h, hr⟩
  · exact h1 (e.symm.trans h)
  · rw [h] at e; injection e with e; omega
 refine ⟨⟨hop.low, (Below.heap_setCell u1 _ _ S hop.low.2.2).trans ((hg.block S hS (fun e => hop.far.2 e.symm)).trans hop.side), zS0 ((hg.block L hL (fun e => hop.far.1 e.symm)).trans hop.list), hown.kept (set_grown u1 L 0 v') (.inr (fun e => far L hL (fun h => hop.far.1 h.symm) e)), far L hL (fun h => hop.far.1 h.symm), far S hS (fun h => hop.far.2 h.symm)⟩, fun q hq => ?_⟩
 have old : ∀ b f, u.rowIs b T 4 f → b ≠ L → some b ≠ v.ownBlock → (u1.setCell ⟨L, 0, none⟩ v').rowIs b T 4 f := fun b f h h1 h2 => (h.of_block (hg.block b h.lt h2)).setOther (a := ⟨L, 0, none⟩) h1 _
 unfold insP
 by_cases h1 : q < i
 · obtain ⟨c1, c2, c3, c4, c5⟩ := hcp q (by omega)
   simp only [h1, if_true]
   exact ⟨c1, c2, c3, fun e => far _ c5.lt c4 e.symm, (old _ _ c5 c3 c4).congr (fun j hj => by simp only [numAt]; rw [insZ_lo hz hi h1 hj])⟩
 · by_cases h2 : q = i
   · subst h2
     simp only [Nat.lt_irrefl, if_false, if_true]
     exact ⟨hbX, hbS, hbL, fun e => far _ hb.lt hbv e.symm, (old _ _ hb hbL hbv).congr (fun j hj => by simp only [numAt]; rw [insZ_at hz ho hi hj])⟩
   · obtain ⟨c1, c2, c3, c4, c5⟩ := hcp (q - 1) (by omega)
     simp only [h1, h2, if_false]
     exact ⟨c1, c2, c3, fun e => far _ c5.lt c4 e.symm, (old _ _ c5 c3 c4).congr (fun j hj => by simp only [numAt]; rw [insZ_hi hz ho (by omega) hq hj])⟩
theorem impl_insert (X S L n bo : Nat) (side oi oa op oq : Int) (zs : List Int) (v : Value) (gs : Nat → Nat) (w : World) (hop : Opened w X S L 2 106 101 (.func (.func 77) #[] #[.pointer (some ⟨S, 0, none⟩)]) side zs n v gs) (hcp : Copies w X S L 65 zs n v gs) (hn : n ≤ 1048576) (hz : zs.length = n * 4)
 (hb : w.heap[bo]? = some (.cells #[.int .i64 oi, .int .i64 oa, .int .i64 op, .int .i64 oq] 65 (0, 0))) (hbX : X ≤ bo) (hbS : bo ≠ S) (hbL : bo ≠ L) (hbv : some bo ≠ v.ownBlock) :
 Calls Tryz.prog 112 #[.pointer (some ⟨L, 0, none⟩), .pointer (some ⟨bo, 0, none⟩)] w fun e w' => (∃ u, e = .returned u) ∧ (∃ v', Opened w' X S L 2 106 101 (.func (.func 77) #[] #[.pointer (some ⟨S, 0, none⟩)]) side (insZ zs (restI side op zs n) [oi, oa, op, oq]) (n + 1) v' (insP gs (restI side op zs n) bo) ∧ Copies w' X S L 65 (insZ zs (restI side op zs n) [oi, oa, op, oq]) (n + 1) v' (insP gs (restI side op zs n) bo)) ∧ Below X w w' ∧ ∀ k, k < w.heap.size → k ≠ L → some k ≠ v.ownBlock → w'.heap[k]? = w.heap[k]? := by
 have hXw : X ≤ w.heap.size := Nat.le_of_lt (Nat.lt_of_le_of_lt hop.low.1 (hlT hop.side))
 go_enter Tryz.func112, Tryz.ntmps112
 go_wp2_with fail
 go_loopw [4] (fun i wr => ∃ k : Nat, k ≤ n ∧ i = .int .i64 (k : Int) ∧ (∀ j, j < k → (!betB side op (price zs j)) = true) ∧ Below w.heap.size w wr) (fun i _ => n - (intOf i).toNat)
 case atStart => exact ⟨0, Nat.zero_le _, rfl, fun j hj => absurd hj (Nat.not_lt_zero j), Below.refl _ _⟩
 case round =>
  obtain ⟨k, hk, rfl, hall, hbel⟩ := hrel
  have HA := Lib.hid hall
  have hopr := hop.below hbel
  have hcpr := hcp.below hbel
  have hbr := (hbel.block bo (hlT hb)).trans hb
  have cB : wr.cell? ⟨bo, 2, none⟩ = some (.int .i64 op) := by simp [World.cell?, hbr]
  have cL := cell_of_row wr L 0 _ _ (0, 0) hopr.list
  have cF := cell_of_row wr L 1 _ _ (0, 0) hopr.list
  have cS := cell_of_row wr S 0 _ _ (0, 0) hopr.side
  simp at cL cF cS
  clear hall
  have fin : ∀ wz : World, Below w.heap.size w wz → restI side op zs n = k → True := fun _ _ _ => trivial
  clear fin
  by_cases hlt : k < n
  · obtain ⟨g, cap, rfl, hnd, hdm⟩ := hopr.own.form (by omega)
    have p0 := hopr.own.cells (g := g) rfl k _ (ptrs_at gs n k hlt)
    rw [add0 g k] at p0
    have q0 : wr.cell? ⟨gs k, 2, none⟩ = some (.int .i64 (price zs k)) := (hcpr k hlt).2.2.2.2.cell (i := 2) (by omega)
    have HB := Lib.hid hbel
    have hbsz := hbel.size
    rcases Bool.eq_false_or_eq_true (betB side op (price zs k)) with hbt | hbt
    · have HL := Lib.hid (show restI side op zs n = k from lead_one n (fun k => !betB side op (price zs k)) k hk HA.out (.inr (by simp [hbt])))
      go_upto_region 1 with fail
      refine wp_region_held_drew (S := (fun w' => Below wr.heap.size wr w' ∧ w'.cell? ⟨L, 0, none⟩ = some (.slice (some ⟨g, 0, none⟩) n cap) ∧ w'.cell? ⟨L, 1, none⟩ = some (.func (.func 77) #[] #[.pointer (some ⟨S, 0, none⟩)]) ∧ w'.cell? ⟨g, k, none⟩ = some (.pointer (some ⟨gs k, 0, none⟩)) ∧ w'.cell? ⟨S, 0, none⟩ = some (.int .i64 side) ∧ w'.cell? ⟨gs k, 2, none⟩ = some (.int .i64 (price zs k)) ∧ w'.cell? ⟨bo, 2, none⟩ = some (.int .i64 op))) (by kernel_rfl) ?hSq1xs (fun zH => ?restq1xs)
      case hSq1xs => (exact kp2)
      refine tkV 0 ?_
      refine tkV 1 ?_
      refine tkV 2 ?_
      refine tkV 3 ?_
      refine tkV 4 ?_
      refine tkV 5 ?_
      refine tkV 6 ?_
      refine tkV 7 ?_
      refine tkV 8 ?_
      refine tkV 9 ?_
      refine tkV 10 ?_
      refine tkV 11 ?_
      refine tkV 12 ?_
      refine tkV 13 ?_
      refine tkV 14 ?_
      refine tkV 15 ?_
      refine tkV 16 ?_
      refine tkV 17 ?_
      refine tkV 18 ?_
      refine tkV 19 ?_
      refine rd1 20 (fun K hK => ?_)
      go_simp
      (go_at_call 77; refine (impl_worse (gs k) bo S side (price zs k) op _ zH.2.2.2.2.1 zH.2.2.2.2.2.1 zH.2.2.2.2.2.2).mono ?_; rw [hbt]; rintro e u2 ⟨rfl, hb2'⟩)
      refine hK.out _ _ (⟨zH.1.trans (hb2'.mono zH.1.size), (hb2'.cell (p := ⟨L, 0, none⟩) (cell_lt zH.2.1)).trans zH.2.1, (hb2'.cell (p := ⟨L, 1, none⟩) (cell_lt zH.2.2.1)).trans zH.2.2.1, (hb2'.cell (p := ⟨g, k, none⟩) (cell_lt zH.2.2.2.1)).trans zH.2.2.2.1, (hb2'.cell (p := ⟨S, 0, none⟩) (cell_lt zH.2.2.2.2.1)).trans zH.2.2.2.2.1, (hb2'.cell (p := ⟨gs k, 2, none⟩) (cell_lt zH.2.2.2.2.2.1)).trans zH.2.2.2.2.2.1, (hb2'.cell (p := ⟨bo, 2, none⟩) (cell_lt zH.2.2.2.2.2.2)).trans zH.2.2.2.2.2.2⟩) (fun zH => ?_)
      clear hK K
      try simp only [Act.put, sA, sB, sC]
      refine tkV 21 ?_
      refine tkV 22 ?_
      refine dn1 ?_
      obtain ⟨hbz, cL, -, -, -, -, -⟩ := zH
      have hbz := HB.out.trans (hbz.mono hbsz)
      have hopz := hop.below hbz
      have hcpz := hcp.below hbz
      have hBz := (hbz.block bo (hlT hb)).trans hb
      clear hop hcp hopr hcpr hbel cB cF cS p0 q0 hbt
      generalize u2 = wz at *
      have hsz2 : w.heap.size ≤ wz.heap.size := hbz.size
      have hba := (Below.refl wz.heap.size wz).alloc (Nat.le_refl _) (.cells #[.pointer (some ⟨bo, 0, none⟩)] 101)
      have hop5 := hopz.below hba
      have hcp5 := hcpz.below hba
      have hrb := row4_of ((hba.block bo (hlT hBz)).trans hBz)
      have hvb := heap_alloc_new wz (.cells #[.pointer (some ⟨bo, 0, none⟩)] 101)
      have hsa : (wz.alloc (.cells #[.pointer (some ⟨bo, 0, none⟩)] 101)).heap.size = wz.heap.size + 1 := by simp
      have hvn : some wz.heap.size ≠ (Value.slice (some ⟨g, 0, none⟩) n cap).ownBlock := fun e => by have := (hopz.own.lt _ e.symm).2; omega
      have hxb := ((hbz.mono hXw).alloc (by omega) (.cells #[.pointer (some ⟨bo, 0, none⟩)] 101))
      have hfr := fun (q : Nat) (hq : q < w.heap.size) => (hba.block q (by omega)).trans (hbz.block q hq)
      have hrl := fun (q : Nat) (hq : (Value.slice (some ⟨g, 0, none⟩) n cap).ownBlock = some q) => (hopz.own.lt q hq).1
      go_wp2_with fail
      generalize (wz.alloc (.cells #[.pointer (some ⟨bo, 0, none⟩)] 101)) = wa at *
      refine (impl_Insert X n k wz.heap.size bo _ gs wa hop5.own (by omega) hn hk hvb hvn).mono ?_
      rintro e w5 ⟨⟨r, rfl, hown, hat⟩, hg⟩
      have hone := insert_one (o := [oi, oa, op, oq]) hop5 hcp5 hz rfl hk hg hown hat hrb hbX hbS hbL hbv
      have hk5 := (hg.block L (hlT hop5.list) (fun e => hop5.far.1 e.symm)).trans hop5.list
      have d0 := cell_of_row w5 L 0 _ _ (0, 0) hk5
      have z0 := frozen_of_row w5 L 0 _ _ hk5
      simp only [List.getElem?_toArray, List.getElem?_cons_zero] at d0
      have HX := Lib.hid ((hxb.grown hg (by omega) hrl).setCell (p := ⟨L, 0, none⟩) hop5.low.2.1 r)
      have HF := Lib.hid (fun (q : Nat) (hq : q < w.heap.size) (h1 : q ≠ L) (h2 : some q ≠ (Value.slice (some ⟨g, 0, none⟩) n cap).ownBlock) => (Below.heap_setCell w5 ⟨L, 0, none⟩ r q h1).trans ((hg.block q (by omega) h2).trans (hfr q hq)))
      have HONE := Lib.hid hone
      obtain ⟨A5, d5, rfl, _, _⟩ := oSl hown
      clear hone hown hat hg hk5 hxb hfr hrl hop5 hcp5
      go_wp2_with fail
      go_end0
      exact ⟨⟨_, rfl⟩, ⟨_, by rw [HL.out]; exact HONE.out⟩, HX.out, HF.out⟩
    · have HM := Lib.hid (show (!betB side op (price zs k)) = true by simp [hbt])
      go_upto_region 1 with fail
      refine wp_region_held_drew (S := (fun w' => Below wr.heap.size wr w' ∧ w'.cell? ⟨L, 0, none⟩ = some (.slice (some ⟨g, 0, none⟩) n cap) ∧ w'.cell? ⟨L, 1, none⟩ = some (.func (.func 77) #[] #[.pointer (some ⟨S, 0, none⟩)]) ∧ w'.cell? ⟨g, k, none⟩ = some (.pointer (some ⟨gs k, 0, none⟩)) ∧ w'.cell? ⟨S, 0, none⟩ = some (.int .i64 side) ∧ w'.cell? ⟨gs k, 2, none⟩ = some (.int .i64 (price zs k)) ∧ w'.cell? ⟨bo, 2, none⟩ = some (.int .i64 op))) (by kernel_rfl) ?hSq2xs (fun zH => ?restq2xs)
      case hSq2xs => (exact kp2)
      refine tkV 0 ?_
      refine tkV 1 ?_
      refine tkV 2 ?_
      refine tkV 3 ?_
      refine tkV 4 ?_
      refine tkV 5 ?_
      refine tkV 6 ?_
      refine tkV 7 ?_
      refine tkV 8 ?_
      refine tkV 9 ?_
      refine tkV 10 ?_
      refine tkV 11 ?_
      refine tkV 12 ?_
      refine tkV 13 ?_
      refine tkV 14 ?_
      refine tkV 15 ?_
      refine tkV 16 ?_
      refine tkV 17 ?_
      refine tkV 18 ?_
      refine tkV 19 ?_
      refine rd1 20 (fun K hK => ?_)
      go_simp
      (go_at_call 77; refine (impl_worse (gs k) bo S side (price zs k) op _ zH.2.2.2.2.1 zH.2.2.2.2.2.1 zH.2.2.2.2.2.2).mono ?_; rw [hbt]; rintro e u2 ⟨rfl, hb2'⟩)
      refine hK.out _ _ (⟨zH.1.trans (hb2'.mono zH.1.size), (hb2'.cell (p := ⟨L, 0, none⟩) (cell_lt zH.2.1)).trans zH.2.1, (hb2'.cell (p := ⟨L, 1, none⟩) (cell_lt zH.2.2.1)).trans zH.2.2.1, (hb2'.cell (p := ⟨g, k, none⟩) (cell_lt zH.2.2.2.1)).trans zH.2.2.2.1, (hb2'.cell (p := ⟨S, 0, none⟩) (cell_lt zH.2.2.2.2.1)).trans zH.2.2.2.2.1, (hb2'.cell (p := ⟨gs k, 2, none⟩) (cell_lt zH.2.2.2.2.2.1)).trans zH.2.2.2.2.2.1, (hb2'.cell (p := ⟨bo, 2, none⟩) (cell_lt zH.2.2.2.2.2.2)).trans zH.2.2.2.2.2.2⟩) (fun zH => ?_)
      clear hK K
      try simp only [Act.put, sA, sB, sC]
      refine tkV 21 ?_
      refine tkV 22 ?_
      refine dn1 ?_
      obtain ⟨hbz, -, -, -, -, -, -⟩ := zH
      have hbz := HB.out.trans (hbz.mono hbsz)
      clear hop hcp hopr hcpr hbel cB cF cS p0 q0 hbt
      go_wp2_with fail
      go_roundw
      case rel => exact ⟨k + 1, by omega, by go_num, fun j hj => by
       rcases (show j < k ∨ j = k from by omega) with h | rfl
       · exact HA.out j h
       · exact HM.out, hbz⟩
      case measure => simp [intOf]; omega
  · obtain rfl : k = n := by omega
    have HL := Lib.hid (show restI side op zs k = k from lead_one k (fun k => !betB side op (price zs k)) k hk HA.out (.inl rfl))
    obtain ⟨A, cap, rfl, _, _⟩ := oSl hopr.own
    have HB := Lib.hid hbel
    have hbsz := hbel.size
    go_upto_region 1 with fail
    refine wp_region_held_drew (S := (fun w' => Below wr.heap.size wr w' ∧ w'.cell? ⟨L, 0, none⟩ = some (.slice A k cap))) (by kernel_rfl) ?hSq3xs (fun zH => ?restq3xs)
    case hSq3xs => (exact kp2)
    refine tkV 0 ?_
    refine tkV 1 ?_
    refine tkV 2 ?_
    refine tkV 3 ?_
    refine tkV 4 ?_
    refine tkV 5 ?_
    refine tkV 6 ?_
    refine tkV 7 ?_
    refine hdN 8 ?_
    refine hdN 9 ?_
    refine hdN 10 ?_
    refine hdN 11 ?_
    refine hdN 12 ?_
    refine hdN 13 ?_
    refine hdN 14 ?_
    refine hdN 15 ?_
    refine hdN 16 ?_
    refine hdN 17 ?_
    refine hdN 18 ?_
    refine hdN 19 ?_
    refine hdN 20 ?_
    refine hdN 21 ?_
    refine tkV 22 ?_
    refine dn1 ?_
    obtain ⟨hbz, cL⟩ := zH
    have hbz := HB.out.trans (hbz.mono hbsz)
    have hopz := hop.below hbz
    have hcpz := hcp.below hbz
    have hBz := (hbz.block bo (hlT hb)).trans hb
    clear hop hcp hopr hcpr hbel cB cF cS
    generalize wr.drew = wq at *
    have hsz2 : w.heap.size ≤ wq.heap.size := hbz.size
    have hba := (Below.refl wq.heap.size wq).alloc (Nat.le_refl _) (.cells #[.pointer (some ⟨bo, 0, none⟩)] 101)
    have hop5 := hopz.below hba
    have hcp5 := hcpz.below hba
    have hrb := row4_of ((hba.block bo (hlT hBz)).trans hBz)
    have hvb := heap_alloc_new wq (.cells #[.pointer (some ⟨bo, 0, none⟩)] 101)
    have hsa : (wq.alloc (.cells #[.pointer (some ⟨bo, 0, none⟩)] 101)).heap.size = wq.heap.size + 1 := by simp
    have hvn : some wq.heap.size ≠ (Value.slice A k cap).ownBlock := fun e => by have := (hopz.own.lt _ e.symm).2; omega
    have hxb := ((hbz.mono hXw).alloc (by omega) (.cells #[.pointer (some ⟨bo, 0, none⟩)] 101))
    have hfr := fun (q : Nat) (hq : q < w.heap.size) => (hba.block q (by omega)).trans (hbz.block q hq)
    have hrl := fun (q : Nat) (hq : (Value.slice A k cap).ownBlock = some q) => (hopz.own.lt q hq).1
    go_wp2_with fail
    generalize (wq.alloc (.cells #[.pointer (some ⟨bo, 0, none⟩)] 101)) = wa at *
    refine (impl_Insert X k k wq.heap.size bo _ gs wa hop5.own (by omega) hn hk hvb hvn).mono ?_
    rintro e w5 ⟨⟨r, rfl, hown, hat⟩, hg⟩
    have hone := insert_one (o := [oi, oa, op, oq]) hop5 hcp5 hz rfl hk hg hown hat hrb hbX hbS hbL hbv
    have hk5 := (hg.block L (hlT hop5.list) (fun e => hop5.far.1 e.symm)).trans hop5.list
    have d0 := cell_of_row w5 L 0 _ _ (0, 0) hk5
    have z0 := frozen_of_row w5 L 0 _ _ hk5
    simp only [List.getElem?_toArray, List.getElem?_cons_zero] at d0
    have HX := Lib.hid ((hxb.grown hg (by omega) hrl).setCell (p := ⟨L, 0, none⟩) hop5.low.2.1 r)
    have HF := Lib.hid (fun (q : Nat) (hq : q < w.heap.size) (h1 : q ≠ L) (h2 : some q ≠ (Value.slice A k cap).ownBlock) => (Below.heap_setCell w5 ⟨L, 0, none⟩ r q h1).trans ((hg.block q (by omega) h2).trans (hfr q hq)))
    have HONE := Lib.hid hone
    obtain ⟨A5, d5, rfl, _, _⟩ := oSl hown
    clear hone hown hat hg hk5 hxb hfr hrl hop5 hcp5
    go_wp2_with fail
    go_end0
    exact ⟨⟨_, rfl⟩, ⟨_, by rw [HL.out]; exact HONE.out⟩, HX.out, HF.out⟩
end Go.Proofs.YtgjjdnojiegidaaGreatDoor

namespace Go.Proofs.YtgjjdnojiegidaaGreatDoor
open Go.RowKit Wire
set_option maxHeartbeats 3200000
set_option maxRecDepth 100000
set_option linter.unusedSimpArgs false

def rest1 (side p : Int) (za : List Int) (n : Nat) (o : List Int) : List Int := if side = 1 then insZ za (restI side p za n) o else za
def rest2 (side p : Int) (zb : List Int) (m : Nat) (o : List Int) : List Int := if side = 1 then zb else insZ zb (restI side p zb m) o
def restN1 (side : Int) (n : Nat) : Nat := if side = 1 then n + 1 else n
def restN2 (side : Int) (m : Nat) : Nat := if side = 1 then m else m + 1
def restOk (side oi oa op oq : Int) (za : List Int) (n : Nat) (zb : List Int) (m : Nat) : Bool :=
 bookB za n zb m && (sideOkB side && (ordI oi oa op oq && bookB (rest1 side op za n [oi, oa, op, oq]) (restN1 side n) (rest2 side op zb m [oi, oa, op, oq]) (restN2 side m)))
def onN (b : Bool) (n : Nat) : Nat := if b = true then n else 0
def onZ (b : Bool) (z : List Int) : List Int := if b = true then z else []
theorem onN_true (n : Nat) : onN true n = n := rfl
theorem onZ_true (z : List Int) : onZ true z = z := rfl
theorem book_small {za zb : List Int} {n m : Nat} (h : bookB za n zb m = true) : n ≤ 20 ∧ m ≤ 20 := by
 simp only [bookB, sideB, Bool.and_eq_true, decide_eq_true_eq] at h
 exact ⟨h.1.1, h.2.1.1⟩
theorem lead_le' (f : Nat → Bool) (n : Nat) : lead f n ≤ n := by
 induction n generalizing f with
 | zero => simp [lead]
 | succ n ih =>
  rw [lead]
  split
  · have := ih (fun j => f (j + 1)); omega
  · omega
theorem Opened.framed {w w' : World} {X S L : Nat} {T0 T1 T2 : TypeId} {F : Value} {side : Int} {zs : List Int} {n : Nat} {v : Value} {gs : Nat → Nat} (h : Opened w X S L T0 T1 T2 F side zs n v gs) (hf : ∀ q, q < w.heap.size → (q = S ∨ q = L ∨ v.ownBlock = some q) → w'.heap[q]? = w.heap[q]?) : Opened w' X S L T0 T1 T2 F side zs n v gs := by
 refine ⟨h.low, (hf S (hlT h.side) (.inl rfl)).trans h.side, (hf L (hlT h.list) (.inr (.inl rfl))).trans h.list, ⟨h.own.1, ?_⟩, h.far⟩
 rcases h.own.2 with h0 | ⟨g, cap, cur, hv, hX, hheap, hr⟩
 · exact .inl h0
 · exact .inr ⟨g, cap, cur, hv, hX, (hf g (hlT hheap) (.inr (.inr (by rw [hv]; rfl)))).trans hheap, hr⟩
theorem Copies.framed {w w' : World} {X S L : Nat} {T : TypeId} {zs : List Int} {n : Nat} {v : Value} {gs : Nat → Nat} (h : Copies w X S L T zs n v gs) (hf : ∀ k, k < n → ∀ g : Nat, g = gs k → w'.heap[gs k]? = w.heap[gs k]?) : Copies w' X S L T zs n v gs := fun k hk => by
 obtain ⟨h1, h2, h3, h4, h5⟩ := h k hk
 exact ⟨h1, h2, h3, h4, h5.of_block (hf k hk _ rfl)⟩
theorem impl_Rested (A : Option Addr) (n c : Nat) (B : Option Addr) (m d : Nat) (za zb : List Int) (side oi oa op oq : Int) (w : World) (ha : Lst w w.heap.size 4 A n za) (hb : Lst w w.heap.size 4 B m zb) (hn2 : n ≤ 1048576) (hm2 : m ≤ 1048576) :
 Calls Tryz.prog 94 #[.agg #[.slice A n c, .slice B m d], .int .i64 side, .agg #[.int .i64 oi, .int .i64 oa, .int .i64 op, .int .i64 oq]] w fun e w' => (∃ v1 v2, e = .returned (.tuple #[.agg #[v1, v2], .bool (restOk side oi oa op oq za n zb m)]) ∧ TwoRows w' w.heap.size v1 (onN (restOk side oi oa op oq za n zb m) (restN1 side n)) (onZ (restOk side oi oa op oq za n zb m) (rest1 side op za n [oi, oa, op, oq])) v2 (onN (restOk side oi oa op oq za n zb m) (restN2 side m)) (onZ (restOk side oi oa op oq za n zb m) (rest2 side op zb m [oi, oa, op, oq]))) ∧ Below w.heap.size w w' := by
 obtain ⟨kb0, ko, kr⟩ := three_blocks w (.cells #[.slice A n c, .slice B m d] 30) (.cells #[.int .i64 oi, .int .i64 oa, .int .i64 op, .int .i64 oq] 65) (.cells #[.slice none 0 0, .slice none 0 0] 30)
 have hb0 : Below w.heap.size w (((w.alloc (.cells #[.slice A n c, .slice B m d] 30)).alloc (.cells #[.int .i64 oi, .int .i64 oa, .int .i64 op, .int .i64 oq] 65)).alloc (.cells #[.slice none 0 0, .slice none 0 0] 30)) := (((Below.refl _ _).alloc (Nat.le_refl _) _).alloc (by simp) _).alloc (by simp; omega) _
 have hs0 : (((w.alloc (.cells #[.slice A n c, .slice B m d] 30)).alloc (.cells #[.int .i64 oi, .int .i64 oa, .int .i64 op, .int .i64 oq] 65)).alloc (.cells #[.slice none 0 0, .slice none 0 0] 30)).heap.size = w.heap.size + 3 := by simp
 have x0 := cell_of_row _ w.heap.size 0 _ _ (0, 0) kb0
 have x1 := cell_of_row _ w.heap.size 1 _ _ (0, 0) kb0
 simp at x0 x1
 go_enter Tryz.func94, Tryz.ntmps94
 go_wp2_with fail
 generalize (((w.alloc (.cells #[.slice A n c, .slice B m d] 30)).alloc (.cells #[.int .i64 oi, .int .i64 oa, .int .i64 op, .int .i64 oq] 65)).alloc (.cells #[.slice none 0 0, .slice none 0 0] 30)) = w0 at *
 refine (impl_BookOk A n c B m d za zb w0 ((ha.below hb0).more hb0.size) ((hb.below hb0).more hb0.size) hn2 hm2).mono ?_
 generalize hbk : bookB za n zb m = bk
 rintro e w1 ⟨rfl, hb1⟩
 have HBK := Lib.hid hbk
 have kb0 := (hb1.block w.heap.size (by omega)).trans kb0
 have ko := (hb1.block (w.heap.size + 1) (by omega)).trans ko
 have kr := (hb1.block (w.heap.size + 1 + 1) (by omega)).trans kr
 have hs1 : w.heap.size + 3 ≤ w1.heap.size := by have := hb1.size; omega
 have hb1 := hb0.trans (hb1.mono hb0.size)
 clear hb0 hs0 hbk x0 x1
 cases bk
 · have HNO := Lib.hid (show restOk side oi oa op oq za n zb m = false from by unfold restOk; rw [HBK.out]; rfl)
   have s0 := cell_of_row w1 (w.heap.size + 1 + 1) 0 _ _ (0, 0) kr
   have s1 := cell_of_row w1 (w.heap.size + 1 + 1) 1 _ _ (0, 0) kr
   have z0 := frozen_of_row w1 (w.heap.size + 1 + 1) 0 _ _ kr
   have z1 := frozen_of_row w1 (w.heap.size + 1 + 1) 1 _ _ kr
   simp at s0 s1
   have E0 := Lib.hid (cell_of_row _ (w.heap.size + 1 + 1) 0 _ _ (0, 0) (zS1 (u := .slice none 0 0) (zS0 (u := .slice none 0 0) kr)))
   have E1 := Lib.hid (cell_of_row _ (w.heap.size + 1 + 1) 1 _ _ (0, 0) (zS1 (u := .slice none 0 0) (zS0 (u := .slice none 0 0) kr)))
   go_wp2_with fail
   have e0 := E0.out
   have e1 := E1.out
   simp at e0 e1
   refine bodyPost_ret (v := .tuple #[.agg #[.slice none 0 0, .slice none 0 0], .bool false]) (by simp [results, Tryz.results94, go_sem, e0, e1]) rfl ⟨⟨.slice none 0 0, .slice none 0 0, by rw [HNO.out], by rw [HNO.out]; exact TwoRows.nil _ _⟩, ?_⟩
   exact ((hb1.setCell (p := ⟨w.heap.size + 1 + 1, 0, none⟩) le2 _).setCell (p := ⟨w.heap.size + 1 + 1, 1, none⟩) le2 _)
 go_wp2_with fail
 refine (impl_sideOk side w1).mono ?_
 rintro e w2 ⟨rfl, rfl⟩
 rcases Bool.eq_false_or_eq_true (sideOkB side) with hsd | hsd
 rotate_left
 · have HNO := Lib.hid (show restOk side oi oa op oq za n zb m = false from by unfold restOk; rw [HBK.out, hsd]; rfl)
   rw [hsd]
   clear hsd
   have s0 := cell_of_row w1 (w.heap.size + 1 + 1) 0 _ _ (0, 0) kr
   have s1 := cell_of_row w1 (w.heap.size + 1 + 1) 1 _ _ (0, 0) kr
   have z0 := frozen_of_row w1 (w.heap.size + 1 + 1) 0 _ _ kr
   have z1 := frozen_of_row w1 (w.heap.size + 1 + 1) 1 _ _ kr
   simp at s0 s1
   have E0 := Lib.hid (cell_of_row _ (w.heap.size + 1 + 1) 0 _ _ (0, 0) (zS1 (u := .slice none 0 0) (zS0 (u := .slice none 0 0) kr)))
   have E1 := Lib.hid (cell_of_row _ (w.heap.size + 1 + 1) 1 _ _ (0, 0) (zS1 (u := .slice none 0 0) (zS0 (u := .slice none 0 0) kr)))
   go_wp2_with fail
   have e0 := E0.out
   have e1 := E1.out
   simp at e0 e1
   refine bodyPost_ret (v := .tuple #[.agg #[.slice none 0 0, .slice none 0 0], .bool false]) (by simp [results, Tryz.results94, go_sem, e0, e1]) rfl ⟨⟨.slice none 0 0, .slice none 0 0, by rw [HNO.out], by rw [HNO.out]; exact TwoRows.nil _ _⟩, ?_⟩
   exact ((hb1.setCell (p := ⟨w.heap.size + 1 + 1, 0, none⟩) le2 _).setCell (p := ⟨w.heap.size + 1 + 1, 1, none⟩) le2 _)
 have HSD := Lib.hid hsd
 rw [hsd]
 clear hsd
 have o0 := cell_of_row w1 (w.heap.size + 1) 0 _ _ (0, 0) ko
 have o1 := cell_of_row w1 (w.heap.size + 1) 1 _ _ (0, 0) ko
 have o2 := cell_of_row w1 (w.heap.size + 1) 2 _ _ (0, 0) ko
 have o3 := cell_of_row w1 (w.heap.size + 1) 3 _ _ (0, 0) ko
 simp at o0 o1 o2 o3
 go_wp2_with fail
 refine (impl_orderOk oi oa op oq w1).mono ?_
 rintro e w2 ⟨rfl, hb2⟩
 have kb0 := (hb2.block w.heap.size (by omega)).trans kb0
 have ko := (hb2.block (w.heap.size + 1) (by omega)).trans ko
 have kr := (hb2.block (w.heap.size + 1 + 1) (by omega)).trans kr
 have hs2 : w.heap.size + 3 ≤ w2.heap.size := by have := hb2.size; omega
 have hb2 := hb1.trans (hb2.mono hb1.size)
 clear hb1 o0 o1 o2 o3
 rcases Bool.eq_false_or_eq_true (ordI oi oa op oq) with hod | hod
 rotate_left
 · have HNO := Lib.hid (show restOk side oi oa op oq za n zb m = false from by unfold restOk; rw [HBK.out, HSD.out, hod]; rfl)
   rw [hod]
   clear hod
   have s0 := cell_of_row w2 (w.heap.size + 1 + 1) 0 _ _ (0, 0) kr
   have s1 := cell_of_row w2 (w.heap.size + 1 + 1) 1 _ _ (0, 0) kr
   have z0 := frozen_of_row w2 (w.heap.size + 1 + 1) 0 _ _ kr
   have z1 := frozen_of_row w2 (w.heap.size + 1 + 1) 1 _ _ kr
   simp at s0 s1
   have E0 := Lib.hid (cell_of_row _ (w.heap.size + 1 + 1) 0 _ _ (0, 0) (zS1 (u := .slice none 0 0) (zS0 (u := .slice none 0 0) kr)))
   have E1 := Lib.hid (cell_of_row _ (w.heap.size + 1 + 1) 1 _ _ (0, 0) (zS1 (u := .slice none 0 0) (zS0 (u := .slice none 0 0) kr)))
   go_wp2_with fail
   have e0 := E0.out
   have e1 := E1.out
   simp at e0 e1
   refine bodyPost_ret (v := .tuple #[.agg #[.slice none 0 0, .slice none 0 0], .bool false]) (by simp [results, Tryz.results94, go_sem, e0, e1]) rfl ⟨⟨.slice none 0 0, .slice none 0 0, by rw [HNO.out], by rw [HNO.out]; exact TwoRows.nil _ _⟩, ?_⟩
   exact ((hb2.setCell (p := ⟨w.heap.size + 1 + 1, 0, none⟩) le2 _).setCell (p := ⟨w.heap.size + 1 + 1, 1, none⟩) le2 _)
 have HOD := Lib.hid hod
 rw [hod]
 clear hod
 have x0 := cell_of_row w2 w.heap.size 0 _ _ (0, 0) kb0
 have x1 := cell_of_row w2 w.heap.size 1 _ _ (0, 0) kb0
 simp at x0 x1
 go_wp2_with fail
 refine (impl_opened A n c B m d za zb w2 ((ha.below hb2).more hb2.size) ((hb.below hb2).more hb2.size) hn2 hm2).mono ?_
 rintro e w3 ⟨X1, S1, L1, v1, gs1, X2, S2, L2, v2, gs2, rfl, hp1, hp2, hX1, hX2, hfar, hb3⟩
 have ko := (hb3.block (w.heap.size + 1) (by omega)).trans ko
 have kr := (hb3.block (w.heap.size + 1 + 1) (by omega)).trans kr
 have hs3 : w.heap.size + 3 ≤ w3.heap.size := by have := hb3.size; omega
 have hbD := hb2.trans (hb3.mono hb2.size)
 clear hb2 hb3 kb0 x0 x1
 have ka := heap_alloc_new w3 (.cells #[.pointer (some ⟨L1, 0, none⟩), .pointer (some ⟨L2, 0, none⟩)] 55)
 have hbA : Below w3.heap.size w3 (w3.alloc (.cells #[.pointer (some ⟨L1, 0, none⟩), .pointer (some ⟨L2, 0, none⟩)] 55)) := (Below.refl _ _).alloc (Nat.le_refl _) _
 have hsA : (w3.alloc (.cells #[.pointer (some ⟨L1, 0, none⟩), .pointer (some ⟨L2, 0, none⟩)] 55)).heap.size = w3.heap.size + 1 := by simp
 have ko := (hbA.block (w.heap.size + 1) (by omega)).trans ko
 have kr := (hbA.block (w.heap.size + 1 + 1) (by omega)).trans kr
 have hLa : L1 < w3.heap.size := hlT hp1.1.list
 have hLb : L2 < w3.heap.size := hlT hp2.1.list
 have hvG1 : some w3.heap.size ≠ v1.ownBlock := fun e => by have := (hp1.1.own.lt _ e.symm).2; omega
 have hvG2 : some w3.heap.size ≠ v2.ownBlock := fun e => by have := (hp2.1.own.lt _ e.symm).2; omega
 have hp1 := And.intro (hp1.1.below hbA) (hp1.2.below hbA)
 have hp2 := And.intro (hp2.1.below hbA) (hp2.2.below hbA)
 have y0 := cell_of_row _ w3.heap.size 0 _ _ (0, 0) ka
 have y1 := cell_of_row _ w3.heap.size 1 _ _ (0, 0) ka
 simp at y0 y1
 have hbD := hbD.trans (hbA.mono hbD.size)
 clear hbA
 go_wp2_with fail
 generalize (w3.alloc (.cells #[.pointer (some ⟨L1, 0, none⟩), .pointer (some ⟨L2, 0, none⟩)] 55)) = wa at *
 generalize w3.heap.size = wG at *
 obtain ⟨hn, hm⟩ := book_small HBK.out
 rcases side_cases side with ⟨rfl, _⟩ | ⟨rfl, _⟩ | ⟨_, _, hno⟩
 · have HA1 := Lib.hid (show rest1 1 op za n [oi, oa, op, oq] = (insZ za (restI 1 op za n) [oi, oa, op, oq]) from rfl)
   have HA2 := Lib.hid (show rest2 1 op zb m [oi, oa, op, oq] = zb from rfl)
   have HA3 := Lib.hid (show restN1 1 n = (n + 1) from rfl)
   have HA4 := Lib.hid (show restN2 1 m = m from rfl)
   have HC := Lib.hid (show restOk 1 oi oa op oq za n zb m = bookB (insZ za (restI 1 op za n) [oi, oa, op, oq]) (n + 1) zb m from by unfold restOk; rw [HBK.out, HSD.out, HOD.out, HA1.out, HA2.out, HA3.out, HA4.out]; simp)
   have hli : restI 1 op za n ≤ n := lead_le' _ _
   have HZL := Lib.hid (insZ_len (o := [oi, oa, op, oq]) ha.1 rfl hli)
   go_wp2_with fail
   refine (impl_side ⟨L1, 0, none⟩ ⟨L2, 0, none⟩ 1 wa).mono ?_
   rintro e w4 ⟨rfl, hb4⟩
   have hs4 := hb4.size
   have hbD := hbD.trans (hb4.mono hbD.size)
   have ka := (hb4.block _ (by omega)).trans ka
   have kr := (hb4.block (w.heap.size + 1 + 1) (by omega)).trans kr
   have ko := (hb4.block (w.heap.size + 1) (by omega)).trans ko
   have hop1 := hp1.1.below hb4
   have hcp1 := hp1.2.below hb4
   have hop2 := hp2.1.below hb4
   have hcp2 := hp2.2.below hb4
   clear hp1 hp2 hb4 y0 y1
   go_wp2_with fail
   refine (impl_insert w.heap.size S1 L1 n (w.heap.size + 1) 1 oi oa op oq za v1 gs1 w4 (hop1.lower (by omega)) (hcp1.lower (by omega)) hn2 ha.1 ko (by omega) (by have := hop1.low.1; omega) (by have := hop1.low.2.1; omega) (fun e => by have := (hop1.own.lt _ e.symm).1; omega)).mono ?_
   rintro e w5 ⟨⟨_, rfl⟩, ⟨v', hq, hqc⟩, hb5, hk5⟩
   have hs5 : w4.heap.size ≤ w5.heap.size := hb5.size
   have hX1L : X1 ≤ L1 := hop1.low.2.1
   have hX1v : ∀ q, v1.ownBlock = some q → X1 ≤ q := fun q hq => (hop1.own.lt q hq).1
   have fr : ∀ q, q < w4.heap.size → (q < X1 ∨ q = wG) → w5.heap[q]? = w4.heap[q]? := fun q hq h => by
    rcases h with h | h
    · exact hk5 q hq (by omega) (fun e => by have := hX1v q e.symm; omega)
    · subst h
      exact hk5 _ hq (by omega) hvG1
   have ka := (fr _ (by omega) (.inr rfl)).trans ka
   have kr := (fr (w.heap.size + 1 + 1) (by omega) (.inl (by omega))).trans kr
   have hbD := hbD.trans (hb5.mono (Nat.le_refl _))
   have hXX : ∀ q, (q = S2 ∨ q = L2 ∨ v2.ownBlock = some q) → X2 ≤ q := fun q h => by
    rcases h with rfl | rfl | h
    · exact hop2.low.1
    · exact hop2.low.2.1
    · exact (hop2.own.lt q h).1
   have hd1 : ∀ q, (q = S2 ∨ q = L2 ∨ v2.ownBlock = some q) → q ≠ L1 := fun q h => by have := hXX q h; have := hfar.2.1; omega
   have hd2 : ∀ q, (q = S2 ∨ q = L2 ∨ v2.ownBlock = some q) → some q ≠ v1.ownBlock := fun q h e => by have := hXX q h; have := hfar.2.2.1 q e.symm; omega
   have hXg : ∀ q, q < m → X2 ≤ gs2 q := fun q hq => (hcp2 q hq).1
   have hd3 : ∀ q, q < m → gs2 q ≠ L1 := fun q hq => by have := hXg q hq; have := hfar.2.1; omega
   have hd4 : ∀ q, q < m → some (gs2 q) ≠ v1.ownBlock := fun q hq e => by have := hXg q hq; have := hfar.2.2.1 _ e.symm; omega
   have ho := hop2.framed (w' := w5) (fun q hq h => hk5 q hq (hd1 q h) (hd2 _ h))
   have hoc := hcp2.framed (w' := w5) (fun q hq g hg => hk5 (gs2 q) (hcp2 q hq).2.2.2.2.lt (hd3 q hq) (hd4 q hq))
   have y0 := cell_of_row w5 wG 0 _ _ (0, 0) ka
   have y1 := cell_of_row w5 wG 1 _ _ (0, 0) ka
   simp at y0 y1
   clear hop1 hcp1 hop2 hcp2 hk5 fr hb5
   have hn' : (n + 1) ≤ 1048576 := by omega
   have hm' : m ≤ 1048576 := by omega
   go_wp2_with fail
   refine (impl_closed w.heap.size S1 L1 X2 S2 L2 (n + 1) m v' v2 _ _ _ _ w5 hq hqc ho hoc hn' hm' HZL.out hb.1).mono ?_
   rintro e w6 ⟨⟨r1, r2, rfl, ho1, ho2, hne⟩, hb6⟩
   have TG : TwoRows w6 (w.heap.size + 3) r1 (n + 1) (insZ za (restI 1 op za n) [oi, oa, op, oq]) r2 m zb := ⟨oMn ho1 (by omega), oMn ho2 (by omega), hne⟩
   have hs6 := hb6.size
   have kr := (hb6.block (w.heap.size + 1 + 1) (by omega)).trans kr
   have hbD := hbD.trans (hb6.mono hbD.size)
   clear hb6 ho1 ho2 hne hq hqc ho hoc y0 y1
   obtain ⟨A1, d1, A2, d2, rfl, rfl⟩ := TG.slices
   have hbb : Below w6.heap.size w6 (w6.alloc (.cells #[.slice A1 (n + 1) d1, .slice A2 m d2] 30)) := (Below.refl _ _).alloc (Nat.le_refl _) _
   have kb := heap_alloc_new w6 (.cells #[.slice A1 (n + 1) d1, .slice A2 m d2] 30)
   have kr := (hbb.block (w.heap.size + 1 + 1) (by omega)).trans kr
   have TG := TG.below hbb
   have hbD := hbD.trans (hbb.mono hbD.size)
   have hsb := hbb.size
   have y0 := cell_of_row _ w6.heap.size 0 _ _ (0, 0) kb
   have y1 := cell_of_row _ w6.heap.size 1 _ _ (0, 0) kb
   simp at y0 y1
   clear hbb
   go_wp2_with fail
   generalize (w6.alloc (.cells #[.slice A1 (n + 1) d1, .slice A2 m d2] 30)) = wb at *
   refine (impl_BookOk A1 (n + 1) d1 A2 m d2 _ _ wb TG.bookIn.1 TG.bookIn.2 hn' hm').mono ?_
   rw [← HC.out]
   generalize hok : restOk 1 oi oa op oq za n zb m = ok at *
   rintro e w7 ⟨rfl, hb7⟩
   have TG := TG.below hb7
   have kb := (hb7.block w6.heap.size (hlT kb)).trans kb
   have kr := (hb7.block (w.heap.size + 1 + 1) (by omega)).trans kr
   have hbD := hbD.trans (hb7.mono hbD.size)
   have hs7 := hb7.size
   have HOK := Lib.hid hok
   clear hb7 y0 y1 hok HC
   cases ok
   · clear TG kb
     have s0 := cell_of_row w7 (w.heap.size + 1 + 1) 0 _ _ (0, 0) kr
     have s1 := cell_of_row w7 (w.heap.size + 1 + 1) 1 _ _ (0, 0) kr
     have z0 := frozen_of_row w7 (w.heap.size + 1 + 1) 0 _ _ kr
     have z1 := frozen_of_row w7 (w.heap.size + 1 + 1) 1 _ _ kr
     simp at s0 s1
     have E0 := Lib.hid (cell_of_row _ (w.heap.size + 1 + 1) 0 _ _ (0, 0) (zS1 (u := .slice none 0 0) (zS0 (u := .slice none 0 0) kr)))
     have E1 := Lib.hid (cell_of_row _ (w.heap.size + 1 + 1) 1 _ _ (0, 0) (zS1 (u := .slice none 0 0) (zS0 (u := .slice none 0 0) kr)))
     go_wp2_with fail
     have e0 := E0.out
     have e1 := E1.out
     simp at e0 e1
     refine bodyPost_ret (v := .tuple #[.agg #[.slice none 0 0, .slice none 0 0], .bool false]) (by simp [results, Tryz.results94, go_sem, e0, e1]) rfl ⟨⟨.slice none 0 0, .slice none 0 0, by rw [HOK.out], by rw [HOK.out]; exact TwoRows.nil _ _⟩, ?_⟩
     exact ((hbD.setCell (p := ⟨w.heap.size + 1 + 1, 0, none⟩) le2 _).setCell (p := ⟨w.heap.size + 1 + 1, 1, none⟩) le2 _)
   · have y0 := cell_of_row w7 w6.heap.size 0 _ _ (0, 0) kb
     have y1 := cell_of_row w7 w6.heap.size 1 _ _ (0, 0) kb
     simp at y0 y1
     have s0 := cell_of_row w7 (w.heap.size + 1 + 1) 0 _ _ (0, 0) kr
     have s1 := cell_of_row w7 (w.heap.size + 1 + 1) 1 _ _ (0, 0) kr
     have z0 := frozen_of_row w7 (w.heap.size + 1 + 1) 0 _ _ kr
     have z1 := frozen_of_row w7 (w.heap.size + 1 + 1) 1 _ _ kr
     simp at s0 s1
     have E0 := Lib.hid (cell_of_row _ (w.heap.size + 1 + 1) 0 _ _ (0, 0) (zS1 (u := .slice A2 m d2) (zS0 (u := .slice A1 (n + 1) d1) kr)))
     have E1 := Lib.hid (cell_of_row _ (w.heap.size + 1 + 1) 1 _ _ (0, 0) (zS1 (u := .slice A2 m d2) (zS0 (u := .slice A1 (n + 1) d1) kr)))
     have HTG := Lib.hid ((TG.kept (set_grown w7 (w.heap.size + 1 + 1) 0 (.slice A1 (n + 1) d1)) (by omega)).kept (set_grown _ (w.heap.size + 1 + 1) 1 (.slice A2 m d2)) (by omega))
     clear TG kb
     go_wp2_with fail
     have e0 := E0.out
     have e1 := E1.out
     simp at e0 e1
     refine bodyPost_ret (v := .tuple #[.agg #[.slice A1 (n + 1) d1, .slice A2 m d2], .bool true]) (by simp [results, Tryz.results94, go_sem, e0, e1]) rfl ⟨⟨_, _, by rw [HOK.out], by rw [HOK.out, onN_true, onN_true, onZ_true, onZ_true, HA1.out, HA2.out, HA3.out, HA4.out]; exact HTG.out.mono (by omega)⟩, ?_⟩
     exact ((hbD.setCell (p := ⟨w.heap.size + 1 + 1, 0, none⟩) le2 _).setCell (p := ⟨w.heap.size + 1 + 1, 1, none⟩) le2 _)
 · have HA1 := Lib.hid (show rest1 2 op za n [oi, oa, op, oq] = za from rfl)
   have HA2 := Lib.hid (show rest2 2 op zb m [oi, oa, op, oq] = (insZ zb (restI 2 op zb m) [oi, oa, op, oq]) from rfl)
   have HA3 := Lib.hid (show restN1 2 n = n from rfl)
   have HA4 := Lib.hid (show restN2 2 m = (m + 1) from rfl)
   have HC := Lib.hid (show restOk 2 oi oa op oq za n zb m = bookB za n (insZ zb (restI 2 op zb m) [oi, oa, op, oq]) (m + 1) from by unfold restOk; rw [HBK.out, HSD.out, HOD.out, HA1.out, HA2.out, HA3.out, HA4.out]; simp)
   have hli : restI 2 op zb m ≤ m := lead_le' _ _
   have HZL := Lib.hid (insZ_len (o := [oi, oa, op, oq]) hb.1 rfl hli)
   go_wp2_with fail
   refine (impl_side ⟨L1, 0, none⟩ ⟨L2, 0, none⟩ 2 wa).mono ?_
   rintro e w4 ⟨rfl, hb4⟩
   have hs4 := hb4.size
   have hbD := hbD.trans (hb4.mono hbD.size)
   have ka := (hb4.block _ (by omega)).trans ka
   have kr := (hb4.block (w.heap.size + 1 + 1) (by omega)).trans kr
   have ko := (hb4.block (w.heap.size + 1) (by omega)).trans ko
   have hop1 := hp1.1.below hb4
   have hcp1 := hp1.2.below hb4
   have hop2 := hp2.1.below hb4
   have hcp2 := hp2.2.below hb4
   clear hp1 hp2 hb4 y0 y1
   go_wp2_with fail
   refine (impl_insert w.heap.size S2 L2 m (w.heap.size + 1) 2 oi oa op oq zb v2 gs2 w4 (hop2.lower (by omega)) (hcp2.lower (by omega)) hm2 hb.1 ko (by omega) (by have := hop2.low.1; omega) (by have := hop2.low.2.1; omega) (fun e => by have := (hop2.own.lt _ e.symm).1; omega)).mono ?_
   rintro e w5 ⟨⟨_, rfl⟩, ⟨v', hq, hqc⟩, hb5, hk5⟩
   have hs5 : w4.heap.size ≤ w5.heap.size := hb5.size
   have hX1L : X2 ≤ L2 := hop2.low.2.1
   have hX1v : ∀ q, v2.ownBlock = some q → X2 ≤ q := fun q hq => (hop2.own.lt q hq).1
   have fr : ∀ q, q < w4.heap.size → (q < X1 ∨ q = wG) → w5.heap[q]? = w4.heap[q]? := fun q hq h => by
    rcases h with h | h
    · exact hk5 q hq (by omega) (fun e => by have := hX1v q e.symm; omega)
    · subst h
      exact hk5 _ hq (by omega) hvG2
   have ka := (fr _ (by omega) (.inr rfl)).trans ka
   have kr := (fr (w.heap.size + 1 + 1) (by omega) (.inl (by omega))).trans kr
   have hbD := hbD.trans (hb5.mono (Nat.le_refl _))
   have hXX : ∀ q, (q = S1 ∨ q = L1 ∨ v1.ownBlock = some q) → q < X2 := fun q h => by
    rcases h with rfl | rfl | h
    · exact hfar.1
    · exact hfar.2.1
    · exact hfar.2.2.1 q h
   have hd1 : ∀ q, (q = S1 ∨ q = L1 ∨ v1.ownBlock = some q) → q ≠ L2 := fun q h => by have := hXX q h; omega
   have hd2 : ∀ q, (q = S1 ∨ q = L1 ∨ v1.ownBlock = some q) → some q ≠ v2.ownBlock := fun q h e => by have := hXX q h; have := hX1v q e.symm; omega
   have hXg : ∀ q, q < n → gs1 q < X2 := fun q hq => hfar.2.2.2 q hq
   have hd3 : ∀ q, q < n → gs1 q ≠ L2 := fun q hq => by have := hXg q hq; omega
   have hd4 : ∀ q, q < n → some (gs1 q) ≠ v2.ownBlock := fun q hq e => by have := hXg q hq; have := hX1v _ e.symm; omega
   have ho := hop1.framed (w' := w5) (fun q hq h => hk5 q hq (hd1 q h) (hd2 _ h))
   have hoc := hcp1.framed (w' := w5) (fun q hq g hg => hk5 (gs1 q) (hcp1 q hq).2.2.2.2.lt (hd3 q hq) (hd4 q hq))
   have y0 := cell_of_row w5 wG 0 _ _ (0, 0) ka
   have y1 := cell_of_row w5 wG 1 _ _ (0, 0) ka
   simp at y0 y1
   clear hop1 hcp1 hop2 hcp2 hk5 fr hb5
   have hn' : n ≤ 1048576 := by omega
   have hm' : (m + 1) ≤ 1048576 := by omega
   go_wp2_with fail
   refine (impl_closed X1 S1 L1 w.heap.size S2 L2 n (m + 1) v1 v' _ _ _ _ w5 ho hoc hq hqc hn' hm' ha.1 HZL.out).mono ?_
   rintro e w6 ⟨⟨r1, r2, rfl, ho1, ho2, hne⟩, hb6⟩
   have TG : TwoRows w6 (w.heap.size + 3) r1 n za r2 (m + 1) (insZ zb (restI 2 op zb m) [oi, oa, op, oq]) := ⟨oMn ho1 (by omega), oMn ho2 (by omega), hne⟩
   have hs6 := hb6.size
   have kr := (hb6.block (w.heap.size + 1 + 1) (by omega)).trans kr
   have hbD := hbD.trans (hb6.mono hbD.size)
   clear hb6 ho1 ho2 hne hq hqc ho hoc y0 y1
   obtain ⟨A1, d1, A2, d2, rfl, rfl⟩ := TG.slices
   have hbb : Below w6.heap.size w6 (w6.alloc (.cells #[.slice A1 n d1, .slice A2 (m + 1) d2] 30)) := (Below.refl _ _).alloc (Nat.le_refl _) _
   have kb := heap_alloc_new w6 (.cells #[.slice A1 n d1, .slice A2 (m + 1) d2] 30)
   have kr := (hbb.block (w.heap.size + 1 + 1) (by omega)).trans kr
   have TG := TG.below hbb
   have hbD := hbD.trans (hbb.mono hbD.size)
   have hsb := hbb.size
   have y0 := cell_of_row _ w6.heap.size 0 _ _ (0, 0) kb
   have y1 := cell_of_row _ w6.heap.size 1 _ _ (0, 0) kb
   simp at y0 y1
   clear hbb
   go_wp2_with fail
   generalize (w6.alloc (.cells #[.slice A1 n d1, .slice A2 (m + 1) d2] 30)) = wb at *
   refine (impl_BookOk A1 n d1 A2 (m + 1) d2 _ _ wb TG.bookIn.1 TG.bookIn.2 hn' hm').mono ?_
   rw [← HC.out]
   generalize hok : restOk 2 oi oa op oq za n zb m = ok at *
   rintro e w7 ⟨rfl, hb7⟩
   have TG := TG.below hb7
   have kb := (hb7.block w6.heap.size (hlT kb)).trans kb
   have kr := (hb7.block (w.heap.size + 1 + 1) (by omega)).trans kr
   have hbD := hbD.trans (hb7.mono hbD.size)
   have hs7 := hb7.size
   have HOK := Lib.hid hok
   clear hb7 y0 y1 hok HC
   cases ok
   · clear TG kb
     have s0 := cell_of_row w7 (w.heap.size + 1 + 1) 0 _ _ (0, 0) kr
     have s1 := cell_of_row w7 (w.heap.size + 1 + 1) 1 _ _ (0, 0) kr
     have z0 := frozen_of_row w7 (w.heap.size + 1 + 1) 0 _ _ kr
     have z1 := frozen_of_row w7 (w.heap.size + 1 + 1) 1 _ _ kr
     simp at s0 s1
     have E0 := Lib.hid (cell_of_row _ (w.heap.size + 1 + 1) 0 _ _ (0, 0) (zS1 (u := .slice none 0 0) (zS0 (u := .slice none 0 0) kr)))
     have E1 := Lib.hid (cell_of_row _ (w.heap.size + 1 + 1) 1 _ _ (0, 0) (zS1 (u := .slice none 0 0) (zS0 (u := .slice none 0 0) kr)))
     go_wp2_with fail
     have e0 := E0.out
     have e1 := E1.out
     simp at e0 e1
     refine bodyPost_ret (v := .tuple #[.agg #[.slice none 0 0, .slice none 0 0], .bool false]) (by simp [results, Tryz.results94, go_sem, e0, e1]) rfl ⟨⟨.slice none 0 0, .slice none 0 0, by rw [HOK.out], by rw [HOK.out]; exact TwoRows.nil _ _⟩, ?_⟩
     exact ((hbD.setCell (p := ⟨w.heap.size + 1 + 1, 0, none⟩) le2 _).setCell (p := ⟨w.heap.size + 1 + 1, 1, none⟩) le2 _)
   · have y0 := cell_of_row w7 w6.heap.size 0 _ _ (0, 0) kb
     have y1 := cell_of_row w7 w6.heap.size 1 _ _ (0, 0) kb
     simp at y0 y1
     have s0 := cell_of_row w7 (w.heap.size + 1 + 1) 0 _ _ (0, 0) kr
     have s1 := cell_of_row w7 (w.heap.size + 1 + 1) 1 _ _ (0, 0) kr
     have z0 := frozen_of_row w7 (w.heap.size + 1 + 1) 0 _ _ kr
     have z1 := frozen_of_row w7 (w.heap.size + 1 + 1) 1 _ _ kr
     simp at s0 s1
     have E0 := Lib.hid (cell_of_row _ (w.heap.size + 1 + 1) 0 _ _ (0, 0) (zS1 (u := .slice A2 (m + 1) d2) (zS0 (u := .slice A1 n d1) kr)))
     have E1 := Lib.hid (cell_of_row _ (w.heap.size + 1 + 1) 1 _ _ (0, 0) (zS1 (u := .slice A2 (m + 1) d2) (zS0 (u := .slice A1 n d1) kr)))
     have HTG := Lib.hid ((TG.kept (set_grown w7 (w.heap.size + 1 + 1) 0 (.slice A1 n d1)) (by omega)).kept (set_grown _ (w.heap.size + 1 + 1) 1 (.slice A2 (m + 1) d2)) (by omega))
     clear TG kb
     go_wp2_with fail
     have e0 := E0.out
     have e1 := E1.out
     simp at e0 e1
     refine bodyPost_ret (v := .tuple #[.agg #[.slice A1 n d1, .slice A2 (m + 1) d2], .bool true]) (by simp [results, Tryz.results94, go_sem, e0, e1]) rfl ⟨⟨_, _, by rw [HOK.out], by rw [HOK.out, onN_true, onN_true, onZ_true, onZ_true, HA1.out, HA2.out, HA3.out, HA4.out]; exact HTG.out.mono (by omega)⟩, ?_⟩
     exact ((hbD.setCell (p := ⟨w.heap.size + 1 + 1, 0, none⟩) le2 _).setCell (p := ⟨w.heap.size + 1 + 1, 1, none⟩) le2 _)
 · exact absurd HSD.out (by rw [hno]; decide)
end Go.Proofs.YtgjjdnojiegidaaGreatDoor
