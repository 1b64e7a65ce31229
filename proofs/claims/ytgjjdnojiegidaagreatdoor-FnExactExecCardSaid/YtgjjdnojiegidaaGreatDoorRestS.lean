/-
 The document's Rested.
-/
import Derived.Test.YtgjjdnojiegidaaGreatDoorTak
import Derived.Test.YtgjjdnojiegidaaGreatDoorHR
namespace Go.Proofs.YtgjjdnojiegidaaGreatDoor
open Go.RowKit Wire
set_option maxHeartbeats 3200000
set_option maxRecDepth 100000
set_option linter.unusedSimpArgs false
set_option linter.unusedVariables false

def RsS (w : World) (v1 v2 : Value) (T : TypeId) (w' : World) : Prop := Below w.heap.size w w' ∧ w'.cell? ⟨w.heap.size, 0, none⟩ = some v1 ∧ w'.cell? ⟨w.heap.size, 1, none⟩ = some v2 ∧ w.heap.size + 3 ≤ w'.heap.size ∧ ∃ x y, w'.heap[w.heap.size + 1 + 1]? = some (.cells #[x, y] T (0, 0))
theorem rsS_grown {w W W' : World} {v1 v2 : Value} {T : TypeId} {row : Option Nat} (h : RsS w v1 v2 T W) (hg : W.grownBy W' row) (hr : ∀ q, row = some q → w.heap.size + 3 ≤ q) : RsS w v1 v2 T W' :=
 ⟨h.1.grown hg h.1.size (fun q hq => by have := hr q hq; omega), hg.cell h.2.1 (fun e => by have := hr _ e.symm; simp at this; omega), hg.cell h.2.2.1 (fun e => by have := hr _ e.symm; simp at this; omega), Nat.le_trans h.2.2.2.1 hg.size, by obtain ⟨x, y, hx⟩ := h.2.2.2.2; exact ⟨x, y, (hg.block _ (by have := h.2.2.2.1; omega) (fun e => by have := hr _ e.symm; omega)).trans hx⟩⟩
theorem rsS_below {w W W' : World} {v1 v2 : Value} {T : TypeId} (h : RsS w v1 v2 T W) (hb : Below W.heap.size W W') : RsS w v1 v2 T W' :=
 rsS_grown h (row := none) ⟨hb.os, hb.tape, hb.output, hb.size, fun k hk _ => hb.block k hk⟩ (fun q e => by cases e)
theorem rsS_set {w W : World} {v1 v2 : Value} {T : TypeId} (h : RsS w v1 v2 T W) (x y : Value) : RsS w v1 v2 T ((W.setCell ⟨w.heap.size + 1 + 1, 0, none⟩ x).setCell ⟨w.heap.size + 1 + 1, 1, none⟩ y) :=
 ⟨(h.1.setCell (p := ⟨w.heap.size + 1 + 1, 0, none⟩) le2 x).setCell (p := ⟨w.heap.size + 1 + 1, 1, none⟩) le2 y, (World.cell?_setCell_far _ _ _ _ (show w.heap.size + 1 + 1 ≠ w.heap.size by omega)).trans ((World.cell?_setCell_far _ _ _ _ (show w.heap.size + 1 + 1 ≠ w.heap.size by omega)).trans h.2.1), (World.cell?_setCell_far _ _ _ _ (show w.heap.size + 1 + 1 ≠ w.heap.size by omega)).trans ((World.cell?_setCell_far _ _ _ _ (show w.heap.size + 1 + 1 ≠ w.heap.size by omega)).trans h.2.2.1), by simpa [World.setCell] using h.2.2.2.1, by obtain ⟨a, b, hr⟩ := h.2.2.2.2; exact ⟨_, _, zS1 (zS0 hr)⟩⟩
theorem Lst.take {w : World} {B n k : Nat} {A : Option Addr} {zs : List Int} (h : Lst w B 4 A n zs) (hk : k ≤ n) : Lst w B 4 A k (zs.take (k * 4)) := by
 refine ⟨by have := h.1; simp; omega, fun h0 => ?_⟩
 obtain ⟨b, o, e, hb, hc⟩ := h.2 (by omega)
 refine ⟨b, o, e, hb, fun j hj => ?_⟩
 rw [hc j (by omega)]
 unfold num
 rw [List.getD_eq_getElem?_getD, List.getD_eq_getElem?_getD, List.getElem?_take, if_pos hj]
theorem Lst.drop {w : World} {B n k b o : Nat} {zs : List Int} (h : Lst w B 4 (some ⟨b, o, none⟩) n zs) (hk : k ≤ n) : Lst w B 4 (some ⟨b, o + k * 4, none⟩) (n - k) (zs.drop (k * 4)) := by
 refine ⟨by have := h.1; simp; omega, fun h0 => ?_⟩
 obtain ⟨b', o', e, hb, hc⟩ := h.2 (by omega)
 injection e with e
 injection e with e1 e2
 subst e1 e2
 refine ⟨_, _, rfl, hb, fun j hj => ?_⟩
 rw [Nat.add_assoc, hc (k * 4 + j) (by omega)]
 unfold num
 rw [List.getD_eq_getElem?_getD, List.getD_eq_getElem?_getD, List.getElem?_drop]
theorem wpList_app_atO {P : Program} (w : World) {ops : Array Oper} {rest : List Oper} {o : Oper} {a : Act} {Q : Exit → Act → World → Prop} (hgd : o.guard = none) (s x : Operand) (t : TypeId)
 (ho : o.op = .call { callee := .builtin .append, args := #[s, x], argTypes := #[t, t] })
 (base : Nat) (e : TypeId) (i : TypeInfo) (z : Value) (size bytes : Nat) (ht : P.underlying t = some (.slice e)) (hi : P.info? e = some i) (hz : i.zero = some z)
 (hsize : i.size = size) (hby : i.bytes = bytes) (hzs : z.cells.size = size) (hsz : 0 < size)
 (v : Value) (n : Nat) (xs : List Value) (hs : a.eval s = v) (hown : w.ownsRow base e size v n xs)
 (A : Option Addr) (m c : Nat) (hA : A = none → m = 0 ∧ c = 0) (news : List Value) (hx : a.eval x = .slice A m c) (hl : news.length = m * size) (hnews : ∀ ad, A = some ad → ∀ j u, news[j]? = some u → w.cell? (ad.add j) = some u) (h1 : ∀ u ∈ news, u.oneCell' = true)
 (h63 : n + m ≤ maxLen) (hbytes : (n + m) * bytes ≤ 140737488355328) (hbase : base ≤ w.heap.size)
 (h : ∀ v' w', w'.ownsRow base e size v' (n + m) (xs ++ news) → w.grownBy w' v.ownBlock → (v'.ownBlock = v.ownBlock ∨ v'.ownBlock = some w.heap.size) → wpList P ops Q rest (a.put o.dst v') w') :
 wpList P ops Q (o :: rest) a w := by
 cases A with
 | some ad => exact wpList_append_own_at w hgd s x t ho base e i z size bytes ht hi hz hsize hby hzs hsz v n xs hs hown ad m c news hx hl (hnews ad rfl) h1 h63 hbytes hbase fun v' w' h2 h3 _ h5 => h v' w' h2 h3 h5
 | none =>
  obtain ⟨rfl, rfl⟩ := hA rfl
  have hr := run_append_owned_none (P := P) (w := w) base t o.type e i size ht hi v n xs hown
  have e0 : news = [] := List.eq_nil_of_length_eq_zero (by rw [hl]; omega)
  subst e0
  refine wpList_plain hgd fun K hK => ?_
  unfold Oper.wp execOp
  simp only [ho, resolve, invoke, builtin, Sem.run_bind, Sem.run_pure, Result.andThen_ok, List.map_toArray, List.map_cons, List.map_nil, hs, hx, hr]
  exact hK _ _ (h v w (by simpa using hown) (World.grownBy.refl _ _) (.inl rfl))
theorem step_appX (w : World) {ops : Array Oper} {o : Oper} {a : Act} {K : Act → World → Prop} {Q : Exit → Act → World → Prop} {E : Prop} (hgd : o.guard = none) (s x : Operand) (ho : o.op = .call { callee := .builtin .append, args := #[s, x], argTypes := #[28, 28] })
 (base : Nat) (v : Value) (hs : a.eval s = v) (k : Nat) (ys : List Int) (hown : w.ownsRow base 65 4 v k (nums ys)) (A : Option Addr) (m c : Nat) (hA : A = none → m = 0 ∧ c = 0) (zs : List Int) (hx : a.eval x = .slice A m c) (B : Nat) (hl : Lst w B 4 A m zs) (hm : m ≤ 1048576) (hk : k ≤ 2097152) (hbase : base ≤ w.heap.size)
 (h : ∀ v' w', w'.ownsRow base 65 4 v' (k + m) (nums (ys ++ zs)) → w.grownBy w' v.ownBlock → (v'.ownBlock = v.ownBlock ∨ v'.ownBlock = some w.heap.size) → K (a.put o.dst v') w') :
 if Region.wanted o (yielded ops a.tmps) = true then Oper.wp Tryz.prog o a w K Q else E := by
 obtain ⟨i0, hi, hz0, hz1, hz2⟩ := info_parts ord_info
 rw [if_pos (by simp [Region.wanted, hgd])]
 cases A with
 | some ad =>
  obtain ⟨v', w', hr, h2, h3, _, h5⟩ := run_append_own_at (P := Tryz.prog) w base 28 o.type 65 i0 _ 4 32 Tryz.underlying28 hi hz0 hz1 hz2 rfl (by decide) v k (nums ys) hown ad m c (nums zs) (by rw [nums_length]; exact hl.1) hl.news (nums_one _) (by unfold maxLen; omega) (by omega) hbase
  rw [← nums_append] at h2
  unfold Oper.wp execOp
  simp only [ho, resolve, invoke, builtin, Sem.run_bind, Sem.run_pure, Result.andThen_ok, List.map_toArray, List.map_cons, List.map_nil, hs, hx, hr]
  exact h v' w' h2 h3 h5
 | none =>
  obtain ⟨rfl, rfl⟩ := hA rfl
  have e0 : zs = [] := List.eq_nil_of_length_eq_zero (by have := hl.1; omega)
  subst e0
  have hr := run_append_owned_none (P := Tryz.prog) (w := w) base 28 o.type 65 i0 4 Tryz.underlying28 hi v k (nums ys) hown
  unfold Oper.wp execOp
  simp only [ho, resolve, invoke, builtin, Sem.run_bind, Sem.run_pure, Result.andThen_ok, List.map_toArray, List.map_cons, List.map_nil, hs, hx, hr]
  exact h v w (by rw [List.append_nil]; exact hown) (World.grownBy.refl _ _) (.inl rfl)
theorem rest_rows1 {w : World} {base n k m : Nat} {op oi oa oq : Int} {za zb : List Int} {v1 v2 : Value} (hk : restI 1 op za n = k) (_ : za.length = n * 4) (hkn : k ≤ n) (h : TwoRows w base v1 (k + 1 + (n - k)) (za.take (k * 4) ++ [oi, oa, op, oq] ++ za.drop (k * 4)) v2 m zb) :
 TwoRows w base v1 (restN1 1 n) (rest1 1 op za n [oi, oa, op, oq]) v2 (restN2 1 m) (rest2 1 op zb m [oi, oa, op, oq]) := by
 have e : k + 1 + (n - k) = n + 1 := by omega
 rw [e] at h
 unfold restN1 rest1 restN2 rest2 insZ
 rw [hk]
 exact h
theorem rest_rows1_end {w : World} {base k m : Nat} {op oi oa oq : Int} {za zb : List Int} {v1 v2 : Value} (hk : restI 1 op za k = k) (hz : za.length = k * 4) (_ : k ≤ k) (h : TwoRows w base v1 (k + 1 + 0) (za.take (k * 4) ++ [oi, oa, op, oq] ++ []) v2 m zb) :
 TwoRows w base v1 (restN1 1 k) (rest1 1 op za k [oi, oa, op, oq]) v2 (restN2 1 m) (rest2 1 op zb m [oi, oa, op, oq]) := by
 have e : za.drop (k * 4) = [] := List.drop_eq_nil_of_le (by omega)
 unfold restN1 rest1 restN2 rest2 insZ
 rw [hk, e]
 exact h
theorem rest_rows2 {w : World} {base n k m : Nat} {op oi oa oq : Int} {za zb : List Int} {v1 v2 : Value} (hk : restI 2 op zb m = k) (_ : zb.length = m * 4) (hkn : k ≤ m) (h : TwoRows w base v1 n za v2 (k + 1 + (m - k)) (zb.take (k * 4) ++ [oi, oa, op, oq] ++ zb.drop (k * 4))) :
 TwoRows w base v1 (restN1 2 n) (rest1 2 op za n [oi, oa, op, oq]) v2 (restN2 2 m) (rest2 2 op zb m [oi, oa, op, oq]) := by
 have e : k + 1 + (m - k) = m + 1 := by omega
 rw [e] at h
 unfold restN1 rest1 restN2 rest2 insZ
 rw [hk]
 exact h
theorem rest_rows2_end {w : World} {base k n : Nat} {op oi oa oq : Int} {za zb : List Int} {v1 v2 : Value} (hk : restI 2 op zb k = k) (hz : zb.length = k * 4) (_ : k ≤ k) (h : TwoRows w base v1 n za v2 (k + 1 + 0) (zb.take (k * 4) ++ [oi, oa, op, oq] ++ [])) :
 TwoRows w base v1 (restN1 2 n) (rest1 2 op za n [oi, oa, op, oq]) v2 (restN2 2 k) (rest2 2 op zb k [oi, oa, op, oq]) := by
 have e : zb.drop (k * 4) = [] := List.drop_eq_nil_of_le (by omega)
 unfold restN1 rest1 restN2 rest2 insZ
 rw [hk, e]
 exact h
theorem spec_l2With1 (O1 : Option Addr) (n c : Nat) (O2 : Option Addr) (m d : Nat) (za zb : List Int) (A3 : Option Addr) (n3 c3 : Nat) (w : World) (ha : Lst w w.heap.size 4 O1 n za) (hb : Lst w w.heap.size 4 O2 m zb) (hn : n ≤ 1048576) (hm : m ≤ 1048576) (hO1 : O1 = none → n = 0 ∧ c = 0) (hO2 : O2 = none → m = 0 ∧ d = 0) :
 Calls Tryz.prog 64 #[.agg #[.slice O1 n c, .slice O2 m d], .int .i64 1, .slice A3 n3 c3] w fun e w' => (∃ r, e = .returned (.agg #[.slice A3 n3 c3, r]) ∧ w'.ownsRow w.heap.size 65 4 r m (nums zb) ∧ r.ownBlock.isSome = true) ∧ Below w.heap.size w w' := by
 obtain ⟨k0, k1⟩ := two_blocks w (.cells #[.slice O1 n c, .slice O2 m d] 30) (.cells #[.slice none 0 0, .slice none 0 0] 30)
 have hb0 : Below w.heap.size w ((w.alloc (.cells #[.slice O1 n c, .slice O2 m d] 30)).alloc (.cells #[.slice none 0 0, .slice none 0 0] 30)) := ((Below.refl _ _).alloc (Nat.le_refl _) _).alloc (by simp) _
 have hs0 : ((w.alloc (.cells #[.slice O1 n c, .slice O2 m d] 30)).alloc (.cells #[.slice none 0 0, .slice none 0 0] 30)).heap.size = w.heap.size + 2 := by simp
 have p0 := cell_of_row ((w.alloc (.cells #[.slice O1 n c, .slice O2 m d] 30)).alloc (.cells #[.slice none 0 0, .slice none 0 0] 30)) w.heap.size 0 _ _ (0, 0) k0
 have p1 := cell_of_row ((w.alloc (.cells #[.slice O1 n c, .slice O2 m d] 30)).alloc (.cells #[.slice none 0 0, .slice none 0 0] 30)) w.heap.size 1 _ _ (0, 0) k0
 simp at p0 p1
 go_enter Tryz.func64, Tryz.ntmps64
 go_wp2_with fail
 generalize ((w.alloc (.cells #[.slice O1 n c, .slice O2 m d] 30)).alloc (.cells #[.slice none 0 0, .slice none 0 0] 30)) = w0 at *
 refine (spec_l2CopyO O1 n c O2 m d za zb w0 ((ha.below hb0).more hb0.size) ((hb.below hb0).more hb0.size) hn hm hO1 hO2).mono ?_
 rintro e w1 ⟨⟨r1, r2, rfl, TR, hso1, hso2⟩, hb1⟩
 obtain ⟨A1, d1, A2, d2, rfl, rfl⟩ := TR.slices
 have k1 := (hb1.block (w.heap.size + 1) (by omega)).trans k1
 have hs1 : w.heap.size + 2 ≤ w1.heap.size := by have := hb1.size; omega
 have hbD := hb0.trans (hb1.mono hb0.size)
 have hlt := TR.two.lt
 have hbb : Below w1.heap.size w1 (w1.alloc (.cells #[(.slice A3 n3 c3), (.slice A2 m d2)] 30)) := (Below.refl _ _).alloc (Nat.le_refl _) _
 have k1 := (hbb.block (w.heap.size + 1) (by omega)).trans k1
 have TR := TR.below hbb
 have hbD := hbD.trans (hbb.mono hbD.size)
 have hR := oMn (base' := w.heap.size + 2) TR.two (by omega)
 have e0 := cell_of_row _ (w.heap.size + 1) 0 _ _ (0, 0) k1
 have e1 := cell_of_row _ (w.heap.size + 1) 1 _ _ (0, 0) k1
 have z0 := frozen_of_row _ (w.heap.size + 1) 0 _ _ k1
 have z1 := frozen_of_row _ (w.heap.size + 1) 1 _ _ k1
 simp at e0 e1
 have E0 := Lib.hid (zS1 (u := (.slice A2 m d2)) (zS0 (u := (.slice A3 n3 c3)) k1))
 have HSO := Lib.hid hso2
 clear hso1 hso2
 have HR := Lib.hid ((hR.kept (set_grown _ (w.heap.size + 1) 0 (.slice A3 n3 c3)) (.inr (fun e => by have := (hR.lt _ e).1; omega))).kept (set_grown _ (w.heap.size + 1) 1 (.slice A2 m d2)) (.inr (fun e => by have := (hR.lt _ e).1; omega)))
 have HB := Lib.hid ((hbD.setCell (p := ⟨w.heap.size + 1, 0, none⟩) (show w.heap.size ≤ w.heap.size + 1 by omega) (.slice A3 n3 c3)).setCell (p := ⟨w.heap.size + 1, 1, none⟩) (show w.heap.size ≤ w.heap.size + 1 by omega) (.slice A2 m d2))
 clear TR hR hbD k1 hb0 hs0 hb1 hbb p0 p1 k0
 go_wp2_with fail
 have c0 := cell_of_row _ (w.heap.size + 1) 0 _ _ (0, 0) E0.out
 have c1 := cell_of_row _ (w.heap.size + 1) 1 _ _ (0, 0) E0.out
 simp at c0 c1
 exact bodyPost_ret (v := .agg #[.slice A3 n3 c3, .slice A2 m d2]) (by simp [results, Tryz.results64, go_sem, c0, c1]) rfl ⟨⟨_, rfl, oMn HR.out (by omega), HSO.out⟩, HB.out⟩
theorem spec_l2With2 (O1 : Option Addr) (n c : Nat) (O2 : Option Addr) (m d : Nat) (za zb : List Int) (A3 : Option Addr) (n3 c3 : Nat) (w : World) (ha : Lst w w.heap.size 4 O1 n za) (hb : Lst w w.heap.size 4 O2 m zb) (hn : n ≤ 1048576) (hm : m ≤ 1048576) (hO1 : O1 = none → n = 0 ∧ c = 0) (hO2 : O2 = none → m = 0 ∧ d = 0) :
 Calls Tryz.prog 64 #[.agg #[.slice O1 n c, .slice O2 m d], .int .i64 2, .slice A3 n3 c3] w fun e w' => (∃ r, e = .returned (.agg #[r, .slice A3 n3 c3]) ∧ w'.ownsRow w.heap.size 65 4 r n (nums za) ∧ r.ownBlock.isSome = true) ∧ Below w.heap.size w w' := by
 obtain ⟨k0, k1⟩ := two_blocks w (.cells #[.slice O1 n c, .slice O2 m d] 30) (.cells #[.slice none 0 0, .slice none 0 0] 30)
 have hb0 : Below w.heap.size w ((w.alloc (.cells #[.slice O1 n c, .slice O2 m d] 30)).alloc (.cells #[.slice none 0 0, .slice none 0 0] 30)) := ((Below.refl _ _).alloc (Nat.le_refl _) _).alloc (by simp) _
 have hs0 : ((w.alloc (.cells #[.slice O1 n c, .slice O2 m d] 30)).alloc (.cells #[.slice none 0 0, .slice none 0 0] 30)).heap.size = w.heap.size + 2 := by simp
 have p0 := cell_of_row ((w.alloc (.cells #[.slice O1 n c, .slice O2 m d] 30)).alloc (.cells #[.slice none 0 0, .slice none 0 0] 30)) w.heap.size 0 _ _ (0, 0) k0
 have p1 := cell_of_row ((w.alloc (.cells #[.slice O1 n c, .slice O2 m d] 30)).alloc (.cells #[.slice none 0 0, .slice none 0 0] 30)) w.heap.size 1 _ _ (0, 0) k0
 simp at p0 p1
 go_enter Tryz.func64, Tryz.ntmps64
 go_wp2_with fail
 generalize ((w.alloc (.cells #[.slice O1 n c, .slice O2 m d] 30)).alloc (.cells #[.slice none 0 0, .slice none 0 0] 30)) = w0 at *
 refine (spec_l2CopyO O1 n c O2 m d za zb w0 ((ha.below hb0).more hb0.size) ((hb.below hb0).more hb0.size) hn hm hO1 hO2).mono ?_
 rintro e w1 ⟨⟨r1, r2, rfl, TR, hso1, hso2⟩, hb1⟩
 obtain ⟨A1, d1, A2, d2, rfl, rfl⟩ := TR.slices
 have k1 := (hb1.block (w.heap.size + 1) (by omega)).trans k1
 have hs1 : w.heap.size + 2 ≤ w1.heap.size := by have := hb1.size; omega
 have hbD := hb0.trans (hb1.mono hb0.size)
 have hlt := TR.one.lt
 have hbb : Below w1.heap.size w1 (w1.alloc (.cells #[(.slice A1 n d1), (.slice A3 n3 c3)] 30)) := (Below.refl _ _).alloc (Nat.le_refl _) _
 have k1 := (hbb.block (w.heap.size + 1) (by omega)).trans k1
 have TR := TR.below hbb
 have hbD := hbD.trans (hbb.mono hbD.size)
 have hR := oMn (base' := w.heap.size + 2) TR.one (by omega)
 have e0 := cell_of_row _ (w.heap.size + 1) 0 _ _ (0, 0) k1
 have e1 := cell_of_row _ (w.heap.size + 1) 1 _ _ (0, 0) k1
 have z0 := frozen_of_row _ (w.heap.size + 1) 0 _ _ k1
 have z1 := frozen_of_row _ (w.heap.size + 1) 1 _ _ k1
 simp at e0 e1
 have E0 := Lib.hid (zS1 (u := (.slice A3 n3 c3)) (zS0 (u := (.slice A1 n d1)) k1))
 have HSO := Lib.hid hso1
 clear hso1 hso2
 have HR := Lib.hid ((hR.kept (set_grown _ (w.heap.size + 1) 0 (.slice A1 n d1)) (.inr (fun e => by have := (hR.lt _ e).1; omega))).kept (set_grown _ (w.heap.size + 1) 1 (.slice A3 n3 c3)) (.inr (fun e => by have := (hR.lt _ e).1; omega)))
 have HB := Lib.hid ((hbD.setCell (p := ⟨w.heap.size + 1, 0, none⟩) (show w.heap.size ≤ w.heap.size + 1 by omega) (.slice A1 n d1)).setCell (p := ⟨w.heap.size + 1, 1, none⟩) (show w.heap.size ≤ w.heap.size + 1 by omega) (.slice A3 n3 c3))
 clear TR hR hbD k1 hb0 hs0 hb1 hbb p0 p1 k0
 go_wp2_with fail
 have c0 := cell_of_row _ (w.heap.size + 1) 0 _ _ (0, 0) E0.out
 have c1 := cell_of_row _ (w.heap.size + 1) 1 _ _ (0, 0) E0.out
 simp at c0 c1
 exact bodyPost_ret (v := .agg #[.slice A1 n d1, .slice A3 n3 c3]) (by simp [results, Tryz.results64, go_sem, c0, c1]) rfl ⟨⟨_, rfl, oMn HR.out (by omega), HSO.out⟩, HB.out⟩
theorem spec_l2Rest1 (O1 : Option Addr) (n c : Nat) (O2 : Option Addr) (m d : Nat) (za zb : List Int) (oi oa op oq : Int) (w : World) (ha : Lst w w.heap.size 4 O1 n za) (hb : Lst w w.heap.size 4 O2 m zb) (hn : n ≤ 1048576) (hm : m ≤ 1048576) (hO1 : O1 = none → n = 0 ∧ c = 0) (hO2 : O2 = none → m = 0 ∧ d = 0) (hnc : n ≤ c) (hmd : m ≤ d) :
 Calls Tryz.prog 71 #[.agg #[.slice O1 n c, .slice O2 m d], .int .i64 1, .agg #[.int .i64 oi, .int .i64 oa, .int .i64 op, .int .i64 oq]] w fun e w' => (∃ v1 v2, e = .returned (.agg #[v1, v2]) ∧ TwoRows w' w.heap.size v1 (restN1 1 n) (rest1 1 op za n [oi, oa, op, oq]) v2 (restN2 1 m) (rest2 1 op zb m [oi, oa, op, oq]) ∧ v1.ownBlock.isSome = true ∧ v2.ownBlock.isSome = true) ∧ Below w.heap.size w w' := by
 obtain ⟨i0, hi, hz0, hz1, hz2⟩ := info_parts ord_info
 obtain ⟨ka, ko, kr⟩ := three_blocks w (.cells #[.slice O1 n c, .slice O2 m d] 30) (.cells #[.int .i64 oi, .int .i64 oa, .int .i64 op, .int .i64 oq] 65) (.cells #[.slice none 0 0, .slice none 0 0] 30)
 have hb0 : Below w.heap.size w (((w.alloc (.cells #[.slice O1 n c, .slice O2 m d] 30)).alloc (.cells #[.int .i64 oi, .int .i64 oa, .int .i64 op, .int .i64 oq] 65)).alloc (.cells #[.slice none 0 0, .slice none 0 0] 30)) := (((Below.refl _ _).alloc (Nat.le_refl _) _).alloc (by simp) _).alloc (by simp; omega) _
 have hs0 : (((w.alloc (.cells #[.slice O1 n c, .slice O2 m d] 30)).alloc (.cells #[.int .i64 oi, .int .i64 oa, .int .i64 op, .int .i64 oq] 65)).alloc (.cells #[.slice none 0 0, .slice none 0 0] 30)).heap.size = w.heap.size + 3 := by simp
 have p0 := cell_of_row _ w.heap.size 0 _ _ (0, 0) ka
 have p1 := cell_of_row _ w.heap.size 1 _ _ (0, 0) ka
 simp at p0 p1
 go_enter Tryz.func71, Tryz.ntmps71
 go_wp2_with fail
 generalize (((w.alloc (.cells #[.slice O1 n c, .slice O2 m d] 30)).alloc (.cells #[.int .i64 oi, .int .i64 oa, .int .i64 op, .int .i64 oq] 65)).alloc (.cells #[.slice none 0 0, .slice none 0 0] 30)) = w0 at *
 refine (spec_l2ListO O1 n c O2 m d 1 w0).mono ?_
 simp only [if_pos]
 rintro e w1 ⟨rfl, hb1⟩
 have ka := (hb1.block w.heap.size (by omega)).trans ka
 have ko := (hb1.block (w.heap.size + 1) (by omega)).trans ko
 have kr := (hb1.block (w.heap.size + 1 + 1) (by omega)).trans kr
 have hs1 : w.heap.size + 3 ≤ w1.heap.size := by have := hb1.size; omega
 have hb1 := hb0.trans (hb1.mono hb0.size)
 clear hb0 hs0 p0 p1
 go_wp2_with fail
 go_loopw [8] (fun i wr => ∃ k : Nat, k ≤ n ∧ i = .int .i64 (k : Int) ∧ (∀ j, j < k → (!betB 1 op (price za j)) = true) ∧ Below w1.heap.size w1 wr) (fun i _ => n - (intOf i).toNat)
 case atStart => exact ⟨0, Nat.zero_le _, rfl, fun j hj => absurd hj (Nat.not_lt_zero j), Below.refl _ _⟩
 case round =>
  obtain ⟨k, hk, rfl, hall, hbel⟩ := hrel
  have HA := Lib.hid hall
  have ko2 := (hbel.block (w.heap.size + 1) (by omega)).trans ko
  have cB : wr.cell? ⟨w.heap.size + 1, 2, none⟩ = some (.int .i64 op) := by simp [World.cell?, ko2]
  clear hall
  by_cases hlt : k < n
  · obtain ⟨b, o, hax, hbo, c0, c1, c2, c3⟩ := ((ha.below hb1).more hb1.size).below hbel |>.row4 hlt
    have HX := Lib.hid hax
    have HB := Lib.hid hbel
    have hbsz := hbel.size
    rcases Bool.eq_false_or_eq_true (betB 1 op (price za k)) with hbt | hbt
    · have HL := Lib.hid (show restI 1 op za n = k from lead_one n (fun k => !betB 1 op (price za k)) k hk HA.out (.inr (by simp [hbt])))
      subst hax
      go_upto_region 3 with fail
      refine wp_region_held_drew (S := (fun w' => Below wr.heap.size wr w' ∧ w'.cell? ⟨w.heap.size + 1, 2, none⟩ = some (.int .i64 op) ∧ w'.cell? ⟨b, o + k * 4 + 2, none⟩ = some (.int .i64 (price za k)))) (by kernel_rfl) ?hSq1xs (fun zH => ?restq1xs)
      case hSq1xs => (exact kp2)
      refine tkV 0 ?_
      refine tkV 1 ?_
      refine tkV 2 ?_
      refine tkV 3 ?_
      refine tkV 4 ?_
      refine tkV 5 ?_
      refine tkV 6 ?_
      refine tkV 7 ?_
      refine tkV 8 ?_
      refine tkV 9 ?_
      refine tkV 10 ?_
      refine tkV 11 ?_
      refine tkV 12 ?_
      refine rd1 13 (fun K hK => ?_)
      go_simp
      (go_at_call 63; refine (spec_l2Ahead 1 op (price za k) _).mono ?_; rw [hbt]; rintro e u2 ⟨rfl, rfl⟩)
      refine hK.out _ _ ?hSq1x14 (fun zH => ?restq1x14)
      case hSq1x14 => (exact kp2)
      clear hK K
      try simp only [Act.put, sA, sB, sC]
      refine tkV 14 ?_
      refine tkV 15 ?_
      refine dn1 ?_
      obtain ⟨hbq, -, -⟩ := zH
      have hbq := HB.out.trans (hbq.mono hbsz)
      clear hbel cB c0 c1 c2 c3 hbt ko2
      generalize wr.drew = wq at *
      have hsq : w.heap.size + 3 ≤ wq.heap.size := Nat.le_trans hs1 hbq.size
      have hbD := hb1.trans (hbq.mono hb1.size)
      have ka := (hbq.block w.heap.size (by omega)).trans ka
      have ko := (hbq.block (w.heap.size + 1) (by omega)).trans ko
      have kr := (hbq.block (w.heap.size + 1 + 1) (by omega)).trans kr
      have hbE : Below wq.heap.size wq (wq.alloc (.cells #[] 65)) := (Below.refl _ _).alloc (Nat.le_refl _) _
      have hbDE := hbD.trans (hbE.mono hbD.size)
      have hlk := Lst.take (k := k) (ha.below hbDE) hk
      have hq0 := oMn (base' := w.heap.size + 3) (own_empty wq 65 4) hsq
      clear hbq
      go_wp2_with (at_builtin; refine wpList_app_atO _ rfl _ _ 28 rfl (w.heap.size + 3) 65 i0 _ 4 32 Tryz.underlying28 hi hz0 hz1 hz2 rfl (by decide) _ _ _ rfl hq0 (some ⟨b, o, none⟩) k c (fun e => by cases e) (nums (za.take (k * 4))) rfl (by rw [nums_length]; exact hlk.1) hlk.newsO (nums_one _) (by unfold maxLen; omega) (by omega) (by simp; omega) ?_)
      intro v5 w5 hown5 hgrow5 hat5
      have hso5 : v5.ownBlock.isSome = true := some_at hat5 rfl
      clear hat5
      have hbD5 := hbDE.grown hgrow5 hbDE.size (fun q hq => by simp [Value.ownBlock] at hq; omega)
      have ka := (hgrow5.block w.heap.size (by simp; omega) (fun e => by simp [Value.ownBlock] at e; omega)).trans ((hbE.block _ (by omega)).trans ka)
      have ko := (hgrow5.block (w.heap.size + 1) (by simp; omega) (fun e => by simp [Value.ownBlock] at e; omega)).trans ((hbE.block _ (by omega)).trans ko)
      have kr := (hgrow5.block (w.heap.size + 1 + 1) (by simp; omega) (fun e => by simp [Value.ownBlock] at e; omega)).trans ((hbE.block _ (by omega)).trans kr)
      have hs5 : w.heap.size + 3 ≤ w5.heap.size := by have := hgrow5.size; simp at this; omega
      obtain ⟨A5, d5, rfl, _, _⟩ := oSl hown5
      have o0 := cell_of_row w5 (w.heap.size + 1) 0 _ _ (0, 0) ko
      have o1 := cell_of_row w5 (w.heap.size + 1) 1 _ _ (0, 0) ko
      have o2 := cell_of_row w5 (w.heap.size + 1) 2 _ _ (0, 0) ko
      have o3 := cell_of_row w5 (w.heap.size + 1) 3 _ _ (0, 0) ko
      simp at o0 o1 o2 o3
      have hov5 := hown5.lt
      clear hgrow5 hbDE hbE hbD hq0 hlk
      go_wp2_with (at_builtin; refine wpList_append_own_at _ rfl _ _ 28 rfl (w.heap.size + 3) 65 i0 _ 4 32 Tryz.underlying28 hi hz0 hz1 hz2 rfl (by decide) _ _ _ rfl (hown5.alloc _) ⟨w5.heap.size, 0, none⟩ 1 1 [.int .i64 oi, .int .i64 oa, .int .i64 op, .int .i64 oq] rfl rfl (World.news_of_block (heap_alloc_new w5 _)) (by intro u hu; simp at hu; rcases hu with rfl | rfl | rfl | rfl <;> rfl) (by unfold maxLen; omega) (by omega) (by simp; omega) ?_)
      intro v6 w6 hown6 hgrow6 _ hat6
      have HSO6 := Lib.hid (some_at hat6 hso5)
      clear hat6 hso5
      rw [show nums (za.take (k * 4)) ++ [.int .i64 oi, .int .i64 oa, .int .i64 op, .int .i64 oq] = nums ((za.take (k * 4)) ++ [oi, oa, op, oq]) from by rw [nums_append]; rfl] at hown6
      have hbD6 := (hbD5.alloc hbD5.size (.cells #[.int .i64 oi, .int .i64 oa, .int .i64 op, .int .i64 oq] 65)).grown hgrow6 (by simp; omega) (fun q hq => by have := (hov5 q hq).1; omega)
      have ka := (hgrow6.block w.heap.size (by simp; omega) (fun e => by have := (hov5 _ e.symm).1; omega)).trans ((Below.heap_alloc w5 _ _ (by omega)).trans ka)
      have kr := (hgrow6.block (w.heap.size + 1 + 1) (by simp; omega) (fun e => by have := (hov5 _ e.symm).1; omega)).trans ((Below.heap_alloc w5 _ _ (by omega)).trans kr)
      have hs6 : w.heap.size + 3 ≤ w6.heap.size := by have := hgrow6.size; simp at this; omega
      obtain ⟨A6, d6, rfl, _, _⟩ := oSl hown6
      have q0 := cell_of_row w6 w.heap.size 0 _ _ (0, 0) ka
      have q1 := cell_of_row w6 w.heap.size 1 _ _ (0, 0) ka
      simp at q0 q1
      clear hgrow6 hbD5 hov5 hown5 o0 o1 o2 o3 ko
      go_upto_region 7 with fail
      have hck' : ¬ (c = k) := by omega
      refine wp_region_held_drew (S := (fun w' => Below w.heap.size w w' ∧ w'.cell? ⟨w.heap.size, 0, none⟩ = some (.slice (some ⟨b, o, none⟩) n c) ∧ w'.cell? ⟨w.heap.size, 1, none⟩ = some (.slice O2 m d) ∧ w.heap.size + 3 ≤ w'.heap.size ∧ ∃ x y, w'.heap[w.heap.size + 1 + 1]? = some (.cells #[x, y] 30 (0, 0)))) (by kernel_rfl) ?hSr22 (fun zH => ?restr22)
      case hSr22 => exact ⟨hbD6.drew, q0, q1, hs6, _, _, kr⟩
      refine tkV 0 ?_
      refine tkV 1 ?_
      refine tkV 2 ?_
      refine tkV 3 ?_
      refine tkV 4 ?_
      refine tkV 5 ?_
      refine rd1 6 (fun K hK => ?_)
      have hsz7 := zH.2.2.2.1
      (refine step_appX _ rfl _ _ rfl (w.heap.size + 3) (.slice A6 (k + 1) d6) rfl (k + 1) ((za.take (k * 4)) ++ [oi, oa, op, oq]) (oBw hown6 (Below.refl _ w6).drew) (some ⟨b, o + k * 4, none⟩) (n - k) _ (fun e => by cases e) (za.drop (k * 4)) rfl w.heap.size (Lst.drop (ha.below zH.1) hk) (by omega) (by omega) hsz7 ?_; intro r7 u7 hown7 hgrow7 hat7)
      have hlt7 := hown6.lt
      refine hK.out _ _ (rsS_grown zH hgrow7 (fun q hq => (hlt7 q hq).1)) (fun zH => ?_)
      clear hK K
      try simp only [Act.put, sA, sB, sC]
      have HSO7 := Lib.hid (some_at hat7 HSO6.out)
      clear hat7
      obtain ⟨A7, d7, rfl, _, _⟩ := oSl hown7
      refine rd1 7 (fun K hK => ?_)
      go_simp
      go_at_call 64
      refine (spec_l2With1 _ _ _ _ _ _ za zb A7 _ d7 u7 ((ha.below zH.1).more zH.1.size) ((hb.below zH.1).more zH.1.size) (by omega) (by omega) hO1 hO2).mono ?_
      rintro e u8 ⟨⟨r8, rfl, ho8, hso8⟩, hb8⟩
      have hlt7' := hown7.lt
      refine hK.out _ _ (rsS_below zH hb8) (fun zH => ?_)
      clear hK K
      try simp only [Act.put, sA, sB, sC]
      have HSO8 := Lib.hid hso8
      clear hso8
      have hown7 := oBw hown7 hb8
      obtain ⟨A8, d8, rfl, _, _⟩ := oSl ho8
      have hX := zH
      obtain ⟨x, y, hr⟩ := hX.2.2.2.2
      have r0 := cell_of_row u8 (w.heap.size + 1 + 1) 0 _ _ (0, 0) hr
      have r1 := cell_of_row u8 (w.heap.size + 1 + 1) 1 _ _ (0, 0) hr
      have z0 := frozen_of_row u8 (w.heap.size + 1 + 1) 0 _ _ hr
      have z1 := frozen_of_row u8 (w.heap.size + 1 + 1) 1 _ _ hr
      simp at r0 r1
      have E0 := Lib.hid (zS1 (u := (.slice A8 m d8)) (zS0 (u := (.slice A7 (k + 1 + (n - k)) d7)) hr))
      refine rd1 8 (fun K hK => ?_)
      go_simp
      refine hK.out _ _ (rsS_set hX _ _) (fun zH => ?_)
      clear hK K
      try simp only [Act.put, sA, sB, sC]
      refine dn1 ?_
      have f0 := cell_of_row _ (w.heap.size + 1 + 1) 0 _ _ (0, 0) E0.out
      have f1 := cell_of_row _ (w.heap.size + 1 + 1) 1 _ _ (0, 0) E0.out
      simp at f0 f1
      have hz8 : w.heap.size + 3 ≤ u7.heap.size := Nat.le_trans hsz7 hgrow7.size
      have hne : ∀ q, (Value.slice A7 (k + 1 + (n - k)) d7).ownBlock = some q → (Value.slice A8 m d8).ownBlock ≠ some q := fun q h1 h2 => by have a := (hlt7' q h1).2; have b := (ho8.lt q h2).1; omega
      have HT := Lib.hid (((TwoRows.mk hown7 (oMn ho8 hz8) hne).kept (set_grown u8 (w.heap.size + 1 + 1) 0 (.slice A7 (k + 1 + (n - k)) d7)) (by omega)).kept (set_grown _ (w.heap.size + 1 + 1) 1 (.slice A8 m d8)) (by omega))
      have HB2 := Lib.hid ((hX.1.setCell (p := ⟨w.heap.size + 1 + 1, 0, none⟩) le2 (.slice A7 (k + 1 + (n - k)) d7)).setCell (p := ⟨w.heap.size + 1 + 1, 1, none⟩) le2 (.slice A8 m d8))
      clear hown7 ho8 hX zH hr r0 r1
      go_wp2_with fail
      exact bodyPost_ret (v := .agg #[.slice A7 (k + 1 + (n - k)) d7, .slice A8 m d8]) (by simp [results, Tryz.results71, go_sem, f0, f1]) rfl ⟨⟨_, _, rfl, rest_rows1 HL.out ha.1 hk (HT.out.mono (by omega)), HSO7.out, HSO8.out⟩, HB2.out⟩
    · have HM := Lib.hid (show (!betB 1 op (price za k)) = true by simp [hbt])
      subst hax
      go_upto_region 3 with fail
      refine wp_region_held_drew (S := (fun w' => Below wr.heap.size wr w' ∧ w'.cell? ⟨w.heap.size + 1, 2, none⟩ = some (.int .i64 op) ∧ w'.cell? ⟨b, o + k * 4 + 2, none⟩ = some (.int .i64 (price za k)))) (by kernel_rfl) ?hSq2xs (fun zH => ?restq2xs)
      case hSq2xs => (exact kp2)
      refine tkV 0 ?_
      refine tkV 1 ?_
      refine tkV 2 ?_
      refine tkV 3 ?_
      refine tkV 4 ?_
      refine tkV 5 ?_
      refine tkV 6 ?_
      refine tkV 7 ?_
      refine tkV 8 ?_
      refine tkV 9 ?_
      refine tkV 10 ?_
      refine tkV 11 ?_
      refine tkV 12 ?_
      refine rd1 13 (fun K hK => ?_)
      go_simp
      (go_at_call 63; refine (spec_l2Ahead 1 op (price za k) _).mono ?_; rw [hbt]; rintro e u2 ⟨rfl, rfl⟩)
      refine hK.out _ _ ?hSq2x14 (fun zH => ?restq2x14)
      case hSq2x14 => (exact kp2)
      clear hK K
      try simp only [Act.put, sA, sB, sC]
      refine tkV 14 ?_
      refine tkV 15 ?_
      refine dn1 ?_
      obtain ⟨hbq, -, -⟩ := zH
      have hbq := HB.out.trans (hbq.mono hbsz)
      clear hbel cB c0 c1 c2 c3 hbt ko2
      go_wp2_with fail
      go_roundw
      case rel => exact ⟨k + 1, by omega, by go_num, fun j hj => by
       rcases (show j < k ∨ j = k from by omega) with h | rfl
       · exact HA.out j h
       · exact HM.out, hbq⟩
      case measure => simp [intOf]; omega
  · obtain rfl : k = n := by omega
    have HL := Lib.hid (show restI 1 op za k = k from lead_one k (fun k => !betB 1 op (price za k)) k hk HA.out (.inl rfl))
    have HB := Lib.hid hbel
    have hbsz := hbel.size
    go_upto_region 3 with fail
    refine wp_region_held_drew (S := (fun w' => Below wr.heap.size wr w')) (by kernel_rfl) ?hSq3xs (fun zH => ?restq3xs)
    case hSq3xs => (exact kp2)
    refine tkV 0 ?_
    refine tkV 1 ?_
    refine tkV 2 ?_
    refine tkV 3 ?_
    refine tkV 4 ?_
    refine hdN 5 ?_
    refine hdN 6 ?_
    refine hdN 7 ?_
    refine hdN 8 ?_
    refine hdN 9 ?_
    refine hdN 10 ?_
    refine hdN 11 ?_
    refine hdN 12 ?_
    refine hdN 13 ?_
    refine hdN 14 ?_
    refine tkV 15 ?_
    refine dn1 ?_
    have hbq := HB.out.trans (zH.mono hbsz)
    clear hbel cB ko2
    rcases O1 with _ | a
    · obtain ⟨rfl, rfl⟩ := hO1 rfl
      generalize wr.drew = wq at *
      have hsq : w.heap.size + 3 ≤ wq.heap.size := Nat.le_trans hs1 hbq.size
      have hbD := hb1.trans (hbq.mono hb1.size)
      have ka := (hbq.block w.heap.size (by omega)).trans ka
      have ko := (hbq.block (w.heap.size + 1) (by omega)).trans ko
      have kr := (hbq.block (w.heap.size + 1 + 1) (by omega)).trans kr
      have hbE : Below wq.heap.size wq (wq.alloc (.cells #[] 65)) := (Below.refl _ _).alloc (Nat.le_refl _) _
      have hbDE := hbD.trans (hbE.mono hbD.size)
      have hlk : Lst (wq.alloc (.cells #[] 65)) w.heap.size 4 none 0 [] := Lst.nil _ w.heap.size 4 _
      have hq0 := oMn (base' := w.heap.size + 3) (own_empty wq 65 4) hsq
      clear hbq
      go_wp2_with (at_builtin; refine wpList_app_atO _ rfl _ _ 28 rfl (w.heap.size + 3) 65 i0 _ 4 32 Tryz.underlying28 hi hz0 hz1 hz2 rfl (by decide) _ _ _ rfl hq0 none 0 0 (fun _ => ⟨rfl, rfl⟩) (nums []) rfl (by rw [nums_length]; exact hlk.1) hlk.newsO (nums_one _) (by unfold maxLen; omega) (by omega) (by simp; omega) ?_)
      intro v5 w5 hown5 hgrow5 hat5
      have hso5 : v5.ownBlock.isSome = true := some_at hat5 rfl
      clear hat5
      have hbD5 := hbDE.grown hgrow5 hbDE.size (fun q hq => by simp [Value.ownBlock] at hq; omega)
      have ka := (hgrow5.block w.heap.size (by simp; omega) (fun e => by simp [Value.ownBlock] at e; omega)).trans ((hbE.block _ (by omega)).trans ka)
      have ko := (hgrow5.block (w.heap.size + 1) (by simp; omega) (fun e => by simp [Value.ownBlock] at e; omega)).trans ((hbE.block _ (by omega)).trans ko)
      have kr := (hgrow5.block (w.heap.size + 1 + 1) (by simp; omega) (fun e => by simp [Value.ownBlock] at e; omega)).trans ((hbE.block _ (by omega)).trans kr)
      have hs5 : w.heap.size + 3 ≤ w5.heap.size := by have := hgrow5.size; simp at this; omega
      obtain ⟨A5, d5, rfl, _, _⟩ := oSl hown5
      have o0 := cell_of_row w5 (w.heap.size + 1) 0 _ _ (0, 0) ko
      have o1 := cell_of_row w5 (w.heap.size + 1) 1 _ _ (0, 0) ko
      have o2 := cell_of_row w5 (w.heap.size + 1) 2 _ _ (0, 0) ko
      have o3 := cell_of_row w5 (w.heap.size + 1) 3 _ _ (0, 0) ko
      simp at o0 o1 o2 o3
      have hov5 := hown5.lt
      clear hgrow5 hbDE hbE hbD hq0 hlk
      go_wp2_with (at_builtin; refine wpList_append_own_at _ rfl _ _ 28 rfl (w.heap.size + 3) 65 i0 _ 4 32 Tryz.underlying28 hi hz0 hz1 hz2 rfl (by decide) _ _ _ rfl (hown5.alloc _) ⟨w5.heap.size, 0, none⟩ 1 1 [.int .i64 oi, .int .i64 oa, .int .i64 op, .int .i64 oq] rfl rfl (World.news_of_block (heap_alloc_new w5 _)) (by intro u hu; simp at hu; rcases hu with rfl | rfl | rfl | rfl <;> rfl) (by unfold maxLen; omega) (by omega) (by simp; omega) ?_)
      intro v6 w6 hown6 hgrow6 _ hat6
      have HSO6 := Lib.hid (some_at hat6 hso5)
      clear hat6 hso5
      rw [show nums [] ++ [.int .i64 oi, .int .i64 oa, .int .i64 op, .int .i64 oq] = nums ([] ++ [oi, oa, op, oq]) from by rw [nums_append]; rfl] at hown6
      have hbD6 := (hbD5.alloc hbD5.size (.cells #[.int .i64 oi, .int .i64 oa, .int .i64 op, .int .i64 oq] 65)).grown hgrow6 (by simp; omega) (fun q hq => by have := (hov5 q hq).1; omega)
      have ka := (hgrow6.block w.heap.size (by simp; omega) (fun e => by have := (hov5 _ e.symm).1; omega)).trans ((Below.heap_alloc w5 _ _ (by omega)).trans ka)
      have kr := (hgrow6.block (w.heap.size + 1 + 1) (by simp; omega) (fun e => by have := (hov5 _ e.symm).1; omega)).trans ((Below.heap_alloc w5 _ _ (by omega)).trans kr)
      have hs6 : w.heap.size + 3 ≤ w6.heap.size := by have := hgrow6.size; simp at this; omega
      obtain ⟨A6, d6, rfl, _, _⟩ := oSl hown6
      have q0 := cell_of_row w6 w.heap.size 0 _ _ (0, 0) ka
      have q1 := cell_of_row w6 w.heap.size 1 _ _ (0, 0) ka
      simp at q0 q1
      clear hgrow6 hbD5 hov5 hown5 o0 o1 o2 o3 ko
      go_upto_region 7 with fail
      refine wp_region_held_drew (S := (fun w' => Below w.heap.size w w' ∧ w'.cell? ⟨w.heap.size, 0, none⟩ = some (.slice none 0 0) ∧ w'.cell? ⟨w.heap.size, 1, none⟩ = some (.slice O2 m d) ∧ w.heap.size + 3 ≤ w'.heap.size ∧ ∃ x y, w'.heap[w.heap.size + 1 + 1]? = some (.cells #[x, y] 30 (0, 0)))) (by kernel_rfl) ?hSr32 (fun zH => ?restr32)
      case hSr32 => exact ⟨hbD6.drew, q0, q1, hs6, _, _, kr⟩
      refine tkV 0 ?_
      refine tkV 1 ?_
      refine tkV 2 ?_
      refine tkV 3 ?_
      refine tkV 4 ?_
      refine tkV 5 ?_
      refine rd1 6 (fun K hK => ?_)
      have hsz7 := zH.2.2.2.1
      (refine step_appX _ rfl _ _ rfl (w.heap.size + 3) (.slice A6 (0 + 1) d6) rfl (0 + 1) ([] ++ [oi, oa, op, oq]) (oBw hown6 (Below.refl _ w6).drew) _ 0 _ (fun _ => ⟨rfl, rfl⟩) [] rfl w.heap.size (Lst.nil _ w.heap.size 4 _) (by omega) (by omega) hsz7 ?_; intro r7 u7 hown7 hgrow7 hat7)
      have hlt7 := hown6.lt
      refine hK.out _ _ (rsS_grown zH hgrow7 (fun q hq => (hlt7 q hq).1)) (fun zH => ?_)
      clear hK K
      try simp only [Act.put, sA, sB, sC]
      have HSO7 := Lib.hid (some_at hat7 HSO6.out)
      clear hat7
      obtain ⟨A7, d7, rfl, _, _⟩ := oSl hown7
      refine rd1 7 (fun K hK => ?_)
      go_simp
      go_at_call 64
      refine (spec_l2With1 _ _ _ _ _ _ za zb A7 _ d7 u7 ((ha.below zH.1).more zH.1.size) ((hb.below zH.1).more zH.1.size) (by omega) (by omega) (fun _ => ⟨rfl, rfl⟩) hO2).mono ?_
      rintro e u8 ⟨⟨r8, rfl, ho8, hso8⟩, hb8⟩
      have hlt7' := hown7.lt
      refine hK.out _ _ (rsS_below zH hb8) (fun zH => ?_)
      clear hK K
      try simp only [Act.put, sA, sB, sC]
      have HSO8 := Lib.hid hso8
      clear hso8
      have hown7 := oBw hown7 hb8
      obtain ⟨A8, d8, rfl, _, _⟩ := oSl ho8
      have hX := zH
      obtain ⟨x, y, hr⟩ := hX.2.2.2.2
      have r0 := cell_of_row u8 (w.heap.size + 1 + 1) 0 _ _ (0, 0) hr
      have r1 := cell_of_row u8 (w.heap.size + 1 + 1) 1 _ _ (0, 0) hr
      have z0 := frozen_of_row u8 (w.heap.size + 1 + 1) 0 _ _ hr
      have z1 := frozen_of_row u8 (w.heap.size + 1 + 1) 1 _ _ hr
      simp at r0 r1
      have E0 := Lib.hid (zS1 (u := (.slice A8 m d8)) (zS0 (u := (.slice A7 (0 + 1 + 0) d7)) hr))
      refine rd1 8 (fun K hK => ?_)
      go_simp
      refine hK.out _ _ (rsS_set hX _ _) (fun zH => ?_)
      clear hK K
      try simp only [Act.put, sA, sB, sC]
      refine dn1 ?_
      have f0 := cell_of_row _ (w.heap.size + 1 + 1) 0 _ _ (0, 0) E0.out
      have f1 := cell_of_row _ (w.heap.size + 1 + 1) 1 _ _ (0, 0) E0.out
      simp at f0 f1
      have hz8 : w.heap.size + 3 ≤ u7.heap.size := Nat.le_trans hsz7 hgrow7.size
      have hne : ∀ q, (Value.slice A7 (0 + 1 + 0) d7).ownBlock = some q → (Value.slice A8 m d8).ownBlock ≠ some q := fun q h1 h2 => by have a := (hlt7' q h1).2; have b := (ho8.lt q h2).1; omega
      have HT := Lib.hid (((TwoRows.mk hown7 (oMn ho8 hz8) hne).kept (set_grown u8 (w.heap.size + 1 + 1) 0 (.slice A7 (0 + 1 + 0) d7)) (by omega)).kept (set_grown _ (w.heap.size + 1 + 1) 1 (.slice A8 m d8)) (by omega))
      have HB2 := Lib.hid ((hX.1.setCell (p := ⟨w.heap.size + 1 + 1, 0, none⟩) le2 (.slice A7 (0 + 1 + 0) d7)).setCell (p := ⟨w.heap.size + 1 + 1, 1, none⟩) le2 (.slice A8 m d8))
      clear hown7 ho8 hX zH hr r0 r1
      go_wp2_with fail
      exact bodyPost_ret (v := .agg #[.slice A7 (0 + 1 + 0) d7, .slice A8 m d8]) (by simp [results, Tryz.results71, go_sem, f0, f1]) rfl ⟨⟨_, _, rfl, rest_rows1_end HL.out ha.1 hk (HT.out.mono (by omega)), HSO7.out, HSO8.out⟩, HB2.out⟩
    · skip
      generalize wr.drew = wq at *
      have hsq : w.heap.size + 3 ≤ wq.heap.size := Nat.le_trans hs1 hbq.size
      have hbD := hb1.trans (hbq.mono hb1.size)
      have ka := (hbq.block w.heap.size (by omega)).trans ka
      have ko := (hbq.block (w.heap.size + 1) (by omega)).trans ko
      have kr := (hbq.block (w.heap.size + 1 + 1) (by omega)).trans kr
      have hbE : Below wq.heap.size wq (wq.alloc (.cells #[] 65)) := (Below.refl _ _).alloc (Nat.le_refl _) _
      have hbDE := hbD.trans (hbE.mono hbD.size)
      have hlk := Lst.take (k := k) (ha.below hbDE) hk
      have hq0 := oMn (base' := w.heap.size + 3) (own_empty wq 65 4) hsq
      clear hbq
      go_wp2_with (at_builtin; refine wpList_app_atO _ rfl _ _ 28 rfl (w.heap.size + 3) 65 i0 _ 4 32 Tryz.underlying28 hi hz0 hz1 hz2 rfl (by decide) _ _ _ rfl hq0 (some a) k c (fun e => by cases e) (nums (za.take (k * 4))) rfl (by rw [nums_length]; exact hlk.1) hlk.newsO (nums_one _) (by unfold maxLen; omega) (by omega) (by simp; omega) ?_)
      intro v5 w5 hown5 hgrow5 hat5
      have hso5 : v5.ownBlock.isSome = true := some_at hat5 rfl
      clear hat5
      have hbD5 := hbDE.grown hgrow5 hbDE.size (fun q hq => by simp [Value.ownBlock] at hq; omega)
      have ka := (hgrow5.block w.heap.size (by simp; omega) (fun e => by simp [Value.ownBlock] at e; omega)).trans ((hbE.block _ (by omega)).trans ka)
      have ko := (hgrow5.block (w.heap.size + 1) (by simp; omega) (fun e => by simp [Value.ownBlock] at e; omega)).trans ((hbE.block _ (by omega)).trans ko)
      have kr := (hgrow5.block (w.heap.size + 1 + 1) (by simp; omega) (fun e => by simp [Value.ownBlock] at e; omega)).trans ((hbE.block _ (by omega)).trans kr)
      have hs5 : w.heap.size + 3 ≤ w5.heap.size := by have := hgrow5.size; simp at this; omega
      obtain ⟨A5, d5, rfl, _, _⟩ := oSl hown5
      have o0 := cell_of_row w5 (w.heap.size + 1) 0 _ _ (0, 0) ko
      have o1 := cell_of_row w5 (w.heap.size + 1) 1 _ _ (0, 0) ko
      have o2 := cell_of_row w5 (w.heap.size + 1) 2 _ _ (0, 0) ko
      have o3 := cell_of_row w5 (w.heap.size + 1) 3 _ _ (0, 0) ko
      simp at o0 o1 o2 o3
      have hov5 := hown5.lt
      clear hgrow5 hbDE hbE hbD hq0 hlk
      go_wp2_with (at_builtin; refine wpList_append_own_at _ rfl _ _ 28 rfl (w.heap.size + 3) 65 i0 _ 4 32 Tryz.underlying28 hi hz0 hz1 hz2 rfl (by decide) _ _ _ rfl (hown5.alloc _) ⟨w5.heap.size, 0, none⟩ 1 1 [.int .i64 oi, .int .i64 oa, .int .i64 op, .int .i64 oq] rfl rfl (World.news_of_block (heap_alloc_new w5 _)) (by intro u hu; simp at hu; rcases hu with rfl | rfl | rfl | rfl <;> rfl) (by unfold maxLen; omega) (by omega) (by simp; omega) ?_)
      intro v6 w6 hown6 hgrow6 _ hat6
      have HSO6 := Lib.hid (some_at hat6 hso5)
      clear hat6 hso5
      rw [show nums (za.take (k * 4)) ++ [.int .i64 oi, .int .i64 oa, .int .i64 op, .int .i64 oq] = nums ((za.take (k * 4)) ++ [oi, oa, op, oq]) from by rw [nums_append]; rfl] at hown6
      have hbD6 := (hbD5.alloc hbD5.size (.cells #[.int .i64 oi, .int .i64 oa, .int .i64 op, .int .i64 oq] 65)).grown hgrow6 (by simp; omega) (fun q hq => by have := (hov5 q hq).1; omega)
      have ka := (hgrow6.block w.heap.size (by simp; omega) (fun e => by have := (hov5 _ e.symm).1; omega)).trans ((Below.heap_alloc w5 _ _ (by omega)).trans ka)
      have kr := (hgrow6.block (w.heap.size + 1 + 1) (by simp; omega) (fun e => by have := (hov5 _ e.symm).1; omega)).trans ((Below.heap_alloc w5 _ _ (by omega)).trans kr)
      have hs6 : w.heap.size + 3 ≤ w6.heap.size := by have := hgrow6.size; simp at this; omega
      obtain ⟨A6, d6, rfl, _, _⟩ := oSl hown6
      have q0 := cell_of_row w6 w.heap.size 0 _ _ (0, 0) ka
      have q1 := cell_of_row w6 w.heap.size 1 _ _ (0, 0) ka
      simp at q0 q1
      clear hgrow6 hbD5 hov5 hown5 o0 o1 o2 o3 ko
      go_upto_region 7 with fail
      rcases Nat.lt_or_eq_of_le (show k ≤ c by omega) with hck | hck
      · have hck' : ¬ (c = k) := by omega
        refine wp_region_held_drew (S := (fun w' => Below w.heap.size w w' ∧ w'.cell? ⟨w.heap.size, 0, none⟩ = some (.slice (some a) k c) ∧ w'.cell? ⟨w.heap.size, 1, none⟩ = some (.slice O2 m d) ∧ w.heap.size + 3 ≤ w'.heap.size ∧ ∃ x y, w'.heap[w.heap.size + 1 + 1]? = some (.cells #[x, y] 30 (0, 0)))) (by kernel_rfl) ?hSr42 (fun zH => ?restr42)
        case hSr42 => exact ⟨hbD6.drew, q0, q1, hs6, _, _, kr⟩
        refine tkV 0 ?_
        refine tkV 1 ?_
        refine tkV 2 ?_
        refine tkV 3 ?_
        refine tkV 4 ?_
        refine tkV 5 ?_
        refine rd1 6 (fun K hK => ?_)
        have hsz7 := zH.2.2.2.1
        (refine step_appX _ rfl _ _ rfl (w.heap.size + 3) (.slice A6 (k + 1) d6) rfl (k + 1) ((za.take (k * 4)) ++ [oi, oa, op, oq]) (oBw hown6 (Below.refl _ w6).drew) _ 0 _ (fun e => by cases e) [] rfl w.heap.size (Lst.nil _ w.heap.size 4 _) (by omega) (by omega) hsz7 ?_; intro r7 u7 hown7 hgrow7 hat7)
        have hlt7 := hown6.lt
        refine hK.out _ _ (rsS_grown zH hgrow7 (fun q hq => (hlt7 q hq).1)) (fun zH => ?_)
        clear hK K
        try simp only [Act.put, sA, sB, sC]
        have HSO7 := Lib.hid (some_at hat7 HSO6.out)
        clear hat7
        obtain ⟨A7, d7, rfl, _, _⟩ := oSl hown7
        refine rd1 7 (fun K hK => ?_)
        go_simp
        go_at_call 64
        refine (spec_l2With1 _ _ _ _ _ _ za zb A7 _ d7 u7 ((ha.below zH.1).more zH.1.size) ((hb.below zH.1).more zH.1.size) (by omega) (by omega) hO1 hO2).mono ?_
        rintro e u8 ⟨⟨r8, rfl, ho8, hso8⟩, hb8⟩
        have hlt7' := hown7.lt
        refine hK.out _ _ (rsS_below zH hb8) (fun zH => ?_)
        clear hK K
        try simp only [Act.put, sA, sB, sC]
        have HSO8 := Lib.hid hso8
        clear hso8
        have hown7 := oBw hown7 hb8
        obtain ⟨A8, d8, rfl, _, _⟩ := oSl ho8
        have hX := zH
        obtain ⟨x, y, hr⟩ := hX.2.2.2.2
        have r0 := cell_of_row u8 (w.heap.size + 1 + 1) 0 _ _ (0, 0) hr
        have r1 := cell_of_row u8 (w.heap.size + 1 + 1) 1 _ _ (0, 0) hr
        have z0 := frozen_of_row u8 (w.heap.size + 1 + 1) 0 _ _ hr
        have z1 := frozen_of_row u8 (w.heap.size + 1 + 1) 1 _ _ hr
        simp at r0 r1
        have E0 := Lib.hid (zS1 (u := (.slice A8 m d8)) (zS0 (u := (.slice A7 (k + 1 + 0) d7)) hr))
        refine rd1 8 (fun K hK => ?_)
        go_simp
        refine hK.out _ _ (rsS_set hX _ _) (fun zH => ?_)
        clear hK K
        try simp only [Act.put, sA, sB, sC]
        refine dn1 ?_
        have f0 := cell_of_row _ (w.heap.size + 1 + 1) 0 _ _ (0, 0) E0.out
        have f1 := cell_of_row _ (w.heap.size + 1 + 1) 1 _ _ (0, 0) E0.out
        simp at f0 f1
        have hz8 : w.heap.size + 3 ≤ u7.heap.size := Nat.le_trans hsz7 hgrow7.size
        have hne : ∀ q, (Value.slice A7 (k + 1 + 0) d7).ownBlock = some q → (Value.slice A8 m d8).ownBlock ≠ some q := fun q h1 h2 => by have a := (hlt7' q h1).2; have b := (ho8.lt q h2).1; omega
        have HT := Lib.hid (((TwoRows.mk hown7 (oMn ho8 hz8) hne).kept (set_grown u8 (w.heap.size + 1 + 1) 0 (.slice A7 (k + 1 + 0) d7)) (by omega)).kept (set_grown _ (w.heap.size + 1 + 1) 1 (.slice A8 m d8)) (by omega))
        have HB2 := Lib.hid ((hX.1.setCell (p := ⟨w.heap.size + 1 + 1, 0, none⟩) le2 (.slice A7 (k + 1 + 0) d7)).setCell (p := ⟨w.heap.size + 1 + 1, 1, none⟩) le2 (.slice A8 m d8))
        clear hown7 ho8 hX zH hr r0 r1
        go_wp2_with fail
        exact bodyPost_ret (v := .agg #[.slice A7 (k + 1 + 0) d7, .slice A8 m d8]) (by simp [results, Tryz.results71, go_sem, f0, f1]) rfl ⟨⟨_, _, rfl, rest_rows1_end HL.out ha.1 hk (HT.out.mono (by omega)), HSO7.out, HSO8.out⟩, HB2.out⟩
      · subst hck
        refine wp_region_held_drew (S := (fun w' => Below w.heap.size w w' ∧ w'.cell? ⟨w.heap.size, 0, none⟩ = some (.slice (some a) k k) ∧ w'.cell? ⟨w.heap.size, 1, none⟩ = some (.slice O2 m d) ∧ w.heap.size + 3 ≤ w'.heap.size ∧ ∃ x y, w'.heap[w.heap.size + 1 + 1]? = some (.cells #[x, y] 30 (0, 0)))) (by kernel_rfl) ?hSr52 (fun zH => ?restr52)
        case hSr52 => exact ⟨hbD6.drew, q0, q1, hs6, _, _, kr⟩
        refine tkV 0 ?_
        refine tkV 1 ?_
        refine tkV 2 ?_
        refine tkV 3 ?_
        refine tkV 4 ?_
        refine tkV 5 ?_
        refine rd1 6 (fun K hK => ?_)
        have hsz7 := zH.2.2.2.1
        (refine step_appX _ rfl _ _ rfl (w.heap.size + 3) (.slice A6 (k + 1) d6) rfl (k + 1) ((za.take (k * 4)) ++ [oi, oa, op, oq]) (oBw hown6 (Below.refl _ w6).drew) _ 0 _ (fun e => by cases e) [] rfl w.heap.size (Lst.nil _ w.heap.size 4 _) (by omega) (by omega) hsz7 ?_; intro r7 u7 hown7 hgrow7 hat7)
        have hlt7 := hown6.lt
        refine hK.out _ _ (rsS_grown zH hgrow7 (fun q hq => (hlt7 q hq).1)) (fun zH => ?_)
        clear hK K
        try simp only [Act.put, sA, sB, sC]
        have HSO7 := Lib.hid (some_at hat7 HSO6.out)
        clear hat7
        obtain ⟨A7, d7, rfl, _, _⟩ := oSl hown7
        refine rd1 7 (fun K hK => ?_)
        go_simp
        go_at_call 64
        refine (spec_l2With1 _ _ _ _ _ _ za zb A7 _ d7 u7 ((ha.below zH.1).more zH.1.size) ((hb.below zH.1).more zH.1.size) (by omega) (by omega) hO1 hO2).mono ?_
        rintro e u8 ⟨⟨r8, rfl, ho8, hso8⟩, hb8⟩
        have hlt7' := hown7.lt
        refine hK.out _ _ (rsS_below zH hb8) (fun zH => ?_)
        clear hK K
        try simp only [Act.put, sA, sB, sC]
        have HSO8 := Lib.hid hso8
        clear hso8
        have hown7 := oBw hown7 hb8
        obtain ⟨A8, d8, rfl, _, _⟩ := oSl ho8
        have hX := zH
        obtain ⟨x, y, hr⟩ := hX.2.2.2.2
        have r0 := cell_of_row u8 (w.heap.size + 1 + 1) 0 _ _ (0, 0) hr
        have r1 := cell_of_row u8 (w.heap.size + 1 + 1) 1 _ _ (0, 0) hr
        have z0 := frozen_of_row u8 (w.heap.size + 1 + 1) 0 _ _ hr
        have z1 := frozen_of_row u8 (w.heap.size + 1 + 1) 1 _ _ hr
        simp at r0 r1
        have E0 := Lib.hid (zS1 (u := (.slice A8 m d8)) (zS0 (u := (.slice A7 (k + 1 + 0) d7)) hr))
        refine rd1 8 (fun K hK => ?_)
        go_simp
        refine hK.out _ _ (rsS_set hX _ _) (fun zH => ?_)
        clear hK K
        try simp only [Act.put, sA, sB, sC]
        refine dn1 ?_
        have f0 := cell_of_row _ (w.heap.size + 1 + 1) 0 _ _ (0, 0) E0.out
        have f1 := cell_of_row _ (w.heap.size + 1 + 1) 1 _ _ (0, 0) E0.out
        simp at f0 f1
        have hz8 : w.heap.size + 3 ≤ u7.heap.size := Nat.le_trans hsz7 hgrow7.size
        have hne : ∀ q, (Value.slice A7 (k + 1 + 0) d7).ownBlock = some q → (Value.slice A8 m d8).ownBlock ≠ some q := fun q h1 h2 => by have a := (hlt7' q h1).2; have b := (ho8.lt q h2).1; omega
        have HT := Lib.hid (((TwoRows.mk hown7 (oMn ho8 hz8) hne).kept (set_grown u8 (w.heap.size + 1 + 1) 0 (.slice A7 (k + 1 + 0) d7)) (by omega)).kept (set_grown _ (w.heap.size + 1 + 1) 1 (.slice A8 m d8)) (by omega))
        have HB2 := Lib.hid ((hX.1.setCell (p := ⟨w.heap.size + 1 + 1, 0, none⟩) le2 (.slice A7 (k + 1 + 0) d7)).setCell (p := ⟨w.heap.size + 1 + 1, 1, none⟩) le2 (.slice A8 m d8))
        clear hown7 ho8 hX zH hr r0 r1
        go_wp2_with fail
        exact bodyPost_ret (v := .agg #[.slice A7 (k + 1 + 0) d7, .slice A8 m d8]) (by simp [results, Tryz.results71, go_sem, f0, f1]) rfl ⟨⟨_, _, rfl, rest_rows1_end HL.out ha.1 hk (HT.out.mono (by omega)), HSO7.out, HSO8.out⟩, HB2.out⟩
theorem spec_l2Rest2 (O1 : Option Addr) (n c : Nat) (O2 : Option Addr) (m d : Nat) (za zb : List Int) (oi oa op oq : Int) (w : World) (ha : Lst w w.heap.size 4 O1 n za) (hb : Lst w w.heap.size 4 O2 m zb) (hn : n ≤ 1048576) (hm : m ≤ 1048576) (hO1 : O1 = none → n = 0 ∧ c = 0) (hO2 : O2 = none → m = 0 ∧ d = 0) (hnc : n ≤ c) (hmd : m ≤ d) :
 Calls Tryz.prog 71 #[.agg #[.slice O1 n c, .slice O2 m d], .int .i64 2, .agg #[.int .i64 oi, .int .i64 oa, .int .i64 op, .int .i64 oq]] w fun e w' => (∃ v1 v2, e = .returned (.agg #[v1, v2]) ∧ TwoRows w' w.heap.size v1 (restN1 2 n) (rest1 2 op za n [oi, oa, op, oq]) v2 (restN2 2 m) (rest2 2 op zb m [oi, oa, op, oq]) ∧ v1.ownBlock.isSome = true ∧ v2.ownBlock.isSome = true) ∧ Below w.heap.size w w' := by
 obtain ⟨i0, hi, hz0, hz1, hz2⟩ := info_parts ord_info
 obtain ⟨ka, ko, kr⟩ := three_blocks w (.cells #[.slice O1 n c, .slice O2 m d] 30) (.cells #[.int .i64 oi, .int .i64 oa, .int .i64 op, .int .i64 oq] 65) (.cells #[.slice none 0 0, .slice none 0 0] 30)
 have hb0 : Below w.heap.size w (((w.alloc (.cells #[.slice O1 n c, .slice O2 m d] 30)).alloc (.cells #[.int .i64 oi, .int .i64 oa, .int .i64 op, .int .i64 oq] 65)).alloc (.cells #[.slice none 0 0, .slice none 0 0] 30)) := (((Below.refl _ _).alloc (Nat.le_refl _) _).alloc (by simp) _).alloc (by simp; omega) _
 have hs0 : (((w.alloc (.cells #[.slice O1 n c, .slice O2 m d] 30)).alloc (.cells #[.int .i64 oi, .int .i64 oa, .int .i64 op, .int .i64 oq] 65)).alloc (.cells #[.slice none 0 0, .slice none 0 0] 30)).heap.size = w.heap.size + 3 := by simp
 have p0 := cell_of_row _ w.heap.size 0 _ _ (0, 0) ka
 have p1 := cell_of_row _ w.heap.size 1 _ _ (0, 0) ka
 simp at p0 p1
 go_enter Tryz.func71, Tryz.ntmps71
 go_wp2_with fail
 generalize (((w.alloc (.cells #[.slice O1 n c, .slice O2 m d] 30)).alloc (.cells #[.int .i64 oi, .int .i64 oa, .int .i64 op, .int .i64 oq] 65)).alloc (.cells #[.slice none 0 0, .slice none 0 0] 30)) = w0 at *
 refine (spec_l2ListO O1 n c O2 m d 2 w0).mono ?_
 simp only [show ((2 : Int) = 1) = False from by simp, if_false]
 rintro e w1 ⟨rfl, hb1⟩
 have ka := (hb1.block w.heap.size (by omega)).trans ka
 have ko := (hb1.block (w.heap.size + 1) (by omega)).trans ko
 have kr := (hb1.block (w.heap.size + 1 + 1) (by omega)).trans kr
 have hs1 : w.heap.size + 3 ≤ w1.heap.size := by have := hb1.size; omega
 have hb1 := hb0.trans (hb1.mono hb0.size)
 clear hb0 hs0 p0 p1
 go_wp2_with fail
 go_loopw [8] (fun i wr => ∃ k : Nat, k ≤ m ∧ i = .int .i64 (k : Int) ∧ (∀ j, j < k → (!betB 2 op (price zb j)) = true) ∧ Below w1.heap.size w1 wr) (fun i _ => m - (intOf i).toNat)
 case atStart => exact ⟨0, Nat.zero_le _, rfl, fun j hj => absurd hj (Nat.not_lt_zero j), Below.refl _ _⟩
 case round =>
  obtain ⟨k, hk, rfl, hall, hbel⟩ := hrel
  have HA := Lib.hid hall
  have ko2 := (hbel.block (w.heap.size + 1) (by omega)).trans ko
  have cB : wr.cell? ⟨w.heap.size + 1, 2, none⟩ = some (.int .i64 op) := by simp [World.cell?, ko2]
  clear hall
  by_cases hlt : k < m
  · obtain ⟨b, o, hax, hbo, c0, c1, c2, c3⟩ := ((hb.below hb1).more hb1.size).below hbel |>.row4 hlt
    have HX := Lib.hid hax
    have HB := Lib.hid hbel
    have hbsz := hbel.size
    rcases Bool.eq_false_or_eq_true (betB 2 op (price zb k)) with hbt | hbt
    · have HL := Lib.hid (show restI 2 op zb m = k from lead_one m (fun k => !betB 2 op (price zb k)) k hk HA.out (.inr (by simp [hbt])))
      subst hax
      go_upto_region 3 with fail
      refine wp_region_held_drew (S := (fun w' => Below wr.heap.size wr w' ∧ w'.cell? ⟨w.heap.size + 1, 2, none⟩ = some (.int .i64 op) ∧ w'.cell? ⟨b, o + k * 4 + 2, none⟩ = some (.int .i64 (price zb k)))) (by kernel_rfl) ?hSq4xs (fun zH => ?restq4xs)
      case hSq4xs => (exact kp2)
      refine tkV 0 ?_
      refine tkV 1 ?_
      refine tkV 2 ?_
      refine tkV 3 ?_
      refine tkV 4 ?_
      refine tkV 5 ?_
      refine tkV 6 ?_
      refine tkV 7 ?_
      refine tkV 8 ?_
      refine tkV 9 ?_
      refine tkV 10 ?_
      refine tkV 11 ?_
      refine tkV 12 ?_
      refine rd1 13 (fun K hK => ?_)
      go_simp
      (go_at_call 63; refine (spec_l2Ahead 2 op (price zb k) _).mono ?_; rw [hbt]; rintro e u2 ⟨rfl, rfl⟩)
      refine hK.out _ _ ?hSq4x14 (fun zH => ?restq4x14)
      case hSq4x14 => (exact kp2)
      clear hK K
      try simp only [Act.put, sA, sB, sC]
      refine tkV 14 ?_
      refine tkV 15 ?_
      refine dn1 ?_
      obtain ⟨hbq, -, -⟩ := zH
      have hbq := HB.out.trans (hbq.mono hbsz)
      clear hbel cB c0 c1 c2 c3 hbt ko2
      generalize wr.drew = wq at *
      have hsq : w.heap.size + 3 ≤ wq.heap.size := Nat.le_trans hs1 hbq.size
      have hbD := hb1.trans (hbq.mono hb1.size)
      have ka := (hbq.block w.heap.size (by omega)).trans ka
      have ko := (hbq.block (w.heap.size + 1) (by omega)).trans ko
      have kr := (hbq.block (w.heap.size + 1 + 1) (by omega)).trans kr
      have hbE : Below wq.heap.size wq (wq.alloc (.cells #[] 65)) := (Below.refl _ _).alloc (Nat.le_refl _) _
      have hbDE := hbD.trans (hbE.mono hbD.size)
      have hlk := Lst.take (k := k) (hb.below hbDE) hk
      have hq0 := oMn (base' := w.heap.size + 3) (own_empty wq 65 4) hsq
      clear hbq
      go_wp2_with (at_builtin; refine wpList_app_atO _ rfl _ _ 28 rfl (w.heap.size + 3) 65 i0 _ 4 32 Tryz.underlying28 hi hz0 hz1 hz2 rfl (by decide) _ _ _ rfl hq0 (some ⟨b, o, none⟩) k d (fun e => by cases e) (nums (zb.take (k * 4))) rfl (by rw [nums_length]; exact hlk.1) hlk.newsO (nums_one _) (by unfold maxLen; omega) (by omega) (by simp; omega) ?_)
      intro v5 w5 hown5 hgrow5 hat5
      have hso5 : v5.ownBlock.isSome = true := some_at hat5 rfl
      clear hat5
      have hbD5 := hbDE.grown hgrow5 hbDE.size (fun q hq => by simp [Value.ownBlock] at hq; omega)
      have ka := (hgrow5.block w.heap.size (by simp; omega) (fun e => by simp [Value.ownBlock] at e; omega)).trans ((hbE.block _ (by omega)).trans ka)
      have ko := (hgrow5.block (w.heap.size + 1) (by simp; omega) (fun e => by simp [Value.ownBlock] at e; omega)).trans ((hbE.block _ (by omega)).trans ko)
      have kr := (hgrow5.block (w.heap.size + 1 + 1) (by simp; omega) (fun e => by simp [Value.ownBlock] at e; omega)).trans ((hbE.block _ (by omega)).trans kr)
      have hs5 : w.heap.size + 3 ≤ w5.heap.size := by have := hgrow5.size; simp at this; omega
      obtain ⟨A5, d5, rfl, _, _⟩ := oSl hown5
      have o0 := cell_of_row w5 (w.heap.size + 1) 0 _ _ (0, 0) ko
      have o1 := cell_of_row w5 (w.heap.size + 1) 1 _ _ (0, 0) ko
      have o2 := cell_of_row w5 (w.heap.size + 1) 2 _ _ (0, 0) ko
      have o3 := cell_of_row w5 (w.heap.size + 1) 3 _ _ (0, 0) ko
      simp at o0 o1 o2 o3
      have hov5 := hown5.lt
      clear hgrow5 hbDE hbE hbD hq0 hlk
      go_wp2_with (at_builtin; refine wpList_append_own_at _ rfl _ _ 28 rfl (w.heap.size + 3) 65 i0 _ 4 32 Tryz.underlying28 hi hz0 hz1 hz2 rfl (by decide) _ _ _ rfl (hown5.alloc _) ⟨w5.heap.size, 0, none⟩ 1 1 [.int .i64 oi, .int .i64 oa, .int .i64 op, .int .i64 oq] rfl rfl (World.news_of_block (heap_alloc_new w5 _)) (by intro u hu; simp at hu; rcases hu with rfl | rfl | rfl | rfl <;> rfl) (by unfold maxLen; omega) (by omega) (by simp; omega) ?_)
      intro v6 w6 hown6 hgrow6 _ hat6
      have HSO6 := Lib.hid (some_at hat6 hso5)
      clear hat6 hso5
      rw [show nums (zb.take (k * 4)) ++ [.int .i64 oi, .int .i64 oa, .int .i64 op, .int .i64 oq] = nums ((zb.take (k * 4)) ++ [oi, oa, op, oq]) from by rw [nums_append]; rfl] at hown6
      have hbD6 := (hbD5.alloc hbD5.size (.cells #[.int .i64 oi, .int .i64 oa, .int .i64 op, .int .i64 oq] 65)).grown hgrow6 (by simp; omega) (fun q hq => by have := (hov5 q hq).1; omega)
      have ka := (hgrow6.block w.heap.size (by simp; omega) (fun e => by have := (hov5 _ e.symm).1; omega)).trans ((Below.heap_alloc w5 _ _ (by omega)).trans ka)
      have kr := (hgrow6.block (w.heap.size + 1 + 1) (by simp; omega) (fun e => by have := (hov5 _ e.symm).1; omega)).trans ((Below.heap_alloc w5 _ _ (by omega)).trans kr)
      have hs6 : w.heap.size + 3 ≤ w6.heap.size := by have := hgrow6.size; simp at this; omega
      obtain ⟨A6, d6, rfl, _, _⟩ := oSl hown6
      have q0 := cell_of_row w6 w.heap.size 0 _ _ (0, 0) ka
      have q1 := cell_of_row w6 w.heap.size 1 _ _ (0, 0) ka
      simp at q0 q1
      clear hgrow6 hbD5 hov5 hown5 o0 o1 o2 o3 ko
      go_upto_region 7 with fail
      have hck' : ¬ (d = k) := by omega
      refine wp_region_held_drew (S := (fun w' => Below w.heap.size w w' ∧ w'.cell? ⟨w.heap.size, 0, none⟩ = some (.slice O1 n c) ∧ w'.cell? ⟨w.heap.size, 1, none⟩ = some (.slice (some ⟨b, o, none⟩) m d) ∧ w.heap.size + 3 ≤ w'.heap.size ∧ ∃ x y, w'.heap[w.heap.size + 1 + 1]? = some (.cells #[x, y] 30 (0, 0)))) (by kernel_rfl) ?hSr62 (fun zH => ?restr62)
      case hSr62 => exact ⟨hbD6.drew, q0, q1, hs6, _, _, kr⟩
      refine tkV 0 ?_
      refine tkV 1 ?_
      refine tkV 2 ?_
      refine tkV 3 ?_
      refine tkV 4 ?_
      refine tkV 5 ?_
      refine rd1 6 (fun K hK => ?_)
      have hsz7 := zH.2.2.2.1
      (refine step_appX _ rfl _ _ rfl (w.heap.size + 3) (.slice A6 (k + 1) d6) rfl (k + 1) ((zb.take (k * 4)) ++ [oi, oa, op, oq]) (oBw hown6 (Below.refl _ w6).drew) (some ⟨b, o + k * 4, none⟩) (m - k) _ (fun e => by cases e) (zb.drop (k * 4)) rfl w.heap.size (Lst.drop (hb.below zH.1) hk) (by omega) (by omega) hsz7 ?_; intro r7 u7 hown7 hgrow7 hat7)
      have hlt7 := hown6.lt
      refine hK.out _ _ (rsS_grown zH hgrow7 (fun q hq => (hlt7 q hq).1)) (fun zH => ?_)
      clear hK K
      try simp only [Act.put, sA, sB, sC]
      have HSO7 := Lib.hid (some_at hat7 HSO6.out)
      clear hat7
      obtain ⟨A7, d7, rfl, _, _⟩ := oSl hown7
      refine rd1 7 (fun K hK => ?_)
      go_simp
      go_at_call 64
      refine (spec_l2With2 _ _ _ _ _ _ za zb A7 _ d7 u7 ((ha.below zH.1).more zH.1.size) ((hb.below zH.1).more zH.1.size) (by omega) (by omega) hO1 hO2).mono ?_
      rintro e u8 ⟨⟨r8, rfl, ho8, hso8⟩, hb8⟩
      have hlt7' := hown7.lt
      refine hK.out _ _ (rsS_below zH hb8) (fun zH => ?_)
      clear hK K
      try simp only [Act.put, sA, sB, sC]
      have HSO8 := Lib.hid hso8
      clear hso8
      have hown7 := oBw hown7 hb8
      obtain ⟨A8, d8, rfl, _, _⟩ := oSl ho8
      have hX := zH
      obtain ⟨x, y, hr⟩ := hX.2.2.2.2
      have r0 := cell_of_row u8 (w.heap.size + 1 + 1) 0 _ _ (0, 0) hr
      have r1 := cell_of_row u8 (w.heap.size + 1 + 1) 1 _ _ (0, 0) hr
      have z0 := frozen_of_row u8 (w.heap.size + 1 + 1) 0 _ _ hr
      have z1 := frozen_of_row u8 (w.heap.size + 1 + 1) 1 _ _ hr
      simp at r0 r1
      have E0 := Lib.hid (zS1 (u := (.slice A7 (k + 1 + (m - k)) d7)) (zS0 (u := (.slice A8 n d8)) hr))
      refine rd1 8 (fun K hK => ?_)
      go_simp
      refine hK.out _ _ (rsS_set hX _ _) (fun zH => ?_)
      clear hK K
      try simp only [Act.put, sA, sB, sC]
      refine dn1 ?_
      have f0 := cell_of_row _ (w.heap.size + 1 + 1) 0 _ _ (0, 0) E0.out
      have f1 := cell_of_row _ (w.heap.size + 1 + 1) 1 _ _ (0, 0) E0.out
      simp at f0 f1
      have hz8 : w.heap.size + 3 ≤ u7.heap.size := Nat.le_trans hsz7 hgrow7.size
      have hne : ∀ q, (Value.slice A7 (k + 1 + (m - k)) d7).ownBlock = some q → (Value.slice A8 n d8).ownBlock ≠ some q := fun q h1 h2 => by have a := (hlt7' q h1).2; have b := (ho8.lt q h2).1; omega
      have HT := Lib.hid (((TwoRows.mk (oMn ho8 hz8) hown7 (fun q h1 h2 => hne q h2 h1)).kept (set_grown u8 (w.heap.size + 1 + 1) 0 (.slice A8 n d8)) (by omega)).kept (set_grown _ (w.heap.size + 1 + 1) 1 (.slice A7 (k + 1 + (m - k)) d7)) (by omega))
      have HB2 := Lib.hid ((hX.1.setCell (p := ⟨w.heap.size + 1 + 1, 0, none⟩) le2 (.slice A8 n d8)).setCell (p := ⟨w.heap.size + 1 + 1, 1, none⟩) le2 (.slice A7 (k + 1 + (m - k)) d7))
      clear hown7 ho8 hX zH hr r0 r1
      go_wp2_with fail
      exact bodyPost_ret (v := .agg #[.slice A8 n d8, .slice A7 (k + 1 + (m - k)) d7]) (by simp [results, Tryz.results71, go_sem, f0, f1]) rfl ⟨⟨_, _, rfl, rest_rows2 HL.out hb.1 hk (HT.out.mono (by omega)), HSO8.out, HSO7.out⟩, HB2.out⟩
    · have HM := Lib.hid (show (!betB 2 op (price zb k)) = true by simp [hbt])
      subst hax
      go_upto_region 3 with fail
      refine wp_region_held_drew (S := (fun w' => Below wr.heap.size wr w' ∧ w'.cell? ⟨w.heap.size + 1, 2, none⟩ = some (.int .i64 op) ∧ w'.cell? ⟨b, o + k * 4 + 2, none⟩ = some (.int .i64 (price zb k)))) (by kernel_rfl) ?hSq5xs (fun zH => ?restq5xs)
      case hSq5xs => (exact kp2)
      refine tkV 0 ?_
      refine tkV 1 ?_
      refine tkV 2 ?_
      refine tkV 3 ?_
      refine tkV 4 ?_
      refine tkV 5 ?_
      refine tkV 6 ?_
      refine tkV 7 ?_
      refine tkV 8 ?_
      refine tkV 9 ?_
      refine tkV 10 ?_
      refine tkV 11 ?_
      refine tkV 12 ?_
      refine rd1 13 (fun K hK => ?_)
      go_simp
      (go_at_call 63; refine (spec_l2Ahead 2 op (price zb k) _).mono ?_; rw [hbt]; rintro e u2 ⟨rfl, rfl⟩)
      refine hK.out _ _ ?hSq5x14 (fun zH => ?restq5x14)
      case hSq5x14 => (exact kp2)
      clear hK K
      try simp only [Act.put, sA, sB, sC]
      refine tkV 14 ?_
      refine tkV 15 ?_
      refine dn1 ?_
      obtain ⟨hbq, -, -⟩ := zH
      have hbq := HB.out.trans (hbq.mono hbsz)
      clear hbel cB c0 c1 c2 c3 hbt ko2
      go_wp2_with fail
      go_roundw
      case rel => exact ⟨k + 1, by omega, by go_num, fun j hj => by
       rcases (show j < k ∨ j = k from by omega) with h | rfl
       · exact HA.out j h
       · exact HM.out, hbq⟩
      case measure => simp [intOf]; omega
  · obtain rfl : k = m := by omega
    have HL := Lib.hid (show restI 2 op zb k = k from lead_one k (fun k => !betB 2 op (price zb k)) k hk HA.out (.inl rfl))
    have HB := Lib.hid hbel
    have hbsz := hbel.size
    go_upto_region 3 with fail
    refine wp_region_held_drew (S := (fun w' => Below wr.heap.size wr w')) (by kernel_rfl) ?hSq6xs (fun zH => ?restq6xs)
    case hSq6xs => (exact kp2)
    refine tkV 0 ?_
    refine tkV 1 ?_
    refine tkV 2 ?_
    refine tkV 3 ?_
    refine tkV 4 ?_
    refine hdN 5 ?_
    refine hdN 6 ?_
    refine hdN 7 ?_
    refine hdN 8 ?_
    refine hdN 9 ?_
    refine hdN 10 ?_
    refine hdN 11 ?_
    refine hdN 12 ?_
    refine hdN 13 ?_
    refine hdN 14 ?_
    refine tkV 15 ?_
    refine dn1 ?_
    have hbq := HB.out.trans (zH.mono hbsz)
    clear hbel cB ko2
    rcases O2 with _ | a
    · obtain ⟨rfl, rfl⟩ := hO2 rfl
      generalize wr.drew = wq at *
      have hsq : w.heap.size + 3 ≤ wq.heap.size := Nat.le_trans hs1 hbq.size
      have hbD := hb1.trans (hbq.mono hb1.size)
      have ka := (hbq.block w.heap.size (by omega)).trans ka
      have ko := (hbq.block (w.heap.size + 1) (by omega)).trans ko
      have kr := (hbq.block (w.heap.size + 1 + 1) (by omega)).trans kr
      have hbE : Below wq.heap.size wq (wq.alloc (.cells #[] 65)) := (Below.refl _ _).alloc (Nat.le_refl _) _
      have hbDE := hbD.trans (hbE.mono hbD.size)
      have hlk : Lst (wq.alloc (.cells #[] 65)) w.heap.size 4 none 0 [] := Lst.nil _ w.heap.size 4 _
      have hq0 := oMn (base' := w.heap.size + 3) (own_empty wq 65 4) hsq
      clear hbq
      go_wp2_with (at_builtin; refine wpList_app_atO _ rfl _ _ 28 rfl (w.heap.size + 3) 65 i0 _ 4 32 Tryz.underlying28 hi hz0 hz1 hz2 rfl (by decide) _ _ _ rfl hq0 none 0 0 (fun _ => ⟨rfl, rfl⟩) (nums []) rfl (by rw [nums_length]; exact hlk.1) hlk.newsO (nums_one _) (by unfold maxLen; omega) (by omega) (by simp; omega) ?_)
      intro v5 w5 hown5 hgrow5 hat5
      have hso5 : v5.ownBlock.isSome = true := some_at hat5 rfl
      clear hat5
      have hbD5 := hbDE.grown hgrow5 hbDE.size (fun q hq => by simp [Value.ownBlock] at hq; omega)
      have ka := (hgrow5.block w.heap.size (by simp; omega) (fun e => by simp [Value.ownBlock] at e; omega)).trans ((hbE.block _ (by omega)).trans ka)
      have ko := (hgrow5.block (w.heap.size + 1) (by simp; omega) (fun e => by simp [Value.ownBlock] at e; omega)).trans ((hbE.block _ (by omega)).trans ko)
      have kr := (hgrow5.block (w.heap.size + 1 + 1) (by simp; omega) (fun e => by simp [Value.ownBlock] at e; omega)).trans ((hbE.block _ (by omega)).trans kr)
      have hs5 : w.heap.size + 3 ≤ w5.heap.size := by have := hgrow5.size; simp at this; omega
      obtain ⟨A5, d5, rfl, _, _⟩ := oSl hown5
      have o0 := cell_of_row w5 (w.heap.size + 1) 0 _ _ (0, 0) ko
      have o1 := cell_of_row w5 (w.heap.size + 1) 1 _ _ (0, 0) ko
      have o2 := cell_of_row w5 (w.heap.size + 1) 2 _ _ (0, 0) ko
      have o3 := cell_of_row w5 (w.heap.size + 1) 3 _ _ (0, 0) ko
      simp at o0 o1 o2 o3
      have hov5 := hown5.lt
      clear hgrow5 hbDE hbE hbD hq0 hlk
      go_wp2_with (at_builtin; refine wpList_append_own_at _ rfl _ _ 28 rfl (w.heap.size + 3) 65 i0 _ 4 32 Tryz.underlying28 hi hz0 hz1 hz2 rfl (by decide) _ _ _ rfl (hown5.alloc _) ⟨w5.heap.size, 0, none⟩ 1 1 [.int .i64 oi, .int .i64 oa, .int .i64 op, .int .i64 oq] rfl rfl (World.news_of_block (heap_alloc_new w5 _)) (by intro u hu; simp at hu; rcases hu with rfl | rfl | rfl | rfl <;> rfl) (by unfold maxLen; omega) (by omega) (by simp; omega) ?_)
      intro v6 w6 hown6 hgrow6 _ hat6
      have HSO6 := Lib.hid (some_at hat6 hso5)
      clear hat6 hso5
      rw [show nums [] ++ [.int .i64 oi, .int .i64 oa, .int .i64 op, .int .i64 oq] = nums ([] ++ [oi, oa, op, oq]) from by rw [nums_append]; rfl] at hown6
      have hbD6 := (hbD5.alloc hbD5.size (.cells #[.int .i64 oi, .int .i64 oa, .int .i64 op, .int .i64 oq] 65)).grown hgrow6 (by simp; omega) (fun q hq => by have := (hov5 q hq).1; omega)
      have ka := (hgrow6.block w.heap.size (by simp; omega) (fun e => by have := (hov5 _ e.symm).1; omega)).trans ((Below.heap_alloc w5 _ _ (by omega)).trans ka)
      have kr := (hgrow6.block (w.heap.size + 1 + 1) (by simp; omega) (fun e => by have := (hov5 _ e.symm).1; omega)).trans ((Below.heap_alloc w5 _ _ (by omega)).trans kr)
      have hs6 : w.heap.size + 3 ≤ w6.heap.size := by have := hgrow6.size; simp at this; omega
      obtain ⟨A6, d6, rfl, _, _⟩ := oSl hown6
      have q0 := cell_of_row w6 w.heap.size 0 _ _ (0, 0) ka
      have q1 := cell_of_row w6 w.heap.size 1 _ _ (0, 0) ka
      simp at q0 q1
      clear hgrow6 hbD5 hov5 hown5 o0 o1 o2 o3 ko
      go_upto_region 7 with fail
      refine wp_region_held_drew (S := (fun w' => Below w.heap.size w w' ∧ w'.cell? ⟨w.heap.size, 0, none⟩ = some (.slice O1 n c) ∧ w'.cell? ⟨w.heap.size, 1, none⟩ = some (.slice none 0 0) ∧ w.heap.size + 3 ≤ w'.heap.size ∧ ∃ x y, w'.heap[w.heap.size + 1 + 1]? = some (.cells #[x, y] 30 (0, 0)))) (by kernel_rfl) ?hSr72 (fun zH => ?restr72)
      case hSr72 => exact ⟨hbD6.drew, q0, q1, hs6, _, _, kr⟩
      refine tkV 0 ?_
      refine tkV 1 ?_
      refine tkV 2 ?_
      refine tkV 3 ?_
      refine tkV 4 ?_
      refine tkV 5 ?_
      refine rd1 6 (fun K hK => ?_)
      have hsz7 := zH.2.2.2.1
      (refine step_appX _ rfl _ _ rfl (w.heap.size + 3) (.slice A6 (0 + 1) d6) rfl (0 + 1) ([] ++ [oi, oa, op, oq]) (oBw hown6 (Below.refl _ w6).drew) _ 0 _ (fun _ => ⟨rfl, rfl⟩) [] rfl w.heap.size (Lst.nil _ w.heap.size 4 _) (by omega) (by omega) hsz7 ?_; intro r7 u7 hown7 hgrow7 hat7)
      have hlt7 := hown6.lt
      refine hK.out _ _ (rsS_grown zH hgrow7 (fun q hq => (hlt7 q hq).1)) (fun zH => ?_)
      clear hK K
      try simp only [Act.put, sA, sB, sC]
      have HSO7 := Lib.hid (some_at hat7 HSO6.out)
      clear hat7
      obtain ⟨A7, d7, rfl, _, _⟩ := oSl hown7
      refine rd1 7 (fun K hK => ?_)
      go_simp
      go_at_call 64
      refine (spec_l2With2 _ _ _ _ _ _ za zb A7 _ d7 u7 ((ha.below zH.1).more zH.1.size) ((hb.below zH.1).more zH.1.size) (by omega) (by omega) hO1 (fun _ => ⟨rfl, rfl⟩)).mono ?_
      rintro e u8 ⟨⟨r8, rfl, ho8, hso8⟩, hb8⟩
      have hlt7' := hown7.lt
      refine hK.out _ _ (rsS_below zH hb8) (fun zH => ?_)
      clear hK K
      try simp only [Act.put, sA, sB, sC]
      have HSO8 := Lib.hid hso8
      clear hso8
      have hown7 := oBw hown7 hb8
      obtain ⟨A8, d8, rfl, _, _⟩ := oSl ho8
      have hX := zH
      obtain ⟨x, y, hr⟩ := hX.2.2.2.2
      have r0 := cell_of_row u8 (w.heap.size + 1 + 1) 0 _ _ (0, 0) hr
      have r1 := cell_of_row u8 (w.heap.size + 1 + 1) 1 _ _ (0, 0) hr
      have z0 := frozen_of_row u8 (w.heap.size + 1 + 1) 0 _ _ hr
      have z1 := frozen_of_row u8 (w.heap.size + 1 + 1) 1 _ _ hr
      simp at r0 r1
      have E0 := Lib.hid (zS1 (u := (.slice A7 (0 + 1 + 0) d7)) (zS0 (u := (.slice A8 n d8)) hr))
      refine rd1 8 (fun K hK => ?_)
      go_simp
      refine hK.out _ _ (rsS_set hX _ _) (fun zH => ?_)
      clear hK K
      try simp only [Act.put, sA, sB, sC]
      refine dn1 ?_
      have f0 := cell_of_row _ (w.heap.size + 1 + 1) 0 _ _ (0, 0) E0.out
      have f1 := cell_of_row _ (w.heap.size + 1 + 1) 1 _ _ (0, 0) E0.out
      simp at f0 f1
      have hz8 : w.heap.size + 3 ≤ u7.heap.size := Nat.le_trans hsz7 hgrow7.size
      have hne : ∀ q, (Value.slice A7 (0 + 1 + 0) d7).ownBlock = some q → (Value.slice A8 n d8).ownBlock ≠ some q := fun q h1 h2 => by have a := (hlt7' q h1).2; have b := (ho8.lt q h2).1; omega
      have HT := Lib.hid (((TwoRows.mk (oMn ho8 hz8) hown7 (fun q h1 h2 => hne q h2 h1)).kept (set_grown u8 (w.heap.size + 1 + 1) 0 (.slice A8 n d8)) (by omega)).kept (set_grown _ (w.heap.size + 1 + 1) 1 (.slice A7 (0 + 1 + 0) d7)) (by omega))
      have HB2 := Lib.hid ((hX.1.setCell (p := ⟨w.heap.size + 1 + 1, 0, none⟩) le2 (.slice A8 n d8)).setCell (p := ⟨w.heap.size + 1 + 1, 1, none⟩) le2 (.slice A7 (0 + 1 + 0) d7))
      clear hown7 ho8 hX zH hr r0 r1
      go_wp2_with fail
      exact bodyPost_ret (v := .agg #[.slice A8 n d8, .slice A7 (0 + 1 + 0) d7]) (by simp [results, Tryz.results71, go_sem, f0, f1]) rfl ⟨⟨_, _, rfl, rest_rows2_end HL.out hb.1 hk (HT.out.mono (by omega)), HSO8.out, HSO7.out⟩, HB2.out⟩
    · skip
      generalize wr.drew = wq at *
      have hsq : w.heap.size + 3 ≤ wq.heap.size := Nat.le_trans hs1 hbq.size
      have hbD := hb1.trans (hbq.mono hb1.size)
      have ka := (hbq.block w.heap.size (by omega)).trans ka
      have ko := (hbq.block (w.heap.size + 1) (by omega)).trans ko
      have kr := (hbq.block (w.heap.size + 1 + 1) (by omega)).trans kr
      have hbE : Below wq.heap.size wq (wq.alloc (.cells #[] 65)) := (Below.refl _ _).alloc (Nat.le_refl _) _
      have hbDE := hbD.trans (hbE.mono hbD.size)
      have hlk := Lst.take (k := k) (hb.below hbDE) hk
      have hq0 := oMn (base' := w.heap.size + 3) (own_empty wq 65 4) hsq
      clear hbq
      go_wp2_with (at_builtin; refine wpList_app_atO _ rfl _ _ 28 rfl (w.heap.size + 3) 65 i0 _ 4 32 Tryz.underlying28 hi hz0 hz1 hz2 rfl (by decide) _ _ _ rfl hq0 (some a) k d (fun e => by cases e) (nums (zb.take (k * 4))) rfl (by rw [nums_length]; exact hlk.1) hlk.newsO (nums_one _) (by unfold maxLen; omega) (by omega) (by simp; omega) ?_)
      intro v5 w5 hown5 hgrow5 hat5
      have hso5 : v5.ownBlock.isSome = true := some_at hat5 rfl
      clear hat5
      have hbD5 := hbDE.grown hgrow5 hbDE.size (fun q hq => by simp [Value.ownBlock] at hq; omega)
      have ka := (hgrow5.block w.heap.size (by simp; omega) (fun e => by simp [Value.ownBlock] at e; omega)).trans ((hbE.block _ (by omega)).trans ka)
      have ko := (hgrow5.block (w.heap.size + 1) (by simp; omega) (fun e => by simp [Value.ownBlock] at e; omega)).trans ((hbE.block _ (by omega)).trans ko)
      have kr := (hgrow5.block (w.heap.size + 1 + 1) (by simp; omega) (fun e => by simp [Value.ownBlock] at e; omega)).trans ((hbE.block _ (by omega)).trans kr)
      have hs5 : w.heap.size + 3 ≤ w5.heap.size := by have := hgrow5.size; simp at this; omega
      obtain ⟨A5, d5, rfl, _, _⟩ := oSl hown5
      have o0 := cell_of_row w5 (w.heap.size + 1) 0 _ _ (0, 0) ko
      have o1 := cell_of_row w5 (w.heap.size + 1) 1 _ _ (0, 0) ko
      have o2 := cell_of_row w5 (w.heap.size + 1) 2 _ _ (0, 0) ko
      have o3 := cell_of_row w5 (w.heap.size + 1) 3 _ _ (0, 0) ko
      simp at o0 o1 o2 o3
      have hov5 := hown5.lt
      clear hgrow5 hbDE hbE hbD hq0 hlk
      go_wp2_with (at_builtin; refine wpList_append_own_at _ rfl _ _ 28 rfl (w.heap.size + 3) 65 i0 _ 4 32 Tryz.underlying28 hi hz0 hz1 hz2 rfl (by decide) _ _ _ rfl (hown5.alloc _) ⟨w5.heap.size, 0, none⟩ 1 1 [.int .i64 oi, .int .i64 oa, .int .i64 op, .int .i64 oq] rfl rfl (World.news_of_block (heap_alloc_new w5 _)) (by intro u hu; simp at hu; rcases hu with rfl | rfl | rfl | rfl <;> rfl) (by unfold maxLen; omega) (by omega) (by simp; omega) ?_)
      intro v6 w6 hown6 hgrow6 _ hat6
      have HSO6 := Lib.hid (some_at hat6 hso5)
      clear hat6 hso5
      rw [show nums (zb.take (k * 4)) ++ [.int .i64 oi, .int .i64 oa, .int .i64 op, .int .i64 oq] = nums ((zb.take (k * 4)) ++ [oi, oa, op, oq]) from by rw [nums_append]; rfl] at hown6
      have hbD6 := (hbD5.alloc hbD5.size (.cells #[.int .i64 oi, .int .i64 oa, .int .i64 op, .int .i64 oq] 65)).grown hgrow6 (by simp; omega) (fun q hq => by have := (hov5 q hq).1; omega)
      have ka := (hgrow6.block w.heap.size (by simp; omega) (fun e => by have := (hov5 _ e.symm).1; omega)).trans ((Below.heap_alloc w5 _ _ (by omega)).trans ka)
      have kr := (hgrow6.block (w.heap.size + 1 + 1) (by simp; omega) (fun e => by have := (hov5 _ e.symm).1; omega)).trans ((Below.heap_alloc w5 _ _ (by omega)).trans kr)
      have hs6 : w.heap.size + 3 ≤ w6.heap.size := by have := hgrow6.size; simp at this; omega
      obtain ⟨A6, d6, rfl, _, _⟩ := oSl hown6
      have q0 := cell_of_row w6 w.heap.size 0 _ _ (0, 0) ka
      have q1 := cell_of_row w6 w.heap.size 1 _ _ (0, 0) ka
      simp at q0 q1
      clear hgrow6 hbD5 hov5 hown5 o0 o1 o2 o3 ko
      go_upto_region 7 with fail
      rcases Nat.lt_or_eq_of_le (show k ≤ d by omega) with hck | hck
      · have hck' : ¬ (d = k) := by omega
        refine wp_region_held_drew (S := (fun w' => Below w.heap.size w w' ∧ w'.cell? ⟨w.heap.size, 0, none⟩ = some (.slice O1 n c) ∧ w'.cell? ⟨w.heap.size, 1, none⟩ = some (.slice (some a) k d) ∧ w.heap.size + 3 ≤ w'.heap.size ∧ ∃ x y, w'.heap[w.heap.size + 1 + 1]? = some (.cells #[x, y] 30 (0, 0)))) (by kernel_rfl) ?hSr82 (fun zH => ?restr82)
        case hSr82 => exact ⟨hbD6.drew, q0, q1, hs6, _, _, kr⟩
        refine tkV 0 ?_
        refine tkV 1 ?_
        refine tkV 2 ?_
        refine tkV 3 ?_
        refine tkV 4 ?_
        refine tkV 5 ?_
        refine rd1 6 (fun K hK => ?_)
        have hsz7 := zH.2.2.2.1
        (refine step_appX _ rfl _ _ rfl (w.heap.size + 3) (.slice A6 (k + 1) d6) rfl (k + 1) ((zb.take (k * 4)) ++ [oi, oa, op, oq]) (oBw hown6 (Below.refl _ w6).drew) _ 0 _ (fun e => by cases e) [] rfl w.heap.size (Lst.nil _ w.heap.size 4 _) (by omega) (by omega) hsz7 ?_; intro r7 u7 hown7 hgrow7 hat7)
        have hlt7 := hown6.lt
        refine hK.out _ _ (rsS_grown zH hgrow7 (fun q hq => (hlt7 q hq).1)) (fun zH => ?_)
        clear hK K
        try simp only [Act.put, sA, sB, sC]
        have HSO7 := Lib.hid (some_at hat7 HSO6.out)
        clear hat7
        obtain ⟨A7, d7, rfl, _, _⟩ := oSl hown7
        refine rd1 7 (fun K hK => ?_)
        go_simp
        go_at_call 64
        refine (spec_l2With2 _ _ _ _ _ _ za zb A7 _ d7 u7 ((ha.below zH.1).more zH.1.size) ((hb.below zH.1).more zH.1.size) (by omega) (by omega) hO1 hO2).mono ?_
        rintro e u8 ⟨⟨r8, rfl, ho8, hso8⟩, hb8⟩
        have hlt7' := hown7.lt
        refine hK.out _ _ (rsS_below zH hb8) (fun zH => ?_)
        clear hK K
        try simp only [Act.put, sA, sB, sC]
        have HSO8 := Lib.hid hso8
        clear hso8
        have hown7 := oBw hown7 hb8
        obtain ⟨A8, d8, rfl, _, _⟩ := oSl ho8
        have hX := zH
        obtain ⟨x, y, hr⟩ := hX.2.2.2.2
        have r0 := cell_of_row u8 (w.heap.size + 1 + 1) 0 _ _ (0, 0) hr
        have r1 := cell_of_row u8 (w.heap.size + 1 + 1) 1 _ _ (0, 0) hr
        have z0 := frozen_of_row u8 (w.heap.size + 1 + 1) 0 _ _ hr
        have z1 := frozen_of_row u8 (w.heap.size + 1 + 1) 1 _ _ hr
        simp at r0 r1
        have E0 := Lib.hid (zS1 (u := (.slice A7 (k + 1 + 0) d7)) (zS0 (u := (.slice A8 n d8)) hr))
        refine rd1 8 (fun K hK => ?_)
        go_simp
        refine hK.out _ _ (rsS_set hX _ _) (fun zH => ?_)
        clear hK K
        try simp only [Act.put, sA, sB, sC]
        refine dn1 ?_
        have f0 := cell_of_row _ (w.heap.size + 1 + 1) 0 _ _ (0, 0) E0.out
        have f1 := cell_of_row _ (w.heap.size + 1 + 1) 1 _ _ (0, 0) E0.out
        simp at f0 f1
        have hz8 : w.heap.size + 3 ≤ u7.heap.size := Nat.le_trans hsz7 hgrow7.size
        have hne : ∀ q, (Value.slice A7 (k + 1 + 0) d7).ownBlock = some q → (Value.slice A8 n d8).ownBlock ≠ some q := fun q h1 h2 => by have a := (hlt7' q h1).2; have b := (ho8.lt q h2).1; omega
        have HT := Lib.hid (((TwoRows.mk (oMn ho8 hz8) hown7 (fun q h1 h2 => hne q h2 h1)).kept (set_grown u8 (w.heap.size + 1 + 1) 0 (.slice A8 n d8)) (by omega)).kept (set_grown _ (w.heap.size + 1 + 1) 1 (.slice A7 (k + 1 + 0) d7)) (by omega))
        have HB2 := Lib.hid ((hX.1.setCell (p := ⟨w.heap.size + 1 + 1, 0, none⟩) le2 (.slice A8 n d8)).setCell (p := ⟨w.heap.size + 1 + 1, 1, none⟩) le2 (.slice A7 (k + 1 + 0) d7))
        clear hown7 ho8 hX zH hr r0 r1
        go_wp2_with fail
        exact bodyPost_ret (v := .agg #[.slice A8 n d8, .slice A7 (k + 1 + 0) d7]) (by simp [results, Tryz.results71, go_sem, f0, f1]) rfl ⟨⟨_, _, rfl, rest_rows2_end HL.out hb.1 hk (HT.out.mono (by omega)), HSO8.out, HSO7.out⟩, HB2.out⟩
      · subst hck
        refine wp_region_held_drew (S := (fun w' => Below w.heap.size w w' ∧ w'.cell? ⟨w.heap.size, 0, none⟩ = some (.slice O1 n c) ∧ w'.cell? ⟨w.heap.size, 1, none⟩ = some (.slice (some a) k k) ∧ w.heap.size + 3 ≤ w'.heap.size ∧ ∃ x y, w'.heap[w.heap.size + 1 + 1]? = some (.cells #[x, y] 30 (0, 0)))) (by kernel_rfl) ?hSr92 (fun zH => ?restr92)
        case hSr92 => exact ⟨hbD6.drew, q0, q1, hs6, _, _, kr⟩
        refine tkV 0 ?_
        refine tkV 1 ?_
        refine tkV 2 ?_
        refine tkV 3 ?_
        refine tkV 4 ?_
        refine tkV 5 ?_
        refine rd1 6 (fun K hK => ?_)
        have hsz7 := zH.2.2.2.1
        (refine step_appX _ rfl _ _ rfl (w.heap.size + 3) (.slice A6 (k + 1) d6) rfl (k + 1) ((zb.take (k * 4)) ++ [oi, oa, op, oq]) (oBw hown6 (Below.refl _ w6).drew) _ 0 _ (fun e => by cases e) [] rfl w.heap.size (Lst.nil _ w.heap.size 4 _) (by omega) (by omega) hsz7 ?_; intro r7 u7 hown7 hgrow7 hat7)
        have hlt7 := hown6.lt
        refine hK.out _ _ (rsS_grown zH hgrow7 (fun q hq => (hlt7 q hq).1)) (fun zH => ?_)
        clear hK K
        try simp only [Act.put, sA, sB, sC]
        have HSO7 := Lib.hid (some_at hat7 HSO6.out)
        clear hat7
        obtain ⟨A7, d7, rfl, _, _⟩ := oSl hown7
        refine rd1 7 (fun K hK => ?_)
        go_simp
        go_at_call 64
        refine (spec_l2With2 _ _ _ _ _ _ za zb A7 _ d7 u7 ((ha.below zH.1).more zH.1.size) ((hb.below zH.1).more zH.1.size) (by omega) (by omega) hO1 hO2).mono ?_
        rintro e u8 ⟨⟨r8, rfl, ho8, hso8⟩, hb8⟩
        have hlt7' := hown7.lt
        refine hK.out _ _ (rsS_below zH hb8) (fun zH => ?_)
        clear hK K
        try simp only [Act.put, sA, sB, sC]
        have HSO8 := Lib.hid hso8
        clear hso8
        have hown7 := oBw hown7 hb8
        obtain ⟨A8, d8, rfl, _, _⟩ := oSl ho8
        have hX := zH
        obtain ⟨x, y, hr⟩ := hX.2.2.2.2
        have r0 := cell_of_row u8 (w.heap.size + 1 + 1) 0 _ _ (0, 0) hr
        have r1 := cell_of_row u8 (w.heap.size + 1 + 1) 1 _ _ (0, 0) hr
        have z0 := frozen_of_row u8 (w.heap.size + 1 + 1) 0 _ _ hr
        have z1 := frozen_of_row u8 (w.heap.size + 1 + 1) 1 _ _ hr
        simp at r0 r1
        have E0 := Lib.hid (zS1 (u := (.slice A7 (k + 1 + 0) d7)) (zS0 (u := (.slice A8 n d8)) hr))
        refine rd1 8 (fun K hK => ?_)
        go_simp
        refine hK.out _ _ (rsS_set hX _ _) (fun zH => ?_)
        clear hK K
        try simp only [Act.put, sA, sB, sC]
        refine dn1 ?_
        have f0 := cell_of_row _ (w.heap.size + 1 + 1) 0 _ _ (0, 0) E0.out
        have f1 := cell_of_row _ (w.heap.size + 1 + 1) 1 _ _ (0, 0) E0.out
        simp at f0 f1
        have hz8 : w.heap.size + 3 ≤ u7.heap.size := Nat.le_trans hsz7 hgrow7.size
        have hne : ∀ q, (Value.slice A7 (k + 1 + 0) d7).ownBlock = some q → (Value.slice A8 n d8).ownBlock ≠ some q := fun q h1 h2 => by have a := (hlt7' q h1).2; have b := (ho8.lt q h2).1; omega
        have HT := Lib.hid (((TwoRows.mk (oMn ho8 hz8) hown7 (fun q h1 h2 => hne q h2 h1)).kept (set_grown u8 (w.heap.size + 1 + 1) 0 (.slice A8 n d8)) (by omega)).kept (set_grown _ (w.heap.size + 1 + 1) 1 (.slice A7 (k + 1 + 0) d7)) (by omega))
        have HB2 := Lib.hid ((hX.1.setCell (p := ⟨w.heap.size + 1 + 1, 0, none⟩) le2 (.slice A8 n d8)).setCell (p := ⟨w.heap.size + 1 + 1, 1, none⟩) le2 (.slice A7 (k + 1 + 0) d7))
        clear hown7 ho8 hX zH hr r0 r1
        go_wp2_with fail
        exact bodyPost_ret (v := .agg #[.slice A8 n d8, .slice A7 (k + 1 + 0) d7]) (by simp [results, Tryz.results71, go_sem, f0, f1]) rfl ⟨⟨_, _, rfl, rest_rows2_end HL.out hb.1 hk (HT.out.mono (by omega)), HSO8.out, HSO7.out⟩, HB2.out⟩
end Go.Proofs.YtgjjdnojiegidaaGreatDoor
