/-
  The document's Rested.
-/
import Derived.Test.YthmoddohkchhfaaWith
import Derived.Test.YthmoddohkchhfaaRestedI
namespace Go.Proofs.Ythmoddohkchhfaa
open Go.RowKit Wire

def RsS (w : World) (v1 v2 : Value) (T : TypeId) (w' : World) : Prop := Below w.heap.size w w' ∧ w'.cell? ⟨w.heap.size, 0, none⟩ = some v1 ∧ w'.cell? ⟨w.heap.size, 1, none⟩ = some v2 ∧ w.heap.size + 3 ≤ w'.heap.size ∧ ∃ x y, w'.heap[w.heap.size + 1 + 1]? = some (.cells #[x, y] T (0, 0))
theorem rsS_grown {w W W' : World} {v1 v2 : Value} {T : TypeId} {row : Option Nat} (h : RsS w v1 v2 T W) (hg : W.grownBy W' row) (hr : ∀ q, row = some q → w.heap.size + 3 ≤ q) : RsS w v1 v2 T W' :=
  ⟨h.1.grown hg h.1.size (fun q hq => by have := hr q hq; omega), hg.cell h.2.1 (fun e => by have := hr _ e.symm; simp at this; omega), hg.cell h.2.2.1 (fun e => by have := hr _ e.symm; simp at this; omega), Nat.le_trans h.2.2.2.1 hg.size, by obtain ⟨x, y, hx⟩ := h.2.2.2.2; exact ⟨x, y, (hg.block _ (by have := h.2.2.2.1; omega) (fun e => by have := hr _ e.symm; omega)).trans hx⟩⟩
theorem rsS_below {w W W' : World} {v1 v2 : Value} {T : TypeId} (h : RsS w v1 v2 T W) (hb : Below W.heap.size W W') : RsS w v1 v2 T W' :=
  rsS_grown h (row := none) ⟨hb.os, hb.tape, hb.output, hb.size, fun k hk _ => hb.block k hk⟩ (fun q e => by cases e)
theorem rsS_set {w W : World} {v1 v2 : Value} {T : TypeId} (h : RsS w v1 v2 T W) (x y : Value) : RsS w v1 v2 T ((W.setCell ⟨w.heap.size + 1 + 1, 0, none⟩ x).setCell ⟨w.heap.size + 1 + 1, 1, none⟩ y) :=
  ⟨(h.1.setCell (p := ⟨w.heap.size + 1 + 1, 0, none⟩) (show w.heap.size ≤ w.heap.size + 1 + 1 by omega) x).setCell (p := ⟨w.heap.size + 1 + 1, 1, none⟩) (show w.heap.size ≤ w.heap.size + 1 + 1 by omega) y, (World.cell?_setCell_far _ _ _ _ (show w.heap.size + 1 + 1 ≠ w.heap.size by omega)).trans ((World.cell?_setCell_far _ _ _ _ (show w.heap.size + 1 + 1 ≠ w.heap.size by omega)).trans h.2.1), (World.cell?_setCell_far _ _ _ _ (show w.heap.size + 1 + 1 ≠ w.heap.size by omega)).trans ((World.cell?_setCell_far _ _ _ _ (show w.heap.size + 1 + 1 ≠ w.heap.size by omega)).trans h.2.2.1), by simpa [World.setCell] using h.2.2.2.1, by obtain ⟨a, b, hr⟩ := h.2.2.2.2; exact ⟨_, _, heap_set1 (heap_set0 hr)⟩⟩
theorem some_addr {A : Option Addr} {n c : Nat} (h : (Value.slice A n c).ownBlock.isSome = true) : ∃ a, A = some a := by
  cases A with
  | none => simp [Value.ownBlock] at h
  | some a => exact ⟨a, rfl⟩
theorem Lst.take {w : World} {B n k : Nat} {A : Option Addr} {zs : List Int} (h : Lst w B 4 A n zs) (hk : k ≤ n) : Lst w B 4 A k (zs.take (k * 4)) := by
  refine ⟨by have := h.1; simp; omega, fun h0 => ?_⟩
  obtain ⟨b, o, e, hb, hc⟩ := h.2 (by omega)
  refine ⟨b, o, e, hb, fun j hj => ?_⟩
  rw [hc j (by omega)]
  unfold num
  rw [List.getD_eq_getElem?_getD, List.getD_eq_getElem?_getD, List.getElem?_take, if_pos hj]
theorem Lst.drop {w : World} {B n k b o : Nat} {zs : List Int} (h : Lst w B 4 (some ⟨b, o, none⟩) n zs) (hk : k ≤ n) : Lst w B 4 (some ⟨b, o + k * 4, none⟩) (n - k) (zs.drop (k * 4)) := by
  refine ⟨by have := h.1; simp; omega, fun h0 => ?_⟩
  obtain ⟨b', o', e, hb, hc⟩ := h.2 (by omega)
  injection e with e
  injection e with e1 e2
  subst e1 e2
  refine ⟨_, _, rfl, hb, fun j hj => ?_⟩
  rw [Nat.add_assoc, hc (k * 4 + j) (by omega)]
  unfold num
  rw [List.getD_eq_getElem?_getD, List.getD_eq_getElem?_getD, List.getElem?_drop]
/-- a row is appended to, the source nil or not -/
theorem wpList_app_atO {P : Program} (w : World) {ops : Array Oper} {rest : List Oper} {o : Oper} {a : Act} {Q : Exit → Act → World → Prop} (hgd : o.guard = none) (s x : Operand) (t : TypeId)
    (ho : o.op = .call { callee := .builtin .append, args := #[s, x], argTypes := #[t, t] })
    (base : Nat) (e : TypeId) (i : TypeInfo) (z : Value) (size bytes : Nat) (ht : P.underlying t = some (.slice e)) (hi : P.info? e = some i) (hz : i.zero = some z)
    (hsize : i.size = size) (hby : i.bytes = bytes) (hzs : z.cells.size = size) (hsz : 0 < size)
    (v : Value) (n : Nat) (xs : List Value) (hs : a.eval s = v) (hown : w.ownsRow base e size v n xs)
    (A : Option Addr) (m c : Nat) (hA : A = none → m = 0 ∧ c = 0) (news : List Value) (hx : a.eval x = .slice A m c) (hl : news.length = m * size) (hnews : ∀ ad, A = some ad → ∀ j u, news[j]? = some u → w.cell? (ad.add j) = some u) (h1 : ∀ u ∈ news, u.oneCell' = true)
    (h63 : n + m ≤ maxLen) (hbytes : (n + m) * bytes ≤ 140737488355328) (hbase : base ≤ w.heap.size)
    (h : ∀ v' w', w'.ownsRow base e size v' (n + m) (xs ++ news) → w.grownBy w' v.ownBlock → (v'.ownBlock = v.ownBlock ∨ v'.ownBlock = some w.heap.size) → wpList P ops Q rest (a.put o.dst v') w') :
    wpList P ops Q (o :: rest) a w := by
  cases A with
  | some ad => exact wpList_append_own_at w hgd s x t ho base e i z size bytes ht hi hz hsize hby hzs hsz v n xs hs hown ad m c news hx hl (hnews ad rfl) h1 h63 hbytes hbase fun v' w' h2 h3 _ h5 => h v' w' h2 h3 h5
  | none =>
    obtain ⟨rfl, rfl⟩ := hA rfl
    have hr := run_append_owned_none (P := P) (w := w) base t o.type e i size ht hi v n xs hown
    have e0 : news = [] := List.eq_nil_of_length_eq_zero (by rw [hl]; omega)
    subst e0
    refine wpList_plain hgd fun K hK => ?_
    unfold Oper.wp execOp
    simp only [ho, resolve, invoke, builtin, Sem.run_bind, Sem.run_pure, Result.andThen_ok, List.map_toArray, List.map_cons, List.map_nil, hs, hx, hr]
    exact hK _ _ (h v w (by simpa using hown) (World.grownBy.refl _ _) (.inl rfl))
/-- a row of orders is appended to: one operation of a region -/
theorem step_appX (w : World) {ops : Array Oper} {o : Oper} {a : Act} {K : Act → World → Prop} {Q : Exit → Act → World → Prop} {E : Prop} (hgd : o.guard = none) (s x : Operand) (ho : o.op = .call { callee := .builtin .append, args := #[s, x], argTypes := #[46, 46] })
    (base : Nat) (v : Value) (hs : a.eval s = v) (k : Nat) (ys : List Int) (hown : w.ownsRow base 64 4 v k (nums ys)) (A : Option Addr) (m c : Nat) (hA : A = none → m = 0 ∧ c = 0) (zs : List Int) (hx : a.eval x = .slice A m c) (B : Nat) (hl : Lst w B 4 A m zs) (hm : m ≤ 1048576) (hk : k ≤ 2097152) (hbase : base ≤ w.heap.size)
    (h : ∀ v' w', w'.ownsRow base 64 4 v' (k + m) (nums (ys ++ zs)) → w.grownBy w' v.ownBlock → (v'.ownBlock = v.ownBlock ∨ v'.ownBlock = some w.heap.size) → K (a.put o.dst v') w') :
    if Region.wanted o (yielded ops a.tmps) = true then Oper.wp Try.prog o a w K Q else E := by
  obtain ⟨i0, hi, hz0, hz1, hz2⟩ := info_parts ord_info
  rw [if_pos (by simp [Region.wanted, hgd])]
  cases A with
  | some ad =>
    obtain ⟨v', w', hr, h2, h3, _, h5⟩ := run_append_own_at (P := Try.prog) w base 46 o.type 64 i0 _ 4 32 Try.underlying46 hi hz0 hz1 hz2 rfl (by decide) v k (nums ys) hown ad m c (nums zs) (by rw [nums_length]; exact hl.1) hl.news (nums_one _) (by unfold maxLen; omega) (by omega) hbase
    rw [← nums_append] at h2
    unfold Oper.wp execOp
    simp only [ho, resolve, invoke, builtin, Sem.run_bind, Sem.run_pure, Result.andThen_ok, List.map_toArray, List.map_cons, List.map_nil, hs, hx, hr]
    exact h v' w' h2 h3 h5
  | none =>
    obtain ⟨rfl, rfl⟩ := hA rfl
    have e0 : zs = [] := List.eq_nil_of_length_eq_zero (by have := hl.1; omega)
    subst e0
    have hr := run_append_owned_none (P := Try.prog) (w := w) base 46 o.type 64 i0 4 Try.underlying46 hi v k (nums ys) hown
    unfold Oper.wp execOp
    simp only [ho, resolve, invoke, builtin, Sem.run_bind, Sem.run_pure, Result.andThen_ok, List.map_toArray, List.map_cons, List.map_nil, hs, hx, hr]
    exact h v w (by rw [List.append_nil]; exact hown) (World.grownBy.refl _ _) (.inl rfl)
theorem rest_rows1 {w : World} {base n k m : Nat} {op oi oa oq : Int} {za zb : List Int} {v1 v2 : Value} (hk : restI 1 op za n = k) (_ : za.length = n * 4) (hkn : k ≤ n) (h : TwoRows w base v1 (k + 1 + (n - k)) (za.take (k * 4) ++ [oi, oa, op, oq] ++ za.drop (k * 4)) v2 m zb) :
    TwoRows w base v1 (restN1 1 n) (rest1 1 op za n [oi, oa, op, oq]) v2 (restN2 1 m) (rest2 1 op zb m [oi, oa, op, oq]) := by
  have e : k + 1 + (n - k) = n + 1 := by omega
  rw [e] at h
  unfold restN1 rest1 restN2 rest2 insZ
  rw [hk]
  exact h
theorem rest_rows1_end {w : World} {base k m : Nat} {op oi oa oq : Int} {za zb : List Int} {v1 v2 : Value} (hk : restI 1 op za k = k) (hz : za.length = k * 4) (_ : k ≤ k) (h : TwoRows w base v1 (k + 1 + 0) (za.take (k * 4) ++ [oi, oa, op, oq] ++ []) v2 m zb) :
    TwoRows w base v1 (restN1 1 k) (rest1 1 op za k [oi, oa, op, oq]) v2 (restN2 1 m) (rest2 1 op zb m [oi, oa, op, oq]) := by
  have e : za.drop (k * 4) = [] := List.drop_eq_nil_of_le (by omega)
  unfold restN1 rest1 restN2 rest2 insZ
  rw [hk, e]
  exact h
theorem rest_rows2 {w : World} {base n k m : Nat} {op oi oa oq : Int} {za zb : List Int} {v1 v2 : Value} (hk : restI 2 op zb m = k) (_ : zb.length = m * 4) (hkn : k ≤ m) (h : TwoRows w base v1 n za v2 (k + 1 + (m - k)) (zb.take (k * 4) ++ [oi, oa, op, oq] ++ zb.drop (k * 4))) :
    TwoRows w base v1 (restN1 2 n) (rest1 2 op za n [oi, oa, op, oq]) v2 (restN2 2 m) (rest2 2 op zb m [oi, oa, op, oq]) := by
  have e : k + 1 + (m - k) = m + 1 := by omega
  rw [e] at h
  unfold restN1 rest1 restN2 rest2 insZ
  rw [hk]
  exact h
theorem rest_rows2_end {w : World} {base k n : Nat} {op oi oa oq : Int} {za zb : List Int} {v1 v2 : Value} (hk : restI 2 op zb k = k) (hz : zb.length = k * 4) (_ : k ≤ k) (h : TwoRows w base v1 n za v2 (k + 1 + 0) (zb.take (k * 4) ++ [oi, oa, op, oq] ++ [])) :
    TwoRows w base v1 (restN1 2 n) (rest1 2 op za n [oi, oa, op, oq]) v2 (restN2 2 k) (rest2 2 op zb k [oi, oa, op, oq]) := by
  have e : zb.drop (k * 4) = [] := List.drop_eq_nil_of_le (by omega)
  unfold restN1 rest1 restN2 rest2 insZ
  rw [hk, e]
  exact h
set_option linter.unusedSimpArgs false in
set_option linter.unusedVariables false in
set_option maxHeartbeats 3200000 in
set_option maxRecDepth 100000 in
theorem spec_l2With1 (O1 : Option Addr) (n c : Nat) (O2 : Option Addr) (m d : Nat) (za zb : List Int) (A3 : Option Addr) (n3 c3 : Nat) (w : World) (ha : Lst w w.heap.size 4 O1 n za) (hb : Lst w w.heap.size 4 O2 m zb) (hn : n ≤ 1048576) (hm : m ≤ 1048576) (hO1 : O1 = none → n = 0 ∧ c = 0) (hO2 : O2 = none → m = 0 ∧ d = 0) :
    Calls Try.prog 139 #[.agg #[.slice O1 n c, .slice O2 m d], .int .i64 1, .slice A3 n3 c3] w fun e w' => (∃ r, e = .returned (.agg #[.slice A3 n3 c3, r]) ∧ w'.ownsRow w.heap.size 64 4 r m (nums zb) ∧ r.ownBlock.isSome = true) ∧ Below w.heap.size w w' := by
  obtain ⟨k0, k1⟩ := two_blocks w (.cells #[.slice O1 n c, .slice O2 m d] 48) (.cells #[.slice none 0 0, .slice none 0 0] 48)
  have hb0 : Below w.heap.size w ((w.alloc (.cells #[.slice O1 n c, .slice O2 m d] 48)).alloc (.cells #[.slice none 0 0, .slice none 0 0] 48)) := ((Below.refl _ _).alloc (Nat.le_refl _) _).alloc (by simp) _
  have hs0 : ((w.alloc (.cells #[.slice O1 n c, .slice O2 m d] 48)).alloc (.cells #[.slice none 0 0, .slice none 0 0] 48)).heap.size = w.heap.size + 2 := by simp
  have p0 := cell_of_row ((w.alloc (.cells #[.slice O1 n c, .slice O2 m d] 48)).alloc (.cells #[.slice none 0 0, .slice none 0 0] 48)) w.heap.size 0 _ _ (0, 0) k0
  have p1 := cell_of_row ((w.alloc (.cells #[.slice O1 n c, .slice O2 m d] 48)).alloc (.cells #[.slice none 0 0, .slice none 0 0] 48)) w.heap.size 1 _ _ (0, 0) k0
  simp at p0 p1
  go_enter Try.func139, Try.ntmps139
  go_wp2_with fail
  generalize ((w.alloc (.cells #[.slice O1 n c, .slice O2 m d] 48)).alloc (.cells #[.slice none 0 0, .slice none 0 0] 48)) = w0 at *
  refine (spec_l2CopyO O1 n c O2 m d za zb w0 ((ha.below hb0).more hb0.size) ((hb.below hb0).more hb0.size) hn hm hO1 hO2).mono ?_
  rintro e w1 ⟨⟨r1, r2, rfl, TR, hso1, hso2⟩, hb1⟩
  obtain ⟨A1, d1, A2, d2, rfl, rfl⟩ := TR.slices
  have k1 := (hb1.block (w.heap.size + 1) (by omega)).trans k1
  have hs1 : w.heap.size + 2 ≤ w1.heap.size := by have := hb1.size; omega
  have hbD := hb0.trans (hb1.mono hb0.size)
  have hlt := TR.two.lt
  have hbb : Below w1.heap.size w1 (w1.alloc (.cells #[(.slice A3 n3 c3), (.slice A2 m d2)] 48)) := (Below.refl _ _).alloc (Nat.le_refl _) _
  have k1 := (hbb.block (w.heap.size + 1) (by omega)).trans k1
  have TR := TR.below hbb
  have hbD := hbD.trans (hbb.mono hbD.size)
  have hR := own_mono (base' := w.heap.size + 2) TR.two (by omega)
  have e0 := cell_of_row _ (w.heap.size + 1) 0 _ _ (0, 0) k1
  have e1 := cell_of_row _ (w.heap.size + 1) 1 _ _ (0, 0) k1
  have z0 := frozen_of_row _ (w.heap.size + 1) 0 _ _ k1
  have z1 := frozen_of_row _ (w.heap.size + 1) 1 _ _ k1
  simp at e0 e1
  have E0 := Lib.hid (heap_set1 (u := (.slice A2 m d2)) (heap_set0 (u := (.slice A3 n3 c3)) k1))
  have HSO := Lib.hid hso2
  clear hso1 hso2
  have HR := Lib.hid ((hR.kept (set_grown _ (w.heap.size + 1) 0 (.slice A3 n3 c3)) (.inr (fun e => by have := (hR.lt _ e).1; omega))).kept (set_grown _ (w.heap.size + 1) 1 (.slice A2 m d2)) (.inr (fun e => by have := (hR.lt _ e).1; omega)))
  have HB := Lib.hid ((hbD.setCell (p := ⟨w.heap.size + 1, 0, none⟩) (show w.heap.size ≤ w.heap.size + 1 by omega) (.slice A3 n3 c3)).setCell (p := ⟨w.heap.size + 1, 1, none⟩) (show w.heap.size ≤ w.heap.size + 1 by omega) (.slice A2 m d2))
  clear TR hR hbD k1 hb0 hs0 hb1 hbb p0 p1 k0
  go_wp2_with fail
  have c0 := cell_of_row _ (w.heap.size + 1) 0 _ _ (0, 0) E0.out
  have c1 := cell_of_row _ (w.heap.size + 1) 1 _ _ (0, 0) E0.out
  simp at c0 c1
  exact bodyPost_ret (v := .agg #[.slice A3 n3 c3, .slice A2 m d2]) (by simp [results, Try.results139, go_sem, c0, c1]) rfl ⟨⟨_, rfl, own_mono HR.out (by omega), HSO.out⟩, HB.out⟩
set_option linter.unusedSimpArgs false in
set_option linter.unusedVariables false in
set_option maxHeartbeats 3200000 in
set_option maxRecDepth 100000 in
theorem spec_l2With2 (O1 : Option Addr) (n c : Nat) (O2 : Option Addr) (m d : Nat) (za zb : List Int) (A3 : Option Addr) (n3 c3 : Nat) (w : World) (ha : Lst w w.heap.size 4 O1 n za) (hb : Lst w w.heap.size 4 O2 m zb) (hn : n ≤ 1048576) (hm : m ≤ 1048576) (hO1 : O1 = none → n = 0 ∧ c = 0) (hO2 : O2 = none → m = 0 ∧ d = 0) :
    Calls Try.prog 139 #[.agg #[.slice O1 n c, .slice O2 m d], .int .i64 2, .slice A3 n3 c3] w fun e w' => (∃ r, e = .returned (.agg #[r, .slice A3 n3 c3]) ∧ w'.ownsRow w.heap.size 64 4 r n (nums za) ∧ r.ownBlock.isSome = true) ∧ Below w.heap.size w w' := by
  obtain ⟨k0, k1⟩ := two_blocks w (.cells #[.slice O1 n c, .slice O2 m d] 48) (.cells #[.slice none 0 0, .slice none 0 0] 48)
  have hb0 : Below w.heap.size w ((w.alloc (.cells #[.slice O1 n c, .slice O2 m d] 48)).alloc (.cells #[.slice none 0 0, .slice none 0 0] 48)) := ((Below.refl _ _).alloc (Nat.le_refl _) _).alloc (by simp) _
  have hs0 : ((w.alloc (.cells #[.slice O1 n c, .slice O2 m d] 48)).alloc (.cells #[.slice none 0 0, .slice none 0 0] 48)).heap.size = w.heap.size + 2 := by simp
  have p0 := cell_of_row ((w.alloc (.cells #[.slice O1 n c, .slice O2 m d] 48)).alloc (.cells #[.slice none 0 0, .slice none 0 0] 48)) w.heap.size 0 _ _ (0, 0) k0
  have p1 := cell_of_row ((w.alloc (.cells #[.slice O1 n c, .slice O2 m d] 48)).alloc (.cells #[.slice none 0 0, .slice none 0 0] 48)) w.heap.size 1 _ _ (0, 0) k0
  simp at p0 p1
  go_enter Try.func139, Try.ntmps139
  go_wp2_with fail
  generalize ((w.alloc (.cells #[.slice O1 n c, .slice O2 m d] 48)).alloc (.cells #[.slice none 0 0, .slice none 0 0] 48)) = w0 at *
  refine (spec_l2CopyO O1 n c O2 m d za zb w0 ((ha.below hb0).more hb0.size) ((hb.below hb0).more hb0.size) hn hm hO1 hO2).mono ?_
  rintro e w1 ⟨⟨r1, r2, rfl, TR, hso1, hso2⟩, hb1⟩
  obtain ⟨A1, d1, A2, d2, rfl, rfl⟩ := TR.slices
  have k1 := (hb1.block (w.heap.size + 1) (by omega)).trans k1
  have hs1 : w.heap.size + 2 ≤ w1.heap.size := by have := hb1.size; omega
  have hbD := hb0.trans (hb1.mono hb0.size)
  have hlt := TR.one.lt
  have hbb : Below w1.heap.size w1 (w1.alloc (.cells #[(.slice A1 n d1), (.slice A3 n3 c3)] 48)) := (Below.refl _ _).alloc (Nat.le_refl _) _
  have k1 := (hbb.block (w.heap.size + 1) (by omega)).trans k1
  have TR := TR.below hbb
  have hbD := hbD.trans (hbb.mono hbD.size)
  have hR := own_mono (base' := w.heap.size + 2) TR.one (by omega)
  have e0 := cell_of_row _ (w.heap.size + 1) 0 _ _ (0, 0) k1
  have e1 := cell_of_row _ (w.heap.size + 1) 1 _ _ (0, 0) k1
  have z0 := frozen_of_row _ (w.heap.size + 1) 0 _ _ k1
  have z1 := frozen_of_row _ (w.heap.size + 1) 1 _ _ k1
  simp at e0 e1
  have E0 := Lib.hid (heap_set1 (u := (.slice A3 n3 c3)) (heap_set0 (u := (.slice A1 n d1)) k1))
  have HSO := Lib.hid hso1
  clear hso1 hso2
  have HR := Lib.hid ((hR.kept (set_grown _ (w.heap.size + 1) 0 (.slice A1 n d1)) (.inr (fun e => by have := (hR.lt _ e).1; omega))).kept (set_grown _ (w.heap.size + 1) 1 (.slice A3 n3 c3)) (.inr (fun e => by have := (hR.lt _ e).1; omega)))
  have HB := Lib.hid ((hbD.setCell (p := ⟨w.heap.size + 1, 0, none⟩) (show w.heap.size ≤ w.heap.size + 1 by omega) (.slice A1 n d1)).setCell (p := ⟨w.heap.size + 1, 1, none⟩) (show w.heap.size ≤ w.heap.size + 1 by omega) (.slice A3 n3 c3))
  clear TR hR hbD k1 hb0 hs0 hb1 hbb p0 p1 k0
  go_wp2_with fail
  have c0 := cell_of_row _ (w.heap.size + 1) 0 _ _ (0, 0) E0.out
  have c1 := cell_of_row _ (w.heap.size + 1) 1 _ _ (0, 0) E0.out
  simp at c0 c1
  exact bodyPost_ret (v := .agg #[.slice A1 n d1, .slice A3 n3 c3]) (by simp [results, Try.results139, go_sem, c0, c1]) rfl ⟨⟨_, rfl, own_mono HR.out (by omega), HSO.out⟩, HB.out⟩
end Go.Proofs.Ythmoddohkchhfaa
