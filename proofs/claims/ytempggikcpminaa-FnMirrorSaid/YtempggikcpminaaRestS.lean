/-
  The document's Rested.
-/
import Derived.Test.YtempggikcpminaaWith
import Derived.Test.YtempggikcpminaaRestedI
namespace Go.Proofs.Ytempggikcpminaa
open Go.RowKit Wire

def RsS (w : World) (v1 v2 : Value) (T : TypeId) (w' : World) : Prop := Below w.heap.size w w' ∧ w'.cell? ⟨w.heap.size, 0, none⟩ = some v1 ∧ w'.cell? ⟨w.heap.size, 1, none⟩ = some v2 ∧ w.heap.size + 3 ≤ w'.heap.size ∧ ∃ x y, w'.heap[w.heap.size + 1 + 1]? = some (.cells #[x, y] T (0, 0))
theorem rsS_grown {w W W' : World} {v1 v2 : Value} {T : TypeId} {row : Option Nat} (h : RsS w v1 v2 T W) (hg : W.grownBy W' row) (hr : ∀ q, row = some q → w.heap.size + 3 ≤ q) : RsS w v1 v2 T W' :=
  ⟨h.1.grown hg h.1.size (fun q hq => by have := hr q hq; omega), hg.cell h.2.1 (fun e => by have := hr _ e.symm; simp at this; omega), hg.cell h.2.2.1 (fun e => by have := hr _ e.symm; simp at this; omega), Nat.le_trans h.2.2.2.1 hg.size, by obtain ⟨x, y, hx⟩ := h.2.2.2.2; exact ⟨x, y, (hg.block _ (by have := h.2.2.2.1; omega) (fun e => by have := hr _ e.symm; omega)).trans hx⟩⟩
theorem rsS_below {w W W' : World} {v1 v2 : Value} {T : TypeId} (h : RsS w v1 v2 T W) (hb : Below W.heap.size W W') : RsS w v1 v2 T W' :=
  rsS_grown h (row := none) ⟨hb.os, hb.tape, hb.output, hb.size, fun k hk _ => hb.block k hk⟩ (fun q e => by cases e)
theorem rsS_set {w W : World} {v1 v2 : Value} {T : TypeId} (h : RsS w v1 v2 T W) (x y : Value) : RsS w v1 v2 T ((W.setCell ⟨w.heap.size + 1 + 1, 0, none⟩ x).setCell ⟨w.heap.size + 1 + 1, 1, none⟩ y) :=
  ⟨(h.1.setCell (p := ⟨w.heap.size + 1 + 1, 0, none⟩) (show w.heap.size ≤ w.heap.size + 1 + 1 by omega) x).setCell (p := ⟨w.heap.size + 1 + 1, 1, none⟩) (show w.heap.size ≤ w.heap.size + 1 + 1 by omega) y, (World.cell?_setCell_far _ _ _ _ (show w.heap.size + 1 + 1 ≠ w.heap.size by omega)).trans ((World.cell?_setCell_far _ _ _ _ (show w.heap.size + 1 + 1 ≠ w.heap.size by omega)).trans h.2.1), (World.cell?_setCell_far _ _ _ _ (show w.heap.size + 1 + 1 ≠ w.heap.size by omega)).trans ((World.cell?_setCell_far _ _ _ _ (show w.heap.size + 1 + 1 ≠ w.heap.size by omega)).trans h.2.2.1), by simpa [World.setCell] using h.2.2.2.1, by obtain ⟨a, b, hr⟩ := h.2.2.2.2; exact ⟨_, _, heap_set1 (heap_set0 hr)⟩⟩
theorem some_addr {A : Option Addr} {n c : Nat} (h : (Value.slice A n c).ownBlock.isSome = true) : ∃ a, A = some a := by
  cases A with
  | none => simp [Value.ownBlock] at h
  | some a => exact ⟨a, rfl⟩
theorem Lst.take {w : World} {B n k : Nat} {A : Option Addr} {zs : List Int} (h : Lst w B 4 A n zs) (hk : k ≤ n) : Lst w B 4 A k (zs.take (k * 4)) := by
  refine ⟨by have := h.1; simp; omega, fun h0 => ?_⟩
  obtain ⟨b, o, e, hb, hc⟩ := h.2 (by omega)
  refine ⟨b, o, e, hb, fun j hj => ?_⟩
  rw [hc j (by omega)]
  unfold num
  rw [List.getD_eq_getElem?_getD, List.getD_eq_getElem?_getD, List.getElem?_take, if_pos hj]
theorem Lst.drop {w : World} {B n k b o : Nat} {zs : List Int} (h : Lst w B 4 (some ⟨b, o, none⟩) n zs) (hk : k ≤ n) : Lst w B 4 (some ⟨b, o + k * 4, none⟩) (n - k) (zs.drop (k * 4)) := by
  refine ⟨by have := h.1; simp; omega, fun h0 => ?_⟩
  obtain ⟨b', o', e, hb, hc⟩ := h.2 (by omega)
  injection e with e
  injection e with e1 e2
  subst e1 e2
  refine ⟨_, _, rfl, hb, fun j hj => ?_⟩
  rw [Nat.add_assoc, hc (k * 4 + j) (by omega)]
  unfold num
  rw [List.getD_eq_getElem?_getD, List.getD_eq_getElem?_getD, List.getElem?_drop]
/-- a row is appended to, the source nil or not -/
theorem wpList_app_atO {P : Program} (w : World) {ops : Array Oper} {rest : List Oper} {o : Oper} {a : Act} {Q : Exit → Act → World → Prop} (hgd : o.guard = none) (s x : Operand) (t : TypeId)
    (ho : o.op = .call { callee := .builtin .append, args := #[s, x], argTypes := #[t, t] })
    (base : Nat) (e : TypeId) (i : TypeInfo) (z : Value) (size bytes : Nat) (ht : P.underlying t = some (.slice e)) (hi : P.info? e = some i) (hz : i.zero = some z)
    (hsize : i.size = size) (hby : i.bytes = bytes) (hzs : z.cells.size = size) (hsz : 0 < size)
    (v : Value) (n : Nat) (xs : List Value) (hs : a.eval s = v) (hown : w.ownsRow base e size v n xs)
    (A : Option Addr) (m c : Nat) (hA : A = none → m = 0 ∧ c = 0) (news : List Value) (hx : a.eval x = .slice A m c) (hl : news.length = m * size) (hnews : ∀ ad, A = some ad → ∀ j u, news[j]? = some u → w.cell? (ad.add j) = some u) (h1 : ∀ u ∈ news, u.oneCell' = true)
    (h63 : n + m ≤ maxLen) (hbytes : (n + m) * bytes ≤ 140737488355328) (hbase : base ≤ w.heap.size)
    (h : ∀ v' w', w'.ownsRow base e size v' (n + m) (xs ++ news) → w.grownBy w' v.ownBlock → (v'.ownBlock = v.ownBlock ∨ v'.ownBlock = some w.heap.size) → wpList P ops Q rest (a.put o.dst v') w') :
    wpList P ops Q (o :: rest) a w := by
  cases A with
  | some ad => exact wpList_append_own_at w hgd s x t ho base e i z size bytes ht hi hz hsize hby hzs hsz v n xs hs hown ad m c news hx hl (hnews ad rfl) h1 h63 hbytes hbase fun v' w' h2 h3 _ h5 => h v' w' h2 h3 h5
  | none =>
    obtain ⟨rfl, rfl⟩ := hA rfl
    have hr := run_append_owned_none (P := P) (w := w) base t o.type e i size ht hi v n xs hown
    have e0 : news = [] := List.eq_nil_of_length_eq_zero (by rw [hl]; omega)
    subst e0
    refine wpList_plain hgd fun K hK => ?_
    unfold Oper.wp execOp
    simp only [ho, resolve, invoke, builtin, Sem.run_bind, Sem.run_pure, Result.andThen_ok, List.map_toArray, List.map_cons, List.map_nil, hs, hx, hr]
    exact hK _ _ (h v w (by simpa using hown) (World.grownBy.refl _ _) (.inl rfl))
/-- a row of orders is appended to: one operation of a region -/
theorem step_appX (w : World) {ops : Array Oper} {o : Oper} {a : Act} {K : Act → World → Prop} {Q : Exit → Act → World → Prop} {E : Prop} (hgd : o.guard = none) (s x : Operand) (ho : o.op = .call { callee := .builtin .append, args := #[s, x], argTypes := #[24, 24] })
    (base : Nat) (v : Value) (hs : a.eval s = v) (k : Nat) (ys : List Int) (hown : w.ownsRow base 28 4 v k (nums ys)) (A : Option Addr) (m c : Nat) (hA : A = none → m = 0 ∧ c = 0) (zs : List Int) (hx : a.eval x = .slice A m c) (B : Nat) (hl : Lst w B 4 A m zs) (hm : m ≤ 1048576) (hk : k ≤ 2097152) (hbase : base ≤ w.heap.size)
    (h : ∀ v' w', w'.ownsRow base 28 4 v' (k + m) (nums (ys ++ zs)) → w.grownBy w' v.ownBlock → (v'.ownBlock = v.ownBlock ∨ v'.ownBlock = some w.heap.size) → K (a.put o.dst v') w') :
    if Region.wanted o (yielded ops a.tmps) = true then Oper.wp Try.prog o a w K Q else E := by
  obtain ⟨i0, hi, hz0, hz1, hz2⟩ := info_parts ord_info
  rw [if_pos (by simp [Region.wanted, hgd])]
  cases A with
  | some ad =>
    obtain ⟨v', w', hr, h2, h3, _, h5⟩ := run_append_own_at (P := Try.prog) w base 24 o.type 28 i0 _ 4 32 Try.underlying24 hi hz0 hz1 hz2 rfl (by decide) v k (nums ys) hown ad m c (nums zs) (by rw [nums_length]; exact hl.1) hl.news (nums_one _) (by unfold maxLen; omega) (by omega) hbase
    rw [← nums_append] at h2
    unfold Oper.wp execOp
    simp only [ho, resolve, invoke, builtin, Sem.run_bind, Sem.run_pure, Result.andThen_ok, List.map_toArray, List.map_cons, List.map_nil, hs, hx, hr]
    exact h v' w' h2 h3 h5
  | none =>
    obtain ⟨rfl, rfl⟩ := hA rfl
    have e0 : zs = [] := List.eq_nil_of_length_eq_zero (by have := hl.1; omega)
    subst e0
    have hr := run_append_owned_none (P := Try.prog) (w := w) base 24 o.type 28 i0 4 Try.underlying24 hi v k (nums ys) hown
    unfold Oper.wp execOp
    simp only [ho, resolve, invoke, builtin, Sem.run_bind, Sem.run_pure, Result.andThen_ok, List.map_toArray, List.map_cons, List.map_nil, hs, hx, hr]
    exact h v w (by rw [List.append_nil]; exact hown) (World.grownBy.refl _ _) (.inl rfl)
theorem rest_rows1 {w : World} {base n k m : Nat} {op oi oa oq : Int} {za zb : List Int} {v1 v2 : Value} (hk : restI 1 op za n = k) (_ : za.length = n * 4) (hkn : k ≤ n) (h : TwoRows w base v1 (k + 1 + (n - k)) (za.take (k * 4) ++ [oi, oa, op, oq] ++ za.drop (k * 4)) v2 m zb) :
    TwoRows w base v1 (restN1 1 n) (rest1 1 op za n [oi, oa, op, oq]) v2 (restN2 1 m) (rest2 1 op zb m [oi, oa, op, oq]) := by
  have e : k + 1 + (n - k) = n + 1 := by omega
  rw [e] at h
  unfold restN1 rest1 restN2 rest2 insZ
  rw [hk]
  exact h
theorem rest_rows1_end {w : World} {base k m : Nat} {op oi oa oq : Int} {za zb : List Int} {v1 v2 : Value} (hk : restI 1 op za k = k) (hz : za.length = k * 4) (_ : k ≤ k) (h : TwoRows w base v1 (k + 1 + 0) (za.take (k * 4) ++ [oi, oa, op, oq] ++ []) v2 m zb) :
    TwoRows w base v1 (restN1 1 k) (rest1 1 op za k [oi, oa, op, oq]) v2 (restN2 1 m) (rest2 1 op zb m [oi, oa, op, oq]) := by
  have e : za.drop (k * 4) = [] := List.drop_eq_nil_of_le (by omega)
  unfold restN1 rest1 restN2 rest2 insZ
  rw [hk, e]
  exact h
theorem rest_rows2 {w : World} {base n k m : Nat} {op oi oa oq : Int} {za zb : List Int} {v1 v2 : Value} (hk : restI 2 op zb m = k) (_ : zb.length = m * 4) (hkn : k ≤ m) (h : TwoRows w base v1 n za v2 (k + 1 + (m - k)) (zb.take (k * 4) ++ [oi, oa, op, oq] ++ zb.drop (k * 4))) :
    TwoRows w base v1 (restN1 2 n) (rest1 2 op za n [oi, oa, op, oq]) v2 (restN2 2 m) (rest2 2 op zb m [oi, oa, op, oq]) := by
  have e : k + 1 + (m - k) = m + 1 := by omega
  rw [e] at h
  unfold restN1 rest1 restN2 rest2 insZ
  rw [hk]
  exact h
theorem rest_rows2_end {w : World} {base k n : Nat} {op oi oa oq : Int} {za zb : List Int} {v1 v2 : Value} (hk : restI 2 op zb k = k) (hz : zb.length = k * 4) (_ : k ≤ k) (h : TwoRows w base v1 n za v2 (k + 1 + 0) (zb.take (k * 4) ++ [oi, oa, op, oq] ++ [])) :
    TwoRows w base v1 (restN1 2 n) (rest1 2 op za n [oi, oa, op, oq]) v2 (restN2 2 k) (rest2 2 op zb k [oi, oa, op, oq]) := by
  have e : zb.drop (k * 4) = [] := List.drop_eq_nil_of_le (by omega)
  unfold restN1 rest1 restN2 rest2 insZ
  rw [hk, e]
  exact h
set_option linter.unusedSimpArgs false in
set_option linter.unusedVariables false in
set_option maxHeartbeats 3200000 in
set_option maxRecDepth 100000 in
theorem spec_l2With1 (O1 : Option Addr) (n c : Nat) (O2 : Option Addr) (m d : Nat) (za zb : List Int) (A3 : Option Addr) (n3 c3 : Nat) (w : World) (ha : Lst w w.heap.size 4 O1 n za) (hb : Lst w w.heap.size 4 O2 m zb) (hn : n ≤ 1048576) (hm : m ≤ 1048576) (hO1 : O1 = none → n = 0 ∧ c = 0) (hO2 : O2 = none → m = 0 ∧ d = 0) :
    Calls Try.prog 88 #[.agg #[.slice O1 n c, .slice O2 m d], .int .i64 1, .slice A3 n3 c3] w fun e w' => (∃ r, e = .returned (.agg #[.slice A3 n3 c3, r]) ∧ w'.ownsRow w.heap.size 28 4 r m (nums zb) ∧ r.ownBlock.isSome = true) ∧ Below w.heap.size w w' := by
  obtain ⟨k0, k1⟩ := two_blocks w (.cells #[.slice O1 n c, .slice O2 m d] 26) (.cells #[.slice none 0 0, .slice none 0 0] 26)
  have hb0 : Below w.heap.size w ((w.alloc (.cells #[.slice O1 n c, .slice O2 m d] 26)).alloc (.cells #[.slice none 0 0, .slice none 0 0] 26)) := ((Below.refl _ _).alloc (Nat.le_refl _) _).alloc (by simp) _
  have hs0 : ((w.alloc (.cells #[.slice O1 n c, .slice O2 m d] 26)).alloc (.cells #[.slice none 0 0, .slice none 0 0] 26)).heap.size = w.heap.size + 2 := by simp
  have p0 := cell_of_row ((w.alloc (.cells #[.slice O1 n c, .slice O2 m d] 26)).alloc (.cells #[.slice none 0 0, .slice none 0 0] 26)) w.heap.size 0 _ _ (0, 0) k0
  have p1 := cell_of_row ((w.alloc (.cells #[.slice O1 n c, .slice O2 m d] 26)).alloc (.cells #[.slice none 0 0, .slice none 0 0] 26)) w.heap.size 1 _ _ (0, 0) k0
  simp at p0 p1
  go_enter Try.func88, Try.ntmps88
  go_wp2_with fail
  generalize ((w.alloc (.cells #[.slice O1 n c, .slice O2 m d] 26)).alloc (.cells #[.slice none 0 0, .slice none 0 0] 26)) = w0 at *
  refine (spec_l2CopyO O1 n c O2 m d za zb w0 ((ha.below hb0).more hb0.size) ((hb.below hb0).more hb0.size) hn hm hO1 hO2).mono ?_
  rintro e w1 ⟨⟨r1, r2, rfl, TR, hso1, hso2⟩, hb1⟩
  obtain ⟨A1, d1, A2, d2, rfl, rfl⟩ := TR.slices
  have k1 := (hb1.block (w.heap.size + 1) (by omega)).trans k1
  have hs1 : w.heap.size + 2 ≤ w1.heap.size := by have := hb1.size; omega
  have hbD := hb0.trans (hb1.mono hb0.size)
  have hlt := TR.two.lt
  have hbb : Below w1.heap.size w1 (w1.alloc (.cells #[(.slice A3 n3 c3), (.slice A2 m d2)] 26)) := (Below.refl _ _).alloc (Nat.le_refl _) _
  have k1 := (hbb.block (w.heap.size + 1) (by omega)).trans k1
  have TR := TR.below hbb
  have hbD := hbD.trans (hbb.mono hbD.size)
  have hR := own_mono (base' := w.heap.size + 2) TR.two (by omega)
  have e0 := cell_of_row _ (w.heap.size + 1) 0 _ _ (0, 0) k1
  have e1 := cell_of_row _ (w.heap.size + 1) 1 _ _ (0, 0) k1
  have z0 := frozen_of_row _ (w.heap.size + 1) 0 _ _ k1
  have z1 := frozen_of_row _ (w.heap.size + 1) 1 _ _ k1
  simp at e0 e1
  have E0 := Lib.hid (heap_set1 (u := (.slice A2 m d2)) (heap_set0 (u := (.slice A3 n3 c3)) k1))
  have HSO := Lib.hid hso2
  clear hso1 hso2
  have HR := Lib.hid ((hR.kept (set_grown _ (w.heap.size + 1) 0 (.slice A3 n3 c3)) (.inr (fun e => by have := (hR.lt _ e).1; omega))).kept (set_grown _ (w.heap.size + 1) 1 (.slice A2 m d2)) (.inr (fun e => by have := (hR.lt _ e).1; omega)))
  have HB := Lib.hid ((hbD.setCell (p := ⟨w.heap.size + 1, 0, none⟩) (show w.heap.size ≤ w.heap.size + 1 by omega) (.slice A3 n3 c3)).setCell (p := ⟨w.heap.size + 1, 1, none⟩) (show w.heap.size ≤ w.heap.size + 1 by omega) (.slice A2 m d2))
  clear TR hR hbD k1 hb0 hs0 hb1 hbb p0 p1 k0
  go_wp2_with fail
  have c0 := cell_of_row _ (w.heap.size + 1) 0 _ _ (0, 0) E0.out
  have c1 := cell_of_row _ (w.heap.size + 1) 1 _ _ (0, 0) E0.out
  simp at c0 c1
  exact bodyPost_ret (v := .agg #[.slice A3 n3 c3, .slice A2 m d2]) (by simp [results, Try.results88, go_sem, c0, c1]) rfl ⟨⟨_, rfl, own_mono HR.out (by omega), HSO.out⟩, HB.out⟩
set_option linter.unusedSimpArgs false in
set_option linter.unusedVariables false in
set_option maxHeartbeats 3200000 in
set_option maxRecDepth 100000 in
theorem spec_l2With2 (O1 : Option Addr) (n c : Nat) (O2 : Option Addr) (m d : Nat) (za zb : List Int) (A3 : Option Addr) (n3 c3 : Nat) (w : World) (ha : Lst w w.heap.size 4 O1 n za) (hb : Lst w w.heap.size 4 O2 m zb) (hn : n ≤ 1048576) (hm : m ≤ 1048576) (hO1 : O1 = none → n = 0 ∧ c = 0) (hO2 : O2 = none → m = 0 ∧ d = 0) :
    Calls Try.prog 88 #[.agg #[.slice O1 n c, .slice O2 m d], .int .i64 2, .slice A3 n3 c3] w fun e w' => (∃ r, e = .returned (.agg #[r, .slice A3 n3 c3]) ∧ w'.ownsRow w.heap.size 28 4 r n (nums za) ∧ r.ownBlock.isSome = true) ∧ Below w.heap.size w w' := by
  obtain ⟨k0, k1⟩ := two_blocks w (.cells #[.slice O1 n c, .slice O2 m d] 26) (.cells #[.slice none 0 0, .slice none 0 0] 26)
  have hb0 : Below w.heap.size w ((w.alloc (.cells #[.slice O1 n c, .slice O2 m d] 26)).alloc (.cells #[.slice none 0 0, .slice none 0 0] 26)) := ((Below.refl _ _).alloc (Nat.le_refl _) _).alloc (by simp) _
  have hs0 : ((w.alloc (.cells #[.slice O1 n c, .slice O2 m d] 26)).alloc (.cells #[.slice none 0 0, .slice none 0 0] 26)).heap.size = w.heap.size + 2 := by simp
  have p0 := cell_of_row ((w.alloc (.cells #[.slice O1 n c, .slice O2 m d] 26)).alloc (.cells #[.slice none 0 0, .slice none 0 0] 26)) w.heap.size 0 _ _ (0, 0) k0
  have p1 := cell_of_row ((w.alloc (.cells #[.slice O1 n c, .slice O2 m d] 26)).alloc (.cells #[.slice none 0 0, .slice none 0 0] 26)) w.heap.size 1 _ _ (0, 0) k0
  simp at p0 p1
  go_enter Try.func88, Try.ntmps88
  go_wp2_with fail
  generalize ((w.alloc (.cells #[.slice O1 n c, .slice O2 m d] 26)).alloc (.cells #[.slice none 0 0, .slice none 0 0] 26)) = w0 at *
  refine (spec_l2CopyO O1 n c O2 m d za zb w0 ((ha.below hb0).more hb0.size) ((hb.below hb0).more hb0.size) hn hm hO1 hO2).mono ?_
  rintro e w1 ⟨⟨r1, r2, rfl, TR, hso1, hso2⟩, hb1⟩
  obtain ⟨A1, d1, A2, d2, rfl, rfl⟩ := TR.slices
  have k1 := (hb1.block (w.heap.size + 1) (by omega)).trans k1
  have hs1 : w.heap.size + 2 ≤ w1.heap.size := by have := hb1.size; omega
  have hbD := hb0.trans (hb1.mono hb0.size)
  have hlt := TR.one.lt
  have hbb : Below w1.heap.size w1 (w1.alloc (.cells #[(.slice A1 n d1), (.slice A3 n3 c3)] 26)) := (Below.refl _ _).alloc (Nat.le_refl _) _
  have k1 := (hbb.block (w.heap.size + 1) (by omega)).trans k1
  have TR := TR.below hbb
  have hbD := hbD.trans (hbb.mono hbD.size)
  have hR := own_mono (base' := w.heap.size + 2) TR.one (by omega)
  have e0 := cell_of_row _ (w.heap.size + 1) 0 _ _ (0, 0) k1
  have e1 := cell_of_row _ (w.heap.size + 1) 1 _ _ (0, 0) k1
  have z0 := frozen_of_row _ (w.heap.size + 1) 0 _ _ k1
  have z1 := frozen_of_row _ (w.heap.size + 1) 1 _ _ k1
  simp at e0 e1
  have E0 := Lib.hid (heap_set1 (u := (.slice A3 n3 c3)) (heap_set0 (u := (.slice A1 n d1)) k1))
  have HSO := Lib.hid hso1
  clear hso1 hso2
  have HR := Lib.hid ((hR.kept (set_grown _ (w.heap.size + 1) 0 (.slice A1 n d1)) (.inr (fun e => by have := (hR.lt _ e).1; omega))).kept (set_grown _ (w.heap.size + 1) 1 (.slice A3 n3 c3)) (.inr (fun e => by have := (hR.lt _ e).1; omega)))
  have HB := Lib.hid ((hbD.setCell (p := ⟨w.heap.size + 1, 0, none⟩) (show w.heap.size ≤ w.heap.size + 1 by omega) (.slice A1 n d1)).setCell (p := ⟨w.heap.size + 1, 1, none⟩) (show w.heap.size ≤ w.heap.size + 1 by omega) (.slice A3 n3 c3))
  clear TR hR hbD k1 hb0 hs0 hb1 hbb p0 p1 k0
  go_wp2_with fail
  have c0 := cell_of_row _ (w.heap.size + 1) 0 _ _ (0, 0) E0.out
  have c1 := cell_of_row _ (w.heap.size + 1) 1 _ _ (0, 0) E0.out
  simp at c0 c1
  exact bodyPost_ret (v := .agg #[.slice A1 n d1, .slice A3 n3 c3]) (by simp [results, Try.results88, go_sem, c0, c1]) rfl ⟨⟨_, rfl, own_mono HR.out (by omega), HSO.out⟩, HB.out⟩
set_option linter.unusedSimpArgs false in
set_option linter.unusedVariables false in
set_option maxHeartbeats 3200000 in
set_option maxRecDepth 100000 in
theorem spec_l2Rest1 (O1 : Option Addr) (n c : Nat) (O2 : Option Addr) (m d : Nat) (za zb : List Int) (oi oa op oq : Int) (w : World) (ha : Lst w w.heap.size 4 O1 n za) (hb : Lst w w.heap.size 4 O2 m zb) (hn : n ≤ 1048576) (hm : m ≤ 1048576) (hO1 : O1 = none → n = 0 ∧ c = 0) (hO2 : O2 = none → m = 0 ∧ d = 0) (hnc : n ≤ c) (hmd : m ≤ d) :
    Calls Try.prog 101 #[.agg #[.slice O1 n c, .slice O2 m d], .int .i64 1, .agg #[.int .i64 oi, .int .i64 oa, .int .i64 op, .int .i64 oq]] w fun e w' => (∃ v1 v2, e = .returned (.agg #[v1, v2]) ∧ TwoRows w' w.heap.size v1 (restN1 1 n) (rest1 1 op za n [oi, oa, op, oq]) v2 (restN2 1 m) (rest2 1 op zb m [oi, oa, op, oq]) ∧ v1.ownBlock.isSome = true ∧ v2.ownBlock.isSome = true) ∧ Below w.heap.size w w' := by
  obtain ⟨i0, hi, hz0, hz1, hz2⟩ := info_parts ord_info
  obtain ⟨ka, ko, kr⟩ := three_blocks w (.cells #[.slice O1 n c, .slice O2 m d] 26) (.cells #[.int .i64 oi, .int .i64 oa, .int .i64 op, .int .i64 oq] 28) (.cells #[.slice none 0 0, .slice none 0 0] 26)
  have hb0 : Below w.heap.size w (((w.alloc (.cells #[.slice O1 n c, .slice O2 m d] 26)).alloc (.cells #[.int .i64 oi, .int .i64 oa, .int .i64 op, .int .i64 oq] 28)).alloc (.cells #[.slice none 0 0, .slice none 0 0] 26)) := (((Below.refl _ _).alloc (Nat.le_refl _) _).alloc (by simp) _).alloc (by simp; omega) _
  have hs0 : (((w.alloc (.cells #[.slice O1 n c, .slice O2 m d] 26)).alloc (.cells #[.int .i64 oi, .int .i64 oa, .int .i64 op, .int .i64 oq] 28)).alloc (.cells #[.slice none 0 0, .slice none 0 0] 26)).heap.size = w.heap.size + 3 := by simp
  have p0 := cell_of_row _ w.heap.size 0 _ _ (0, 0) ka
  have p1 := cell_of_row _ w.heap.size 1 _ _ (0, 0) ka
  simp at p0 p1
  go_enter Try.func101, Try.ntmps101
  go_wp2_with fail
  generalize (((w.alloc (.cells #[.slice O1 n c, .slice O2 m d] 26)).alloc (.cells #[.int .i64 oi, .int .i64 oa, .int .i64 op, .int .i64 oq] 28)).alloc (.cells #[.slice none 0 0, .slice none 0 0] 26)) = w0 at *
  refine (spec_l2ListO O1 n c O2 m d 1 w0).mono ?_
  simp only [if_pos]
  rintro e w1 ⟨rfl, hb1⟩
  have ka := (hb1.block w.heap.size (by omega)).trans ka
  have ko := (hb1.block (w.heap.size + 1) (by omega)).trans ko
  have kr := (hb1.block (w.heap.size + 1 + 1) (by omega)).trans kr
  have hs1 : w.heap.size + 3 ≤ w1.heap.size := by have := hb1.size; omega
  have hb1 := hb0.trans (hb1.mono hb0.size)
  clear hb0 hs0 p0 p1
  go_wp2_with fail
  go_loopw [8] (fun i wr => ∃ k : Nat, k ≤ n ∧ i = .int .i64 (k : Int) ∧ (∀ j, j < k → (!betB 1 op (price za j)) = true) ∧ Below w1.heap.size w1 wr) (fun i _ => n - (intOf i).toNat)
  case atStart => exact ⟨0, Nat.zero_le _, rfl, fun j hj => absurd hj (Nat.not_lt_zero j), Below.refl _ _⟩
  case round =>
    obtain ⟨k, hk, rfl, hall, hbel⟩ := hrel
    have HA := Lib.hid hall
    have ko2 := (hbel.block (w.heap.size + 1) (by omega)).trans ko
    have cB : wr.cell? ⟨w.heap.size + 1, 2, none⟩ = some (.int .i64 op) := by simp [World.cell?, ko2]
    clear hall
    by_cases hlt : k < n
    · obtain ⟨b, o, hax, hbo, c0, c1, c2, c3⟩ := ((ha.below hb1).more hb1.size).below hbel |>.row4 hlt
      have HX := Lib.hid hax
      have HB := Lib.hid hbel
      have hbsz := hbel.size
      rcases Bool.eq_false_or_eq_true (betB 1 op (price za k)) with hbt | hbt
      · have HL := Lib.hid (show restI 1 op za n = k from lead_one n (fun k => !betB 1 op (price za k)) k hk HA.out (.inr (by simp [hbt])))
        subst hax
        go_upto_region 3 with fail
        refine wp_region_held_drew (S := (fun w' => Below wr.heap.size wr w' ∧ w'.cell? ⟨w.heap.size + 1, 2, none⟩ = some (.int .i64 op) ∧ w'.cell? ⟨b, o + k * 4 + 2, none⟩ = some (.int .i64 (price za k)))) (by kernel_rfl) ?hSq1xs (fun hHeld => ?restq1xs)
        case hSq1xs => ((first | assumption | ((((try dsimp only); repeat' apply And.intro) <;> (first | assumption | (refine below_later ?_ (by assumption); first | assumption | (simp only [*]; done) | (go_grown; done)) | (refine cell_later (by assumption) ?_; first | assumption | (simp only [*]; done) | (simp [go_sem]; done)) | (go_grown; done) | (simp [go_sem]; done))))))
        refine wpAnyH_take (i := 0) (oi := ?oiq1x1) (v := ?vq1x1) ?hiq1x1 (by kernel_rfl) (by kernel_rfl) (by kernel_rfl) ?hQq1x1 (Or.inl ⟨?hwq1x1, ?hyq1x1⟩) (by assumption) ?restq1x1
        case hiq1x1 => simp only [List.getElem?_toArray, List.getElem?_cons_succ, List.getElem?_cons_zero]; exact rfl
        case hQq1x1 => exact fun _ _ _ h => h
        case hwq1x1 => rfl
        case hyq1x1 => ((intro w hSw; (try dsimp only at hSw); go_simp) <;> with_reducible rfl)
        try simp only [Act.put, List.setIfInBounds_toArray, List.set_cons_zero, List.set_cons_succ]
        refine wpAnyH_take (i := 1) (oi := ?oiq1x2) (v := ?vq1x2) ?hiq1x2 (by kernel_rfl) (by kernel_rfl) (by kernel_rfl) ?hQq1x2 (Or.inl ⟨?hwq1x2, ?hyq1x2⟩) (by assumption) ?restq1x2
        case hiq1x2 => simp only [List.getElem?_toArray, List.getElem?_cons_succ, List.getElem?_cons_zero]; exact rfl
        case hQq1x2 => exact fun _ _ _ h => h
        case hwq1x2 => rfl
        case hyq1x2 => ((intro w hSw; (try dsimp only at hSw); go_simp) <;> with_reducible rfl)
        try simp only [Act.put, List.setIfInBounds_toArray, List.set_cons_zero, List.set_cons_succ]
        refine wpAnyH_take (i := 2) (oi := ?oiq1x3) (v := ?vq1x3) ?hiq1x3 (by kernel_rfl) (by kernel_rfl) (by kernel_rfl) ?hQq1x3 (Or.inl ⟨?hwq1x3, ?hyq1x3⟩) (by assumption) ?restq1x3
        case hiq1x3 => simp only [List.getElem?_toArray, List.getElem?_cons_succ, List.getElem?_cons_zero]; exact rfl
        case hQq1x3 => exact fun _ _ _ h => h
        case hwq1x3 => rfl
        case hyq1x3 => ((intro w hSw; (try dsimp only at hSw); go_simp) <;> with_reducible rfl)
        try simp only [Act.put, List.setIfInBounds_toArray, List.set_cons_zero, List.set_cons_succ]
        refine wpAnyH_take (i := 3) (oi := ?oiq1x4) (v := ?vq1x4) ?hiq1x4 (by kernel_rfl) (by kernel_rfl) (by kernel_rfl) ?hQq1x4 (Or.inl ⟨?hwq1x4, ?hyq1x4⟩) (by assumption) ?restq1x4
        case hiq1x4 => simp only [List.getElem?_toArray, List.getElem?_cons_succ, List.getElem?_cons_zero]; exact rfl
        case hQq1x4 => exact fun _ _ _ h => h
        case hwq1x4 => rfl
        case hyq1x4 => ((intro w hSw; (try dsimp only at hSw); go_simp) <;> with_reducible rfl)
        try simp only [Act.put, List.setIfInBounds_toArray, List.set_cons_zero, List.set_cons_succ]
        refine wpAnyH_take (i := 4) (oi := ?oiq1x5) (v := ?vq1x5) ?hiq1x5 (by kernel_rfl) (by kernel_rfl) (by kernel_rfl) ?hQq1x5 (Or.inl ⟨?hwq1x5, ?hyq1x5⟩) (by assumption) ?restq1x5
        case hiq1x5 => simp only [List.getElem?_toArray, List.getElem?_cons_succ, List.getElem?_cons_zero]; exact rfl
        case hQq1x5 => exact fun _ _ _ h => h
        case hwq1x5 => rfl
        case hyq1x5 => ((intro w hSw; (try dsimp only at hSw); go_simp) <;> with_reducible rfl)
        try simp only [Act.put, List.setIfInBounds_toArray, List.set_cons_zero, List.set_cons_succ]
        refine wpAnyH_take (i := 5) (oi := ?oiq1x6) (v := ?vq1x6) ?hiq1x6 (by kernel_rfl) (by kernel_rfl) (by kernel_rfl) ?hQq1x6 (Or.inl ⟨?hwq1x6, ?hyq1x6⟩) (by assumption) ?restq1x6
        case hiq1x6 => simp only [List.getElem?_toArray, List.getElem?_cons_succ, List.getElem?_cons_zero]; exact rfl
        case hQq1x6 => exact fun _ _ _ h => h
        case hwq1x6 => rfl
        case hyq1x6 => ((intro w hSw; (try dsimp only at hSw); go_simp) <;> with_reducible rfl)
        try simp only [Act.put, List.setIfInBounds_toArray, List.set_cons_zero, List.set_cons_succ]
        refine wpAnyH_take (i := 6) (oi := ?oiq1x7) (v := ?vq1x7) ?hiq1x7 (by kernel_rfl) (by kernel_rfl) (by kernel_rfl) ?hQq1x7 (Or.inl ⟨?hwq1x7, ?hyq1x7⟩) (by assumption) ?restq1x7
        case hiq1x7 => simp only [List.getElem?_toArray, List.getElem?_cons_succ, List.getElem?_cons_zero]; exact rfl
        case hQq1x7 => exact fun _ _ _ h => h
        case hwq1x7 => rfl
        case hyq1x7 => ((intro w hSw; (try dsimp only at hSw); go_simp) <;> with_reducible rfl)
        try simp only [Act.put, List.setIfInBounds_toArray, List.set_cons_zero, List.set_cons_succ]
        refine wpAnyH_take (i := 7) (oi := ?oiq1x8) (v := ?vq1x8) ?hiq1x8 (by kernel_rfl) (by kernel_rfl) (by kernel_rfl) ?hQq1x8 (Or.inl ⟨?hwq1x8, ?hyq1x8⟩) (by assumption) ?restq1x8
        case hiq1x8 => simp only [List.getElem?_toArray, List.getElem?_cons_succ, List.getElem?_cons_zero]; exact rfl
        case hQq1x8 => exact fun _ _ _ h => h
        case hwq1x8 => rfl
        case hyq1x8 => ((intro w hSw; (try dsimp only at hSw); go_simp) <;> with_reducible rfl)
        try simp only [Act.put, List.setIfInBounds_toArray, List.set_cons_zero, List.set_cons_succ]
        refine wpAnyH_take (i := 8) (oi := ?oiq1x9) (v := ?vq1x9) ?hiq1x9 (by kernel_rfl) (by kernel_rfl) (by kernel_rfl) ?hQq1x9 (Or.inl ⟨?hwq1x9, ?hyq1x9⟩) (by assumption) ?restq1x9
        case hiq1x9 => simp only [List.getElem?_toArray, List.getElem?_cons_succ, List.getElem?_cons_zero]; exact rfl
        case hQq1x9 => exact fun _ _ _ h => h
        case hwq1x9 => rfl
        case hyq1x9 => ((intro w hSw; (try dsimp only at hSw); go_simp) <;> with_reducible rfl)
        try simp only [Act.put, List.setIfInBounds_toArray, List.set_cons_zero, List.set_cons_succ]
        refine wpAnyH_take (i := 9) (oi := ?oiq1x10) (v := ?vq1x10) ?hiq1x10 (by kernel_rfl) (by kernel_rfl) (by kernel_rfl) ?hQq1x10 (Or.inl ⟨?hwq1x10, ?hyq1x10⟩) (by assumption) ?restq1x10
        case hiq1x10 => simp only [List.getElem?_toArray, List.getElem?_cons_succ, List.getElem?_cons_zero]; exact rfl
        case hQq1x10 => exact fun _ _ _ h => h
        case hwq1x10 => rfl
        case hyq1x10 => ((intro w hSw; (try dsimp only at hSw); go_simp) <;> with_reducible rfl)
        try simp only [Act.put, List.setIfInBounds_toArray, List.set_cons_zero, List.set_cons_succ]
        refine wpAnyH_take (i := 10) (oi := ?oiq1x11) (v := ?vq1x11) ?hiq1x11 (by kernel_rfl) (by kernel_rfl) (by kernel_rfl) ?hQq1x11 (Or.inl ⟨?hwq1x11, ?hyq1x11⟩) (by assumption) ?restq1x11
        case hiq1x11 => simp only [List.getElem?_toArray, List.getElem?_cons_succ, List.getElem?_cons_zero]; exact rfl
        case hQq1x11 => exact fun _ _ _ h => h
        case hwq1x11 => rfl
        case hyq1x11 => ((intro w hSw; (try dsimp only at hSw); go_simp) <;> with_reducible rfl)
        try simp only [Act.put, List.setIfInBounds_toArray, List.set_cons_zero, List.set_cons_succ]
        refine wpAnyH_take (i := 11) (oi := ?oiq1x12) (v := ?vq1x12) ?hiq1x12 (by kernel_rfl) (by kernel_rfl) (by kernel_rfl) ?hQq1x12 (Or.inl ⟨?hwq1x12, ?hyq1x12⟩) (by assumption) ?restq1x12
        case hiq1x12 => simp only [List.getElem?_toArray, List.getElem?_cons_succ, List.getElem?_cons_zero]; exact rfl
        case hQq1x12 => exact fun _ _ _ h => h
        case hwq1x12 => rfl
        case hyq1x12 => ((intro w hSw; (try dsimp only at hSw); go_simp) <;> with_reducible rfl)
        try simp only [Act.put, List.setIfInBounds_toArray, List.set_cons_zero, List.set_cons_succ]
        refine wpAnyH_take (i := 12) (oi := ?oiq1x13) (v := ?vq1x13) ?hiq1x13 (by kernel_rfl) (by kernel_rfl) (by kernel_rfl) ?hQq1x13 (Or.inl ⟨?hwq1x13, ?hyq1x13⟩) (by assumption) ?restq1x13
        case hiq1x13 => simp only [List.getElem?_toArray, List.getElem?_cons_succ, List.getElem?_cons_zero]; exact rfl
        case hQq1x13 => exact fun _ _ _ h => h
        case hwq1x13 => rfl
        case hyq1x13 => ((intro w hSw; (try dsimp only at hSw); go_simp) <;> with_reducible rfl)
        try simp only [Act.put, List.setIfInBounds_toArray, List.set_cons_zero, List.set_cons_succ]
        refine wpAnyH_ready (rs := [13]) (by kernel_rfl) (by simp) ?_
        refine AllReadyH.cons (o := ?oq1x14) ?hoq1x14 (fun K hK => ?stepq1x14) ?moreq1x14
        case hoq1x14 => simp only [List.getElem?_toArray, List.getElem?_cons_succ, List.getElem?_cons_zero]; exact rfl
        case moreq1x14 => exact AllReadyH.nil
        go_simp
        (go_at_call 91; refine (spec_l2Ahead 1 op (price za k) _).mono ?_; rw [hbt]; rintro e u2 ⟨rfl, rfl⟩)
        refine hK.out _ _ ?hSq1x14 (fun hHeld => ?restq1x14)
        case hSq1x14 => ((first | assumption | ((((try dsimp only); repeat' apply And.intro) <;> (first | assumption | (refine below_later ?_ (by assumption); first | assumption | (simp only [*]; done) | (go_grown; done)) | (refine cell_later (by assumption) ?_; first | assumption | (simp only [*]; done) | (simp [go_sem]; done)) | (go_grown; done) | (simp [go_sem]; done))))))
        clear hK K
        try simp only [Act.put, List.setIfInBounds_toArray, List.set_cons_zero, List.set_cons_succ]
        refine wpAnyH_take (i := 14) (oi := ?oiq1x15) (v := ?vq1x15) ?hiq1x15 (by kernel_rfl) (by kernel_rfl) (by kernel_rfl) ?hQq1x15 (Or.inl ⟨?hwq1x15, ?hyq1x15⟩) (by assumption) ?restq1x15
        case hiq1x15 => simp only [List.getElem?_toArray, List.getElem?_cons_succ, List.getElem?_cons_zero]; exact rfl
        case hQq1x15 => exact fun _ _ _ h => h
        case hwq1x15 => rfl
        case hyq1x15 => ((intro w hSw; (try dsimp only at hSw); go_simp) <;> with_reducible rfl)
        try simp only [Act.put, List.setIfInBounds_toArray, List.set_cons_zero, List.set_cons_succ]
        refine wpAnyH_take (i := 15) (oi := ?oiq1x16) (v := ?vq1x16) ?hiq1x16 (by kernel_rfl) (by kernel_rfl) (by kernel_rfl) ?hQq1x16 (Or.inl ⟨?hwq1x16, ?hyq1x16⟩) (by assumption) ?restq1x16
        case hiq1x16 => simp only [List.getElem?_toArray, List.getElem?_cons_succ, List.getElem?_cons_zero]; exact rfl
        case hQq1x16 => exact fun _ _ _ h => h
        case hwq1x16 => rfl
        case hyq1x16 => ((intro w hSw; (try dsimp only at hSw); go_simp) <;> with_reducible rfl)
        try simp only [Act.put, List.setIfInBounds_toArray, List.set_cons_zero, List.set_cons_succ]
        refine wpAnyH_done (by kernel_rfl) ?_ _
        obtain ⟨hbq, -, -⟩ := hHeld
        have hbq := HB.out.trans (hbq.mono hbsz)
        clear hbel cB c0 c1 c2 c3 hbt ko2
        generalize wr.drew = wq at *
        have hsq : w.heap.size + 3 ≤ wq.heap.size := Nat.le_trans hs1 hbq.size
        have hbD := hb1.trans (hbq.mono hb1.size)
        have ka := (hbq.block w.heap.size (by omega)).trans ka
        have ko := (hbq.block (w.heap.size + 1) (by omega)).trans ko
        have kr := (hbq.block (w.heap.size + 1 + 1) (by omega)).trans kr
        have hbE : Below wq.heap.size wq (wq.alloc (.cells #[] 28)) := (Below.refl _ _).alloc (Nat.le_refl _) _
        have hbDE := hbD.trans (hbE.mono hbD.size)
        have hlk := Lst.take (k := k) (ha.below hbDE) hk
        have hq0 := own_mono (base' := w.heap.size + 3) (own_empty wq 28 4) hsq
        clear hbq
        go_wp2_with (at_builtin; refine wpList_app_atO _ rfl _ _ 24 rfl (w.heap.size + 3) 28 i0 _ 4 32 Try.underlying24 hi hz0 hz1 hz2 rfl (by decide) _ _ _ rfl hq0 (some ⟨b, o, none⟩) k c (fun e => by cases e) (nums (za.take (k * 4))) rfl (by rw [nums_length]; exact hlk.1) hlk.newsO (nums_one _) (by unfold maxLen; omega) (by omega) (by simp; omega) ?_)
        intro v5 w5 hown5 hgrow5 hat5
        have hso5 : v5.ownBlock.isSome = true := some_at hat5 rfl
        clear hat5
        have hbD5 := hbDE.grown hgrow5 hbDE.size (fun q hq => by simp [Value.ownBlock] at hq; omega)
        have ka := (hgrow5.block w.heap.size (by simp; omega) (fun e => by simp [Value.ownBlock] at e; omega)).trans ((hbE.block _ (by omega)).trans ka)
        have ko := (hgrow5.block (w.heap.size + 1) (by simp; omega) (fun e => by simp [Value.ownBlock] at e; omega)).trans ((hbE.block _ (by omega)).trans ko)
        have kr := (hgrow5.block (w.heap.size + 1 + 1) (by simp; omega) (fun e => by simp [Value.ownBlock] at e; omega)).trans ((hbE.block _ (by omega)).trans kr)
        have hs5 : w.heap.size + 3 ≤ w5.heap.size := by have := hgrow5.size; simp at this; omega
        obtain ⟨A5, d5, rfl, _, _⟩ := own_slice hown5
        have o0 := cell_of_row w5 (w.heap.size + 1) 0 _ _ (0, 0) ko
        have o1 := cell_of_row w5 (w.heap.size + 1) 1 _ _ (0, 0) ko
        have o2 := cell_of_row w5 (w.heap.size + 1) 2 _ _ (0, 0) ko
        have o3 := cell_of_row w5 (w.heap.size + 1) 3 _ _ (0, 0) ko
        simp at o0 o1 o2 o3
        have hov5 := hown5.lt
        clear hgrow5 hbDE hbE hbD hq0 hlk
        go_wp2_with (at_builtin; refine wpList_append_own_at _ rfl _ _ 24 rfl (w.heap.size + 3) 28 i0 _ 4 32 Try.underlying24 hi hz0 hz1 hz2 rfl (by decide) _ _ _ rfl (hown5.alloc _) ⟨w5.heap.size, 0, none⟩ 1 1 [.int .i64 oi, .int .i64 oa, .int .i64 op, .int .i64 oq] rfl rfl (World.news_of_block (heap_alloc_new w5 _)) (by intro u hu; simp at hu; rcases hu with rfl | rfl | rfl | rfl <;> rfl) (by unfold maxLen; omega) (by omega) (by simp; omega) ?_)
        intro v6 w6 hown6 hgrow6 _ hat6
        have HSO6 := Lib.hid (some_at hat6 hso5)
        clear hat6 hso5
        rw [show nums (za.take (k * 4)) ++ [.int .i64 oi, .int .i64 oa, .int .i64 op, .int .i64 oq] = nums ((za.take (k * 4)) ++ [oi, oa, op, oq]) from by rw [nums_append]; rfl] at hown6
        have hbD6 := (hbD5.alloc hbD5.size (.cells #[.int .i64 oi, .int .i64 oa, .int .i64 op, .int .i64 oq] 28)).grown hgrow6 (by simp; omega) (fun q hq => by have := (hov5 q hq).1; omega)
        have ka := (hgrow6.block w.heap.size (by simp; omega) (fun e => by have := (hov5 _ e.symm).1; omega)).trans ((Below.heap_alloc w5 _ _ (by omega)).trans ka)
        have kr := (hgrow6.block (w.heap.size + 1 + 1) (by simp; omega) (fun e => by have := (hov5 _ e.symm).1; omega)).trans ((Below.heap_alloc w5 _ _ (by omega)).trans kr)
        have hs6 : w.heap.size + 3 ≤ w6.heap.size := by have := hgrow6.size; simp at this; omega
        obtain ⟨A6, d6, rfl, _, _⟩ := own_slice hown6
        have q0 := cell_of_row w6 w.heap.size 0 _ _ (0, 0) ka
        have q1 := cell_of_row w6 w.heap.size 1 _ _ (0, 0) ka
        simp at q0 q1
        clear hgrow6 hbD5 hov5 hown5 o0 o1 o2 o3 ko
        go_upto_region 7 with fail
        have hck' : ¬ (c = k) := by omega
        refine wp_region_held_drew (S := (fun w' => Below w.heap.size w w' ∧ w'.cell? ⟨w.heap.size, 0, none⟩ = some (.slice (some ⟨b, o, none⟩) n c) ∧ w'.cell? ⟨w.heap.size, 1, none⟩ = some (.slice O2 m d) ∧ w.heap.size + 3 ≤ w'.heap.size ∧ ∃ x y, w'.heap[w.heap.size + 1 + 1]? = some (.cells #[x, y] 26 (0, 0)))) (by kernel_rfl) ?hSr22 (fun hHeld => ?restr22)
        case hSr22 => exact ⟨hbD6.drew, q0, q1, hs6, _, _, kr⟩
        refine wpAnyH_take (i := 0) (oi := ?oiw23) (v := ?vw23) ?hiw23 (by kernel_rfl) (by kernel_rfl) (by kernel_rfl) ?hQw23 (Or.inl ⟨?hww23, ?hyw23⟩) (by assumption) ?restw23
        case hiw23 => simp only [List.getElem?_toArray, List.getElem?_cons_succ, List.getElem?_cons_zero]; exact rfl
        case hQw23 => exact fun _ _ _ h => h
        case hww23 => rfl
        case hyw23 => ((intro w hSw; (try dsimp only at hSw); go_simp) <;> with_reducible rfl)
        try simp only [Act.put, List.setIfInBounds_toArray, List.set_cons_zero, List.set_cons_succ]
        refine wpAnyH_take (i := 1) (oi := ?oiw24) (v := ?vw24) ?hiw24 (by kernel_rfl) (by kernel_rfl) (by kernel_rfl) ?hQw24 (Or.inl ⟨?hww24, ?hyw24⟩) (by assumption) ?restw24
        case hiw24 => simp only [List.getElem?_toArray, List.getElem?_cons_succ, List.getElem?_cons_zero]; exact rfl
        case hQw24 => exact fun _ _ _ h => h
        case hww24 => rfl
        case hyw24 => ((intro w hSw; (try dsimp only at hSw); go_simp) <;> with_reducible rfl)
        try simp only [Act.put, List.setIfInBounds_toArray, List.set_cons_zero, List.set_cons_succ]
        refine wpAnyH_take (i := 2) (oi := ?oiw25) (v := ?vw25) ?hiw25 (by kernel_rfl) (by kernel_rfl) (by kernel_rfl) ?hQw25 (Or.inl ⟨?hww25, ?hyw25⟩) (by assumption) ?restw25
        case hiw25 => simp only [List.getElem?_toArray, List.getElem?_cons_succ, List.getElem?_cons_zero]; exact rfl
        case hQw25 => exact fun _ _ _ h => h
        case hww25 => rfl
        case hyw25 => ((intro w hSw; (try dsimp only at hSw); go_simp) <;> with_reducible rfl)
        try simp only [Act.put, List.setIfInBounds_toArray, List.set_cons_zero, List.set_cons_succ]
        refine wpAnyH_take (i := 3) (oi := ?oiw26) (v := ?vw26) ?hiw26 (by kernel_rfl) (by kernel_rfl) (by kernel_rfl) ?hQw26 (Or.inl ⟨?hww26, ?hyw26⟩) (by assumption) ?restw26
        case hiw26 => simp only [List.getElem?_toArray, List.getElem?_cons_succ, List.getElem?_cons_zero]; exact rfl
        case hQw26 => exact fun _ _ _ h => h
        case hww26 => rfl
        case hyw26 => ((intro w hSw; (try dsimp only at hSw); go_simp) <;> with_reducible rfl)
        try simp only [Act.put, List.setIfInBounds_toArray, List.set_cons_zero, List.set_cons_succ]
        refine wpAnyH_take (i := 4) (oi := ?oiw27) (v := ?vw27) ?hiw27 (by kernel_rfl) (by kernel_rfl) (by kernel_rfl) ?hQw27 (Or.inl ⟨?hww27, ?hyw27⟩) (by assumption) ?restw27
        case hiw27 => simp only [List.getElem?_toArray, List.getElem?_cons_succ, List.getElem?_cons_zero]; exact rfl
        case hQw27 => exact fun _ _ _ h => h
        case hww27 => rfl
        case hyw27 => ((intro w hSw; (try dsimp only at hSw); go_simp) <;> with_reducible rfl)
        try simp only [Act.put, List.setIfInBounds_toArray, List.set_cons_zero, List.set_cons_succ]
        refine wpAnyH_take (i := 5) (oi := ?oiw28) (v := ?vw28) ?hiw28 (by kernel_rfl) (by kernel_rfl) (by kernel_rfl) ?hQw28 (Or.inl ⟨?hww28, ?hyw28⟩) (by assumption) ?restw28
        case hiw28 => simp only [List.getElem?_toArray, List.getElem?_cons_succ, List.getElem?_cons_zero]; exact rfl
        case hQw28 => exact fun _ _ _ h => h
        case hww28 => rfl
        case hyw28 => ((intro w hSw; (try dsimp only at hSw); go_simp) <;> with_reducible rfl)
        try simp only [Act.put, List.setIfInBounds_toArray, List.set_cons_zero, List.set_cons_succ]
        refine wpAnyH_ready (rs := [6]) (by kernel_rfl) (by simp) ?_
        refine AllReadyH.cons (o := ?ow29) ?how29 (fun K hK => ?stepw29) ?morew29
        case how29 => simp only [List.getElem?_toArray, List.getElem?_cons_succ, List.getElem?_cons_zero]; exact rfl
        case morew29 => exact AllReadyH.nil
        have hsz7 := hHeld.2.2.2.1
        (refine step_appX _ rfl _ _ rfl (w.heap.size + 3) (.slice A6 (k + 1) d6) rfl (k + 1) ((za.take (k * 4)) ++ [oi, oa, op, oq]) (own_below hown6 (Below.refl _ w6).drew) (some ⟨b, o + k * 4, none⟩) (n - k) _ (fun e => by cases e) (za.drop (k * 4)) rfl w.heap.size (Lst.drop (ha.below hHeld.1) hk) (by omega) (by omega) hsz7 ?_; intro r7 u7 hown7 hgrow7 hat7)
        have hlt7 := hown6.lt
        refine hK.out _ _ ?hSw29 (fun hHeld => ?restw29)
        case hSw29 => exact rsS_grown hHeld hgrow7 (fun q hq => (hlt7 q hq).1)
        clear hK K
        try simp only [Act.put, List.setIfInBounds_toArray, List.set_cons_zero, List.set_cons_succ]
        have HSO7 := Lib.hid (some_at hat7 HSO6.out)
        clear hat7
        obtain ⟨A7, d7, rfl, _, _⟩ := own_slice hown7
        refine wpAnyH_ready (rs := [7]) (by kernel_rfl) (by simp) ?_
        refine AllReadyH.cons (o := ?ow30) ?how30 (fun K hK => ?stepw30) ?morew30
        case how30 => simp only [List.getElem?_toArray, List.getElem?_cons_succ, List.getElem?_cons_zero]; exact rfl
        case morew30 => exact AllReadyH.nil
        go_simp
        go_at_call 88
        refine (spec_l2With1 _ _ _ _ _ _ za zb A7 _ d7 u7 ((ha.below hHeld.1).more hHeld.1.size) ((hb.below hHeld.1).more hHeld.1.size) (by omega) (by omega) hO1 hO2).mono ?_
        rintro e u8 ⟨⟨r8, rfl, ho8, hso8⟩, hb8⟩
        have hlt7' := hown7.lt
        refine hK.out _ _ ?hSw30 (fun hHeld => ?restw30)
        case hSw30 => exact rsS_below hHeld hb8
        clear hK K
        try simp only [Act.put, List.setIfInBounds_toArray, List.set_cons_zero, List.set_cons_succ]
        have HSO8 := Lib.hid hso8
        clear hso8
        have hown7 := own_below hown7 hb8
        obtain ⟨A8, d8, rfl, _, _⟩ := own_slice ho8
        have hX := hHeld
        obtain ⟨x, y, hr⟩ := hX.2.2.2.2
        have r0 := cell_of_row u8 (w.heap.size + 1 + 1) 0 _ _ (0, 0) hr
        have r1 := cell_of_row u8 (w.heap.size + 1 + 1) 1 _ _ (0, 0) hr
        have z0 := frozen_of_row u8 (w.heap.size + 1 + 1) 0 _ _ hr
        have z1 := frozen_of_row u8 (w.heap.size + 1 + 1) 1 _ _ hr
        simp at r0 r1
        have E0 := Lib.hid (heap_set1 (u := (.slice A8 m d8)) (heap_set0 (u := (.slice A7 (k + 1 + (n - k)) d7)) hr))
        refine wpAnyH_ready (rs := [8]) (by kernel_rfl) (by simp) ?_
        refine AllReadyH.cons (o := ?ow31) ?how31 (fun K hK => ?stepw31) ?morew31
        case how31 => simp only [List.getElem?_toArray, List.getElem?_cons_succ, List.getElem?_cons_zero]; exact rfl
        case morew31 => exact AllReadyH.nil
        go_simp
        refine hK.out _ _ ?hSw31 (fun hHeld => ?restw31)
        case hSw31 => exact rsS_set hX _ _
        clear hK K
        try simp only [Act.put, List.setIfInBounds_toArray, List.set_cons_zero, List.set_cons_succ]
        refine wpAnyH_done (by kernel_rfl) ?_ _
        have f0 := cell_of_row _ (w.heap.size + 1 + 1) 0 _ _ (0, 0) E0.out
        have f1 := cell_of_row _ (w.heap.size + 1 + 1) 1 _ _ (0, 0) E0.out
        simp at f0 f1
        have hz8 : w.heap.size + 3 ≤ u7.heap.size := Nat.le_trans hsz7 hgrow7.size
        have hne : ∀ q, (Value.slice A7 (k + 1 + (n - k)) d7).ownBlock = some q → (Value.slice A8 m d8).ownBlock ≠ some q := fun q h1 h2 => by have a := (hlt7' q h1).2; have b := (ho8.lt q h2).1; omega
        have HT := Lib.hid (((TwoRows.mk hown7 (own_mono ho8 hz8) hne).kept (set_grown u8 (w.heap.size + 1 + 1) 0 (.slice A7 (k + 1 + (n - k)) d7)) (by omega)).kept (set_grown _ (w.heap.size + 1 + 1) 1 (.slice A8 m d8)) (by omega))
        have HB2 := Lib.hid ((hX.1.setCell (p := ⟨w.heap.size + 1 + 1, 0, none⟩) (show w.heap.size ≤ w.heap.size + 1 + 1 by omega) (.slice A7 (k + 1 + (n - k)) d7)).setCell (p := ⟨w.heap.size + 1 + 1, 1, none⟩) (show w.heap.size ≤ w.heap.size + 1 + 1 by omega) (.slice A8 m d8))
        clear hown7 ho8 hX hHeld hr r0 r1
        go_wp2_with fail
        exact bodyPost_ret (v := .agg #[.slice A7 (k + 1 + (n - k)) d7, .slice A8 m d8]) (by simp [results, Try.results101, go_sem, f0, f1]) rfl ⟨⟨_, _, rfl, rest_rows1 HL.out ha.1 hk (HT.out.mono (by omega)), HSO7.out, HSO8.out⟩, HB2.out⟩
      · have HM := Lib.hid (show (!betB 1 op (price za k)) = true by simp [hbt])
        subst hax
        go_upto_region 3 with fail
        refine wp_region_held_drew (S := (fun w' => Below wr.heap.size wr w' ∧ w'.cell? ⟨w.heap.size + 1, 2, none⟩ = some (.int .i64 op) ∧ w'.cell? ⟨b, o + k * 4 + 2, none⟩ = some (.int .i64 (price za k)))) (by kernel_rfl) ?hSq2xs (fun hHeld => ?restq2xs)
        case hSq2xs => ((first | assumption | ((((try dsimp only); repeat' apply And.intro) <;> (first | assumption | (refine below_later ?_ (by assumption); first | assumption | (simp only [*]; done) | (go_grown; done)) | (refine cell_later (by assumption) ?_; first | assumption | (simp only [*]; done) | (simp [go_sem]; done)) | (go_grown; done) | (simp [go_sem]; done))))))
        refine wpAnyH_take (i := 0) (oi := ?oiq2x1) (v := ?vq2x1) ?hiq2x1 (by kernel_rfl) (by kernel_rfl) (by kernel_rfl) ?hQq2x1 (Or.inl ⟨?hwq2x1, ?hyq2x1⟩) (by assumption) ?restq2x1
        case hiq2x1 => simp only [List.getElem?_toArray, List.getElem?_cons_succ, List.getElem?_cons_zero]; exact rfl
        case hQq2x1 => exact fun _ _ _ h => h
        case hwq2x1 => rfl
        case hyq2x1 => ((intro w hSw; (try dsimp only at hSw); go_simp) <;> with_reducible rfl)
        try simp only [Act.put, List.setIfInBounds_toArray, List.set_cons_zero, List.set_cons_succ]
        refine wpAnyH_take (i := 1) (oi := ?oiq2x2) (v := ?vq2x2) ?hiq2x2 (by kernel_rfl) (by kernel_rfl) (by kernel_rfl) ?hQq2x2 (Or.inl ⟨?hwq2x2, ?hyq2x2⟩) (by assumption) ?restq2x2
        case hiq2x2 => simp only [List.getElem?_toArray, List.getElem?_cons_succ, List.getElem?_cons_zero]; exact rfl
        case hQq2x2 => exact fun _ _ _ h => h
        case hwq2x2 => rfl
        case hyq2x2 => ((intro w hSw; (try dsimp only at hSw); go_simp) <;> with_reducible rfl)
        try simp only [Act.put, List.setIfInBounds_toArray, List.set_cons_zero, List.set_cons_succ]
        refine wpAnyH_take (i := 2) (oi := ?oiq2x3) (v := ?vq2x3) ?hiq2x3 (by kernel_rfl) (by kernel_rfl) (by kernel_rfl) ?hQq2x3 (Or.inl ⟨?hwq2x3, ?hyq2x3⟩) (by assumption) ?restq2x3
        case hiq2x3 => simp only [List.getElem?_toArray, List.getElem?_cons_succ, List.getElem?_cons_zero]; exact rfl
        case hQq2x3 => exact fun _ _ _ h => h
        case hwq2x3 => rfl
        case hyq2x3 => ((intro w hSw; (try dsimp only at hSw); go_simp) <;> with_reducible rfl)
        try simp only [Act.put, List.setIfInBounds_toArray, List.set_cons_zero, List.set_cons_succ]
        refine wpAnyH_take (i := 3) (oi := ?oiq2x4) (v := ?vq2x4) ?hiq2x4 (by kernel_rfl) (by kernel_rfl) (by kernel_rfl) ?hQq2x4 (Or.inl ⟨?hwq2x4, ?hyq2x4⟩) (by assumption) ?restq2x4
        case hiq2x4 => simp only [List.getElem?_toArray, List.getElem?_cons_succ, List.getElem?_cons_zero]; exact rfl
        case hQq2x4 => exact fun _ _ _ h => h
        case hwq2x4 => rfl
        case hyq2x4 => ((intro w hSw; (try dsimp only at hSw); go_simp) <;> with_reducible rfl)
        try simp only [Act.put, List.setIfInBounds_toArray, List.set_cons_zero, List.set_cons_succ]
        refine wpAnyH_take (i := 4) (oi := ?oiq2x5) (v := ?vq2x5) ?hiq2x5 (by kernel_rfl) (by kernel_rfl) (by kernel_rfl) ?hQq2x5 (Or.inl ⟨?hwq2x5, ?hyq2x5⟩) (by assumption) ?restq2x5
        case hiq2x5 => simp only [List.getElem?_toArray, List.getElem?_cons_succ, List.getElem?_cons_zero]; exact rfl
        case hQq2x5 => exact fun _ _ _ h => h
        case hwq2x5 => rfl
        case hyq2x5 => ((intro w hSw; (try dsimp only at hSw); go_simp) <;> with_reducible rfl)
        try simp only [Act.put, List.setIfInBounds_toArray, List.set_cons_zero, List.set_cons_succ]
        refine wpAnyH_take (i := 5) (oi := ?oiq2x6) (v := ?vq2x6) ?hiq2x6 (by kernel_rfl) (by kernel_rfl) (by kernel_rfl) ?hQq2x6 (Or.inl ⟨?hwq2x6, ?hyq2x6⟩) (by assumption) ?restq2x6
        case hiq2x6 => simp only [List.getElem?_toArray, List.getElem?_cons_succ, List.getElem?_cons_zero]; exact rfl
        case hQq2x6 => exact fun _ _ _ h => h
        case hwq2x6 => rfl
        case hyq2x6 => ((intro w hSw; (try dsimp only at hSw); go_simp) <;> with_reducible rfl)
        try simp only [Act.put, List.setIfInBounds_toArray, List.set_cons_zero, List.set_cons_succ]
        refine wpAnyH_take (i := 6) (oi := ?oiq2x7) (v := ?vq2x7) ?hiq2x7 (by kernel_rfl) (by kernel_rfl) (by kernel_rfl) ?hQq2x7 (Or.inl ⟨?hwq2x7, ?hyq2x7⟩) (by assumption) ?restq2x7
        case hiq2x7 => simp only [List.getElem?_toArray, List.getElem?_cons_succ, List.getElem?_cons_zero]; exact rfl
        case hQq2x7 => exact fun _ _ _ h => h
        case hwq2x7 => rfl
        case hyq2x7 => ((intro w hSw; (try dsimp only at hSw); go_simp) <;> with_reducible rfl)
        try simp only [Act.put, List.setIfInBounds_toArray, List.set_cons_zero, List.set_cons_succ]
        refine wpAnyH_take (i := 7) (oi := ?oiq2x8) (v := ?vq2x8) ?hiq2x8 (by kernel_rfl) (by kernel_rfl) (by kernel_rfl) ?hQq2x8 (Or.inl ⟨?hwq2x8, ?hyq2x8⟩) (by assumption) ?restq2x8
        case hiq2x8 => simp only [List.getElem?_toArray, List.getElem?_cons_succ, List.getElem?_cons_zero]; exact rfl
        case hQq2x8 => exact fun _ _ _ h => h
        case hwq2x8 => rfl
        case hyq2x8 => ((intro w hSw; (try dsimp only at hSw); go_simp) <;> with_reducible rfl)
        try simp only [Act.put, List.setIfInBounds_toArray, List.set_cons_zero, List.set_cons_succ]
        refine wpAnyH_take (i := 8) (oi := ?oiq2x9) (v := ?vq2x9) ?hiq2x9 (by kernel_rfl) (by kernel_rfl) (by kernel_rfl) ?hQq2x9 (Or.inl ⟨?hwq2x9, ?hyq2x9⟩) (by assumption) ?restq2x9
        case hiq2x9 => simp only [List.getElem?_toArray, List.getElem?_cons_succ, List.getElem?_cons_zero]; exact rfl
        case hQq2x9 => exact fun _ _ _ h => h
        case hwq2x9 => rfl
        case hyq2x9 => ((intro w hSw; (try dsimp only at hSw); go_simp) <;> with_reducible rfl)
        try simp only [Act.put, List.setIfInBounds_toArray, List.set_cons_zero, List.set_cons_succ]
        refine wpAnyH_take (i := 9) (oi := ?oiq2x10) (v := ?vq2x10) ?hiq2x10 (by kernel_rfl) (by kernel_rfl) (by kernel_rfl) ?hQq2x10 (Or.inl ⟨?hwq2x10, ?hyq2x10⟩) (by assumption) ?restq2x10
        case hiq2x10 => simp only [List.getElem?_toArray, List.getElem?_cons_succ, List.getElem?_cons_zero]; exact rfl
        case hQq2x10 => exact fun _ _ _ h => h
        case hwq2x10 => rfl
        case hyq2x10 => ((intro w hSw; (try dsimp only at hSw); go_simp) <;> with_reducible rfl)
        try simp only [Act.put, List.setIfInBounds_toArray, List.set_cons_zero, List.set_cons_succ]
        refine wpAnyH_take (i := 10) (oi := ?oiq2x11) (v := ?vq2x11) ?hiq2x11 (by kernel_rfl) (by kernel_rfl) (by kernel_rfl) ?hQq2x11 (Or.inl ⟨?hwq2x11, ?hyq2x11⟩) (by assumption) ?restq2x11
        case hiq2x11 => simp only [List.getElem?_toArray, List.getElem?_cons_succ, List.getElem?_cons_zero]; exact rfl
        case hQq2x11 => exact fun _ _ _ h => h
        case hwq2x11 => rfl
        case hyq2x11 => ((intro w hSw; (try dsimp only at hSw); go_simp) <;> with_reducible rfl)
        try simp only [Act.put, List.setIfInBounds_toArray, List.set_cons_zero, List.set_cons_succ]
        refine wpAnyH_take (i := 11) (oi := ?oiq2x12) (v := ?vq2x12) ?hiq2x12 (by kernel_rfl) (by kernel_rfl) (by kernel_rfl) ?hQq2x12 (Or.inl ⟨?hwq2x12, ?hyq2x12⟩) (by assumption) ?restq2x12
        case hiq2x12 => simp only [List.getElem?_toArray, List.getElem?_cons_succ, List.getElem?_cons_zero]; exact rfl
        case hQq2x12 => exact fun _ _ _ h => h
        case hwq2x12 => rfl
        case hyq2x12 => ((intro w hSw; (try dsimp only at hSw); go_simp) <;> with_reducible rfl)
        try simp only [Act.put, List.setIfInBounds_toArray, List.set_cons_zero, List.set_cons_succ]
        refine wpAnyH_take (i := 12) (oi := ?oiq2x13) (v := ?vq2x13) ?hiq2x13 (by kernel_rfl) (by kernel_rfl) (by kernel_rfl) ?hQq2x13 (Or.inl ⟨?hwq2x13, ?hyq2x13⟩) (by assumption) ?restq2x13
        case hiq2x13 => simp only [List.getElem?_toArray, List.getElem?_cons_succ, List.getElem?_cons_zero]; exact rfl
        case hQq2x13 => exact fun _ _ _ h => h
        case hwq2x13 => rfl
        case hyq2x13 => ((intro w hSw; (try dsimp only at hSw); go_simp) <;> with_reducible rfl)
        try simp only [Act.put, List.setIfInBounds_toArray, List.set_cons_zero, List.set_cons_succ]
        refine wpAnyH_ready (rs := [13]) (by kernel_rfl) (by simp) ?_
        refine AllReadyH.cons (o := ?oq2x14) ?hoq2x14 (fun K hK => ?stepq2x14) ?moreq2x14
        case hoq2x14 => simp only [List.getElem?_toArray, List.getElem?_cons_succ, List.getElem?_cons_zero]; exact rfl
        case moreq2x14 => exact AllReadyH.nil
        go_simp
        (go_at_call 91; refine (spec_l2Ahead 1 op (price za k) _).mono ?_; rw [hbt]; rintro e u2 ⟨rfl, rfl⟩)
        refine hK.out _ _ ?hSq2x14 (fun hHeld => ?restq2x14)
        case hSq2x14 => ((first | assumption | ((((try dsimp only); repeat' apply And.intro) <;> (first | assumption | (refine below_later ?_ (by assumption); first | assumption | (simp only [*]; done) | (go_grown; done)) | (refine cell_later (by assumption) ?_; first | assumption | (simp only [*]; done) | (simp [go_sem]; done)) | (go_grown; done) | (simp [go_sem]; done))))))
        clear hK K
        try simp only [Act.put, List.setIfInBounds_toArray, List.set_cons_zero, List.set_cons_succ]
        refine wpAnyH_take (i := 14) (oi := ?oiq2x15) (v := ?vq2x15) ?hiq2x15 (by kernel_rfl) (by kernel_rfl) (by kernel_rfl) ?hQq2x15 (Or.inl ⟨?hwq2x15, ?hyq2x15⟩) (by assumption) ?restq2x15
        case hiq2x15 => simp only [List.getElem?_toArray, List.getElem?_cons_succ, List.getElem?_cons_zero]; exact rfl
        case hQq2x15 => exact fun _ _ _ h => h
        case hwq2x15 => rfl
        case hyq2x15 => ((intro w hSw; (try dsimp only at hSw); go_simp) <;> with_reducible rfl)
        try simp only [Act.put, List.setIfInBounds_toArray, List.set_cons_zero, List.set_cons_succ]
        refine wpAnyH_take (i := 15) (oi := ?oiq2x16) (v := ?vq2x16) ?hiq2x16 (by kernel_rfl) (by kernel_rfl) (by kernel_rfl) ?hQq2x16 (Or.inl ⟨?hwq2x16, ?hyq2x16⟩) (by assumption) ?restq2x16
        case hiq2x16 => simp only [List.getElem?_toArray, List.getElem?_cons_succ, List.getElem?_cons_zero]; exact rfl
        case hQq2x16 => exact fun _ _ _ h => h
        case hwq2x16 => rfl
        case hyq2x16 => ((intro w hSw; (try dsimp only at hSw); go_simp) <;> with_reducible rfl)
        try simp only [Act.put, List.setIfInBounds_toArray, List.set_cons_zero, List.set_cons_succ]
        refine wpAnyH_done (by kernel_rfl) ?_ _
        obtain ⟨hbq, -, -⟩ := hHeld
        have hbq := HB.out.trans (hbq.mono hbsz)
        clear hbel cB c0 c1 c2 c3 hbt ko2
        go_wp2_with fail
        go_roundw
        case rel => exact ⟨k + 1, by omega, by go_num, fun j hj => by
          rcases (show j < k ∨ j = k from by omega) with h | rfl
          · exact HA.out j h
          · exact HM.out, hbq⟩
        case measure => simp [intOf]; omega
    · obtain rfl : k = n := by omega
      have HL := Lib.hid (show restI 1 op za k = k from lead_one k (fun k => !betB 1 op (price za k)) k hk HA.out (.inl rfl))
      have HB := Lib.hid hbel
      have hbsz := hbel.size
      go_upto_region 3 with fail
      refine wp_region_held_drew (S := (fun w' => Below wr.heap.size wr w')) (by kernel_rfl) ?hSq3xs (fun hHeld => ?restq3xs)
      case hSq3xs => ((first | assumption | ((((try dsimp only); repeat' apply And.intro) <;> (first | assumption | (refine below_later ?_ (by assumption); first | assumption | (simp only [*]; done) | (go_grown; done)) | (refine cell_later (by assumption) ?_; first | assumption | (simp only [*]; done) | (simp [go_sem]; done)) | (go_grown; done) | (simp [go_sem]; done))))))
      refine wpAnyH_take (i := 0) (oi := ?oiq3x1) (v := ?vq3x1) ?hiq3x1 (by kernel_rfl) (by kernel_rfl) (by kernel_rfl) ?hQq3x1 (Or.inl ⟨?hwq3x1, ?hyq3x1⟩) (by assumption) ?restq3x1
      case hiq3x1 => simp only [List.getElem?_toArray, List.getElem?_cons_succ, List.getElem?_cons_zero]; exact rfl
      case hQq3x1 => exact fun _ _ _ h => h
      case hwq3x1 => rfl
      case hyq3x1 => ((intro w hSw; (try dsimp only at hSw); go_simp) <;> with_reducible rfl)
      try simp only [Act.put, List.setIfInBounds_toArray, List.set_cons_zero, List.set_cons_succ]
      refine wpAnyH_take (i := 1) (oi := ?oiq3x2) (v := ?vq3x2) ?hiq3x2 (by kernel_rfl) (by kernel_rfl) (by kernel_rfl) ?hQq3x2 (Or.inl ⟨?hwq3x2, ?hyq3x2⟩) (by assumption) ?restq3x2
      case hiq3x2 => simp only [List.getElem?_toArray, List.getElem?_cons_succ, List.getElem?_cons_zero]; exact rfl
      case hQq3x2 => exact fun _ _ _ h => h
      case hwq3x2 => rfl
      case hyq3x2 => ((intro w hSw; (try dsimp only at hSw); go_simp) <;> with_reducible rfl)
      try simp only [Act.put, List.setIfInBounds_toArray, List.set_cons_zero, List.set_cons_succ]
      refine wpAnyH_take (i := 2) (oi := ?oiq3x3) (v := ?vq3x3) ?hiq3x3 (by kernel_rfl) (by kernel_rfl) (by kernel_rfl) ?hQq3x3 (Or.inl ⟨?hwq3x3, ?hyq3x3⟩) (by assumption) ?restq3x3
      case hiq3x3 => simp only [List.getElem?_toArray, List.getElem?_cons_succ, List.getElem?_cons_zero]; exact rfl
      case hQq3x3 => exact fun _ _ _ h => h
      case hwq3x3 => rfl
      case hyq3x3 => ((intro w hSw; (try dsimp only at hSw); go_simp) <;> with_reducible rfl)
      try simp only [Act.put, List.setIfInBounds_toArray, List.set_cons_zero, List.set_cons_succ]
      refine wpAnyH_take (i := 3) (oi := ?oiq3x4) (v := ?vq3x4) ?hiq3x4 (by kernel_rfl) (by kernel_rfl) (by kernel_rfl) ?hQq3x4 (Or.inl ⟨?hwq3x4, ?hyq3x4⟩) (by assumption) ?restq3x4
      case hiq3x4 => simp only [List.getElem?_toArray, List.getElem?_cons_succ, List.getElem?_cons_zero]; exact rfl
      case hQq3x4 => exact fun _ _ _ h => h
      case hwq3x4 => rfl
      case hyq3x4 => ((intro w hSw; (try dsimp only at hSw); go_simp) <;> with_reducible rfl)
      try simp only [Act.put, List.setIfInBounds_toArray, List.set_cons_zero, List.set_cons_succ]
      refine wpAnyH_take (i := 4) (oi := ?oiq3x5) (v := ?vq3x5) ?hiq3x5 (by kernel_rfl) (by kernel_rfl) (by kernel_rfl) ?hQq3x5 (Or.inl ⟨?hwq3x5, ?hyq3x5⟩) (by assumption) ?restq3x5
      case hiq3x5 => simp only [List.getElem?_toArray, List.getElem?_cons_succ, List.getElem?_cons_zero]; exact rfl
      case hQq3x5 => exact fun _ _ _ h => h
      case hwq3x5 => rfl
      case hyq3x5 => ((intro w hSw; (try dsimp only at hSw); go_simp) <;> with_reducible rfl)
      try simp only [Act.put, List.setIfInBounds_toArray, List.set_cons_zero, List.set_cons_succ]
      refine wpAnyH_take (i := 5) (oi := ?oiq3x6) (v := _) ?hiq3x6 (by kernel_rfl) (by kernel_rfl) (by kernel_rfl) ?hQq3x6 (Or.inr ⟨?hwq3x6, rfl⟩) (by assumption) ?restq3x6
      case hiq3x6 => simp only [List.getElem?_toArray, List.getElem?_cons_succ, List.getElem?_cons_zero]; exact rfl
      case hQq3x6 => exact fun _ _ _ h => h
      case hwq3x6 => rfl
      try simp only [Act.put, List.setIfInBounds_toArray, List.set_cons_zero, List.set_cons_succ]
      refine wpAnyH_take (i := 6) (oi := ?oiq3x7) (v := _) ?hiq3x7 (by kernel_rfl) (by kernel_rfl) (by kernel_rfl) ?hQq3x7 (Or.inr ⟨?hwq3x7, rfl⟩) (by assumption) ?restq3x7
      case hiq3x7 => simp only [List.getElem?_toArray, List.getElem?_cons_succ, List.getElem?_cons_zero]; exact rfl
      case hQq3x7 => exact fun _ _ _ h => h
      case hwq3x7 => rfl
      try simp only [Act.put, List.setIfInBounds_toArray, List.set_cons_zero, List.set_cons_succ]
      refine wpAnyH_take (i := 7) (oi := ?oiq3x8) (v := _) ?hiq3x8 (by kernel_rfl) (by kernel_rfl) (by kernel_rfl) ?hQq3x8 (Or.inr ⟨?hwq3x8, rfl⟩) (by assumption) ?restq3x8
      case hiq3x8 => simp only [List.getElem?_toArray, List.getElem?_cons_succ, List.getElem?_cons_zero]; exact rfl
      case hQq3x8 => exact fun _ _ _ h => h
      case hwq3x8 => rfl
      try simp only [Act.put, List.setIfInBounds_toArray, List.set_cons_zero, List.set_cons_succ]
      refine wpAnyH_take (i := 8) (oi := ?oiq3x9) (v := _) ?hiq3x9 (by kernel_rfl) (by kernel_rfl) (by kernel_rfl) ?hQq3x9 (Or.inr ⟨?hwq3x9, rfl⟩) (by assumption) ?restq3x9
      case hiq3x9 => simp only [List.getElem?_toArray, List.getElem?_cons_succ, List.getElem?_cons_zero]; exact rfl
      case hQq3x9 => exact fun _ _ _ h => h
      case hwq3x9 => rfl
      try simp only [Act.put, List.setIfInBounds_toArray, List.set_cons_zero, List.set_cons_succ]
      refine wpAnyH_take (i := 9) (oi := ?oiq3x10) (v := _) ?hiq3x10 (by kernel_rfl) (by kernel_rfl) (by kernel_rfl) ?hQq3x10 (Or.inr ⟨?hwq3x10, rfl⟩) (by assumption) ?restq3x10
      case hiq3x10 => simp only [List.getElem?_toArray, List.getElem?_cons_succ, List.getElem?_cons_zero]; exact rfl
      case hQq3x10 => exact fun _ _ _ h => h
      case hwq3x10 => rfl
      try simp only [Act.put, List.setIfInBounds_toArray, List.set_cons_zero, List.set_cons_succ]
      refine wpAnyH_take (i := 10) (oi := ?oiq3x11) (v := _) ?hiq3x11 (by kernel_rfl) (by kernel_rfl) (by kernel_rfl) ?hQq3x11 (Or.inr ⟨?hwq3x11, rfl⟩) (by assumption) ?restq3x11
      case hiq3x11 => simp only [List.getElem?_toArray, List.getElem?_cons_succ, List.getElem?_cons_zero]; exact rfl
      case hQq3x11 => exact fun _ _ _ h => h
      case hwq3x11 => rfl
      try simp only [Act.put, List.setIfInBounds_toArray, List.set_cons_zero, List.set_cons_succ]
      refine wpAnyH_take (i := 11) (oi := ?oiq3x12) (v := _) ?hiq3x12 (by kernel_rfl) (by kernel_rfl) (by kernel_rfl) ?hQq3x12 (Or.inr ⟨?hwq3x12, rfl⟩) (by assumption) ?restq3x12
      case hiq3x12 => simp only [List.getElem?_toArray, List.getElem?_cons_succ, List.getElem?_cons_zero]; exact rfl
      case hQq3x12 => exact fun _ _ _ h => h
      case hwq3x12 => rfl
      try simp only [Act.put, List.setIfInBounds_toArray, List.set_cons_zero, List.set_cons_succ]
      refine wpAnyH_take (i := 12) (oi := ?oiq3x13) (v := _) ?hiq3x13 (by kernel_rfl) (by kernel_rfl) (by kernel_rfl) ?hQq3x13 (Or.inr ⟨?hwq3x13, rfl⟩) (by assumption) ?restq3x13
      case hiq3x13 => simp only [List.getElem?_toArray, List.getElem?_cons_succ, List.getElem?_cons_zero]; exact rfl
      case hQq3x13 => exact fun _ _ _ h => h
      case hwq3x13 => rfl
      try simp only [Act.put, List.setIfInBounds_toArray, List.set_cons_zero, List.set_cons_succ]
      refine wpAnyH_take (i := 13) (oi := ?oiq3x14) (v := _) ?hiq3x14 (by kernel_rfl) (by kernel_rfl) (by kernel_rfl) ?hQq3x14 (Or.inr ⟨?hwq3x14, rfl⟩) (by assumption) ?restq3x14
      case hiq3x14 => simp only [List.getElem?_toArray, List.getElem?_cons_succ, List.getElem?_cons_zero]; exact rfl
      case hQq3x14 => exact fun _ _ _ h => h
      case hwq3x14 => rfl
      try simp only [Act.put, List.setIfInBounds_toArray, List.set_cons_zero, List.set_cons_succ]
      refine wpAnyH_take (i := 14) (oi := ?oiq3x15) (v := _) ?hiq3x15 (by kernel_rfl) (by kernel_rfl) (by kernel_rfl) ?hQq3x15 (Or.inr ⟨?hwq3x15, rfl⟩) (by assumption) ?restq3x15
      case hiq3x15 => simp only [List.getElem?_toArray, List.getElem?_cons_succ, List.getElem?_cons_zero]; exact rfl
      case hQq3x15 => exact fun _ _ _ h => h
      case hwq3x15 => rfl
      try simp only [Act.put, List.setIfInBounds_toArray, List.set_cons_zero, List.set_cons_succ]
      refine wpAnyH_take (i := 15) (oi := ?oiq3x16) (v := ?vq3x16) ?hiq3x16 (by kernel_rfl) (by kernel_rfl) (by kernel_rfl) ?hQq3x16 (Or.inl ⟨?hwq3x16, ?hyq3x16⟩) (by assumption) ?restq3x16
      case hiq3x16 => simp only [List.getElem?_toArray, List.getElem?_cons_succ, List.getElem?_cons_zero]; exact rfl
      case hQq3x16 => exact fun _ _ _ h => h
      case hwq3x16 => rfl
      case hyq3x16 => ((intro w hSw; (try dsimp only at hSw); go_simp) <;> with_reducible rfl)
      try simp only [Act.put, List.setIfInBounds_toArray, List.set_cons_zero, List.set_cons_succ]
      refine wpAnyH_done (by kernel_rfl) ?_ _
      have hbq := HB.out.trans (hHeld.mono hbsz)
      clear hbel cB ko2
      rcases O1 with _ | a
      · obtain ⟨rfl, rfl⟩ := hO1 rfl
        generalize wr.drew = wq at *
        have hsq : w.heap.size + 3 ≤ wq.heap.size := Nat.le_trans hs1 hbq.size
        have hbD := hb1.trans (hbq.mono hb1.size)
        have ka := (hbq.block w.heap.size (by omega)).trans ka
        have ko := (hbq.block (w.heap.size + 1) (by omega)).trans ko
        have kr := (hbq.block (w.heap.size + 1 + 1) (by omega)).trans kr
        have hbE : Below wq.heap.size wq (wq.alloc (.cells #[] 28)) := (Below.refl _ _).alloc (Nat.le_refl _) _
        have hbDE := hbD.trans (hbE.mono hbD.size)
        have hlk : Lst (wq.alloc (.cells #[] 28)) w.heap.size 4 none 0 [] := Lst.nil _ w.heap.size 4 _
        have hq0 := own_mono (base' := w.heap.size + 3) (own_empty wq 28 4) hsq
        clear hbq
        go_wp2_with (at_builtin; refine wpList_app_atO _ rfl _ _ 24 rfl (w.heap.size + 3) 28 i0 _ 4 32 Try.underlying24 hi hz0 hz1 hz2 rfl (by decide) _ _ _ rfl hq0 none 0 0 (fun _ => ⟨rfl, rfl⟩) (nums []) rfl (by rw [nums_length]; exact hlk.1) hlk.newsO (nums_one _) (by unfold maxLen; omega) (by omega) (by simp; omega) ?_)
        intro v5 w5 hown5 hgrow5 hat5
        have hso5 : v5.ownBlock.isSome = true := some_at hat5 rfl
        clear hat5
        have hbD5 := hbDE.grown hgrow5 hbDE.size (fun q hq => by simp [Value.ownBlock] at hq; omega)
        have ka := (hgrow5.block w.heap.size (by simp; omega) (fun e => by simp [Value.ownBlock] at e; omega)).trans ((hbE.block _ (by omega)).trans ka)
        have ko := (hgrow5.block (w.heap.size + 1) (by simp; omega) (fun e => by simp [Value.ownBlock] at e; omega)).trans ((hbE.block _ (by omega)).trans ko)
        have kr := (hgrow5.block (w.heap.size + 1 + 1) (by simp; omega) (fun e => by simp [Value.ownBlock] at e; omega)).trans ((hbE.block _ (by omega)).trans kr)
        have hs5 : w.heap.size + 3 ≤ w5.heap.size := by have := hgrow5.size; simp at this; omega
        obtain ⟨A5, d5, rfl, _, _⟩ := own_slice hown5
        have o0 := cell_of_row w5 (w.heap.size + 1) 0 _ _ (0, 0) ko
        have o1 := cell_of_row w5 (w.heap.size + 1) 1 _ _ (0, 0) ko
        have o2 := cell_of_row w5 (w.heap.size + 1) 2 _ _ (0, 0) ko
        have o3 := cell_of_row w5 (w.heap.size + 1) 3 _ _ (0, 0) ko
        simp at o0 o1 o2 o3
        have hov5 := hown5.lt
        clear hgrow5 hbDE hbE hbD hq0 hlk
        go_wp2_with (at_builtin; refine wpList_append_own_at _ rfl _ _ 24 rfl (w.heap.size + 3) 28 i0 _ 4 32 Try.underlying24 hi hz0 hz1 hz2 rfl (by decide) _ _ _ rfl (hown5.alloc _) ⟨w5.heap.size, 0, none⟩ 1 1 [.int .i64 oi, .int .i64 oa, .int .i64 op, .int .i64 oq] rfl rfl (World.news_of_block (heap_alloc_new w5 _)) (by intro u hu; simp at hu; rcases hu with rfl | rfl | rfl | rfl <;> rfl) (by unfold maxLen; omega) (by omega) (by simp; omega) ?_)
        intro v6 w6 hown6 hgrow6 _ hat6
        have HSO6 := Lib.hid (some_at hat6 hso5)
        clear hat6 hso5
        rw [show nums [] ++ [.int .i64 oi, .int .i64 oa, .int .i64 op, .int .i64 oq] = nums ([] ++ [oi, oa, op, oq]) from by rw [nums_append]; rfl] at hown6
        have hbD6 := (hbD5.alloc hbD5.size (.cells #[.int .i64 oi, .int .i64 oa, .int .i64 op, .int .i64 oq] 28)).grown hgrow6 (by simp; omega) (fun q hq => by have := (hov5 q hq).1; omega)
        have ka := (hgrow6.block w.heap.size (by simp; omega) (fun e => by have := (hov5 _ e.symm).1; omega)).trans ((Below.heap_alloc w5 _ _ (by omega)).trans ka)
        have kr := (hgrow6.block (w.heap.size + 1 + 1) (by simp; omega) (fun e => by have := (hov5 _ e.symm).1; omega)).trans ((Below.heap_alloc w5 _ _ (by omega)).trans kr)
        have hs6 : w.heap.size + 3 ≤ w6.heap.size := by have := hgrow6.size; simp at this; omega
        obtain ⟨A6, d6, rfl, _, _⟩ := own_slice hown6
        have q0 := cell_of_row w6 w.heap.size 0 _ _ (0, 0) ka
        have q1 := cell_of_row w6 w.heap.size 1 _ _ (0, 0) ka
        simp at q0 q1
        clear hgrow6 hbD5 hov5 hown5 o0 o1 o2 o3 ko
        go_upto_region 7 with fail
        refine wp_region_held_drew (S := (fun w' => Below w.heap.size w w' ∧ w'.cell? ⟨w.heap.size, 0, none⟩ = some (.slice none 0 0) ∧ w'.cell? ⟨w.heap.size, 1, none⟩ = some (.slice O2 m d) ∧ w.heap.size + 3 ≤ w'.heap.size ∧ ∃ x y, w'.heap[w.heap.size + 1 + 1]? = some (.cells #[x, y] 26 (0, 0)))) (by kernel_rfl) ?hSr32 (fun hHeld => ?restr32)
        case hSr32 => exact ⟨hbD6.drew, q0, q1, hs6, _, _, kr⟩
        refine wpAnyH_take (i := 0) (oi := ?oiw33) (v := ?vw33) ?hiw33 (by kernel_rfl) (by kernel_rfl) (by kernel_rfl) ?hQw33 (Or.inl ⟨?hww33, ?hyw33⟩) (by assumption) ?restw33
        case hiw33 => simp only [List.getElem?_toArray, List.getElem?_cons_succ, List.getElem?_cons_zero]; exact rfl
        case hQw33 => exact fun _ _ _ h => h
        case hww33 => rfl
        case hyw33 => ((intro w hSw; (try dsimp only at hSw); go_simp) <;> with_reducible rfl)
        try simp only [Act.put, List.setIfInBounds_toArray, List.set_cons_zero, List.set_cons_succ]
        refine wpAnyH_take (i := 1) (oi := ?oiw34) (v := ?vw34) ?hiw34 (by kernel_rfl) (by kernel_rfl) (by kernel_rfl) ?hQw34 (Or.inl ⟨?hww34, ?hyw34⟩) (by assumption) ?restw34
        case hiw34 => simp only [List.getElem?_toArray, List.getElem?_cons_succ, List.getElem?_cons_zero]; exact rfl
        case hQw34 => exact fun _ _ _ h => h
        case hww34 => rfl
        case hyw34 => ((intro w hSw; (try dsimp only at hSw); go_simp) <;> with_reducible rfl)
        try simp only [Act.put, List.setIfInBounds_toArray, List.set_cons_zero, List.set_cons_succ]
        refine wpAnyH_take (i := 2) (oi := ?oiw35) (v := ?vw35) ?hiw35 (by kernel_rfl) (by kernel_rfl) (by kernel_rfl) ?hQw35 (Or.inl ⟨?hww35, ?hyw35⟩) (by assumption) ?restw35
        case hiw35 => simp only [List.getElem?_toArray, List.getElem?_cons_succ, List.getElem?_cons_zero]; exact rfl
        case hQw35 => exact fun _ _ _ h => h
        case hww35 => rfl
        case hyw35 => ((intro w hSw; (try dsimp only at hSw); go_simp) <;> with_reducible rfl)
        try simp only [Act.put, List.setIfInBounds_toArray, List.set_cons_zero, List.set_cons_succ]
        refine wpAnyH_take (i := 3) (oi := ?oiw36) (v := ?vw36) ?hiw36 (by kernel_rfl) (by kernel_rfl) (by kernel_rfl) ?hQw36 (Or.inl ⟨?hww36, ?hyw36⟩) (by assumption) ?restw36
        case hiw36 => simp only [List.getElem?_toArray, List.getElem?_cons_succ, List.getElem?_cons_zero]; exact rfl
        case hQw36 => exact fun _ _ _ h => h
        case hww36 => rfl
        case hyw36 => ((intro w hSw; (try dsimp only at hSw); go_simp) <;> with_reducible rfl)
        try simp only [Act.put, List.setIfInBounds_toArray, List.set_cons_zero, List.set_cons_succ]
        refine wpAnyH_take (i := 4) (oi := ?oiw37) (v := ?vw37) ?hiw37 (by kernel_rfl) (by kernel_rfl) (by kernel_rfl) ?hQw37 (Or.inl ⟨?hww37, ?hyw37⟩) (by assumption) ?restw37
        case hiw37 => simp only [List.getElem?_toArray, List.getElem?_cons_succ, List.getElem?_cons_zero]; exact rfl
        case hQw37 => exact fun _ _ _ h => h
        case hww37 => rfl
        case hyw37 => ((intro w hSw; (try dsimp only at hSw); go_simp) <;> with_reducible rfl)
        try simp only [Act.put, List.setIfInBounds_toArray, List.set_cons_zero, List.set_cons_succ]
        refine wpAnyH_take (i := 5) (oi := ?oiw38) (v := ?vw38) ?hiw38 (by kernel_rfl) (by kernel_rfl) (by kernel_rfl) ?hQw38 (Or.inl ⟨?hww38, ?hyw38⟩) (by assumption) ?restw38
        case hiw38 => simp only [List.getElem?_toArray, List.getElem?_cons_succ, List.getElem?_cons_zero]; exact rfl
        case hQw38 => exact fun _ _ _ h => h
        case hww38 => rfl
        case hyw38 => ((intro w hSw; (try dsimp only at hSw); go_simp) <;> with_reducible rfl)
        try simp only [Act.put, List.setIfInBounds_toArray, List.set_cons_zero, List.set_cons_succ]
        refine wpAnyH_ready (rs := [6]) (by kernel_rfl) (by simp) ?_
        refine AllReadyH.cons (o := ?ow39) ?how39 (fun K hK => ?stepw39) ?morew39
        case how39 => simp only [List.getElem?_toArray, List.getElem?_cons_succ, List.getElem?_cons_zero]; exact rfl
        case morew39 => exact AllReadyH.nil
        have hsz7 := hHeld.2.2.2.1
        (refine step_appX _ rfl _ _ rfl (w.heap.size + 3) (.slice A6 (0 + 1) d6) rfl (0 + 1) ([] ++ [oi, oa, op, oq]) (own_below hown6 (Below.refl _ w6).drew) _ 0 _ (fun _ => ⟨rfl, rfl⟩) [] rfl w.heap.size (Lst.nil _ w.heap.size 4 _) (by omega) (by omega) hsz7 ?_; intro r7 u7 hown7 hgrow7 hat7)
        have hlt7 := hown6.lt
        refine hK.out _ _ ?hSw39 (fun hHeld => ?restw39)
        case hSw39 => exact rsS_grown hHeld hgrow7 (fun q hq => (hlt7 q hq).1)
        clear hK K
        try simp only [Act.put, List.setIfInBounds_toArray, List.set_cons_zero, List.set_cons_succ]
        have HSO7 := Lib.hid (some_at hat7 HSO6.out)
        clear hat7
        obtain ⟨A7, d7, rfl, _, _⟩ := own_slice hown7
        refine wpAnyH_ready (rs := [7]) (by kernel_rfl) (by simp) ?_
        refine AllReadyH.cons (o := ?ow40) ?how40 (fun K hK => ?stepw40) ?morew40
        case how40 => simp only [List.getElem?_toArray, List.getElem?_cons_succ, List.getElem?_cons_zero]; exact rfl
        case morew40 => exact AllReadyH.nil
        go_simp
        go_at_call 88
        refine (spec_l2With1 _ _ _ _ _ _ za zb A7 _ d7 u7 ((ha.below hHeld.1).more hHeld.1.size) ((hb.below hHeld.1).more hHeld.1.size) (by omega) (by omega) (fun _ => ⟨rfl, rfl⟩) hO2).mono ?_
        rintro e u8 ⟨⟨r8, rfl, ho8, hso8⟩, hb8⟩
        have hlt7' := hown7.lt
        refine hK.out _ _ ?hSw40 (fun hHeld => ?restw40)
        case hSw40 => exact rsS_below hHeld hb8
        clear hK K
        try simp only [Act.put, List.setIfInBounds_toArray, List.set_cons_zero, List.set_cons_succ]
        have HSO8 := Lib.hid hso8
        clear hso8
        have hown7 := own_below hown7 hb8
        obtain ⟨A8, d8, rfl, _, _⟩ := own_slice ho8
        have hX := hHeld
        obtain ⟨x, y, hr⟩ := hX.2.2.2.2
        have r0 := cell_of_row u8 (w.heap.size + 1 + 1) 0 _ _ (0, 0) hr
        have r1 := cell_of_row u8 (w.heap.size + 1 + 1) 1 _ _ (0, 0) hr
        have z0 := frozen_of_row u8 (w.heap.size + 1 + 1) 0 _ _ hr
        have z1 := frozen_of_row u8 (w.heap.size + 1 + 1) 1 _ _ hr
        simp at r0 r1
        have E0 := Lib.hid (heap_set1 (u := (.slice A8 m d8)) (heap_set0 (u := (.slice A7 (0 + 1 + 0) d7)) hr))
        refine wpAnyH_ready (rs := [8]) (by kernel_rfl) (by simp) ?_
        refine AllReadyH.cons (o := ?ow41) ?how41 (fun K hK => ?stepw41) ?morew41
        case how41 => simp only [List.getElem?_toArray, List.getElem?_cons_succ, List.getElem?_cons_zero]; exact rfl
        case morew41 => exact AllReadyH.nil
        go_simp
        refine hK.out _ _ ?hSw41 (fun hHeld => ?restw41)
        case hSw41 => exact rsS_set hX _ _
        clear hK K
        try simp only [Act.put, List.setIfInBounds_toArray, List.set_cons_zero, List.set_cons_succ]
        refine wpAnyH_done (by kernel_rfl) ?_ _
        have f0 := cell_of_row _ (w.heap.size + 1 + 1) 0 _ _ (0, 0) E0.out
        have f1 := cell_of_row _ (w.heap.size + 1 + 1) 1 _ _ (0, 0) E0.out
        simp at f0 f1
        have hz8 : w.heap.size + 3 ≤ u7.heap.size := Nat.le_trans hsz7 hgrow7.size
        have hne : ∀ q, (Value.slice A7 (0 + 1 + 0) d7).ownBlock = some q → (Value.slice A8 m d8).ownBlock ≠ some q := fun q h1 h2 => by have a := (hlt7' q h1).2; have b := (ho8.lt q h2).1; omega
        have HT := Lib.hid (((TwoRows.mk hown7 (own_mono ho8 hz8) hne).kept (set_grown u8 (w.heap.size + 1 + 1) 0 (.slice A7 (0 + 1 + 0) d7)) (by omega)).kept (set_grown _ (w.heap.size + 1 + 1) 1 (.slice A8 m d8)) (by omega))
        have HB2 := Lib.hid ((hX.1.setCell (p := ⟨w.heap.size + 1 + 1, 0, none⟩) (show w.heap.size ≤ w.heap.size + 1 + 1 by omega) (.slice A7 (0 + 1 + 0) d7)).setCell (p := ⟨w.heap.size + 1 + 1, 1, none⟩) (show w.heap.size ≤ w.heap.size + 1 + 1 by omega) (.slice A8 m d8))
        clear hown7 ho8 hX hHeld hr r0 r1
        go_wp2_with fail
        exact bodyPost_ret (v := .agg #[.slice A7 (0 + 1 + 0) d7, .slice A8 m d8]) (by simp [results, Try.results101, go_sem, f0, f1]) rfl ⟨⟨_, _, rfl, rest_rows1_end HL.out ha.1 hk (HT.out.mono (by omega)), HSO7.out, HSO8.out⟩, HB2.out⟩
      · skip
        generalize wr.drew = wq at *
        have hsq : w.heap.size + 3 ≤ wq.heap.size := Nat.le_trans hs1 hbq.size
        have hbD := hb1.trans (hbq.mono hb1.size)
        have ka := (hbq.block w.heap.size (by omega)).trans ka
        have ko := (hbq.block (w.heap.size + 1) (by omega)).trans ko
        have kr := (hbq.block (w.heap.size + 1 + 1) (by omega)).trans kr
        have hbE : Below wq.heap.size wq (wq.alloc (.cells #[] 28)) := (Below.refl _ _).alloc (Nat.le_refl _) _
        have hbDE := hbD.trans (hbE.mono hbD.size)
        have hlk := Lst.take (k := k) (ha.below hbDE) hk
        have hq0 := own_mono (base' := w.heap.size + 3) (own_empty wq 28 4) hsq
        clear hbq
        go_wp2_with (at_builtin; refine wpList_app_atO _ rfl _ _ 24 rfl (w.heap.size + 3) 28 i0 _ 4 32 Try.underlying24 hi hz0 hz1 hz2 rfl (by decide) _ _ _ rfl hq0 (some a) k c (fun e => by cases e) (nums (za.take (k * 4))) rfl (by rw [nums_length]; exact hlk.1) hlk.newsO (nums_one _) (by unfold maxLen; omega) (by omega) (by simp; omega) ?_)
        intro v5 w5 hown5 hgrow5 hat5
        have hso5 : v5.ownBlock.isSome = true := some_at hat5 rfl
        clear hat5
        have hbD5 := hbDE.grown hgrow5 hbDE.size (fun q hq => by simp [Value.ownBlock] at hq; omega)
        have ka := (hgrow5.block w.heap.size (by simp; omega) (fun e => by simp [Value.ownBlock] at e; omega)).trans ((hbE.block _ (by omega)).trans ka)
        have ko := (hgrow5.block (w.heap.size + 1) (by simp; omega) (fun e => by simp [Value.ownBlock] at e; omega)).trans ((hbE.block _ (by omega)).trans ko)
        have kr := (hgrow5.block (w.heap.size + 1 + 1) (by simp; omega) (fun e => by simp [Value.ownBlock] at e; omega)).trans ((hbE.block _ (by omega)).trans kr)
        have hs5 : w.heap.size + 3 ≤ w5.heap.size := by have := hgrow5.size; simp at this; omega
        obtain ⟨A5, d5, rfl, _, _⟩ := own_slice hown5
        have o0 := cell_of_row w5 (w.heap.size + 1) 0 _ _ (0, 0) ko
        have o1 := cell_of_row w5 (w.heap.size + 1) 1 _ _ (0, 0) ko
        have o2 := cell_of_row w5 (w.heap.size + 1) 2 _ _ (0, 0) ko
        have o3 := cell_of_row w5 (w.heap.size + 1) 3 _ _ (0, 0) ko
        simp at o0 o1 o2 o3
        have hov5 := hown5.lt
        clear hgrow5 hbDE hbE hbD hq0 hlk
        go_wp2_with (at_builtin; refine wpList_append_own_at _ rfl _ _ 24 rfl (w.heap.size + 3) 28 i0 _ 4 32 Try.underlying24 hi hz0 hz1 hz2 rfl (by decide) _ _ _ rfl (hown5.alloc _) ⟨w5.heap.size, 0, none⟩ 1 1 [.int .i64 oi, .int .i64 oa, .int .i64 op, .int .i64 oq] rfl rfl (World.news_of_block (heap_alloc_new w5 _)) (by intro u hu; simp at hu; rcases hu with rfl | rfl | rfl | rfl <;> rfl) (by unfold maxLen; omega) (by omega) (by simp; omega) ?_)
        intro v6 w6 hown6 hgrow6 _ hat6
        have HSO6 := Lib.hid (some_at hat6 hso5)
        clear hat6 hso5
        rw [show nums (za.take (k * 4)) ++ [.int .i64 oi, .int .i64 oa, .int .i64 op, .int .i64 oq] = nums ((za.take (k * 4)) ++ [oi, oa, op, oq]) from by rw [nums_append]; rfl] at hown6
        have hbD6 := (hbD5.alloc hbD5.size (.cells #[.int .i64 oi, .int .i64 oa, .int .i64 op, .int .i64 oq] 28)).grown hgrow6 (by simp; omega) (fun q hq => by have := (hov5 q hq).1; omega)
        have ka := (hgrow6.block w.heap.size (by simp; omega) (fun e => by have := (hov5 _ e.symm).1; omega)).trans ((Below.heap_alloc w5 _ _ (by omega)).trans ka)
        have kr := (hgrow6.block (w.heap.size + 1 + 1) (by simp; omega) (fun e => by have := (hov5 _ e.symm).1; omega)).trans ((Below.heap_alloc w5 _ _ (by omega)).trans kr)
        have hs6 : w.heap.size + 3 ≤ w6.heap.size := by have := hgrow6.size; simp at this; omega
        obtain ⟨A6, d6, rfl, _, _⟩ := own_slice hown6
        have q0 := cell_of_row w6 w.heap.size 0 _ _ (0, 0) ka
        have q1 := cell_of_row w6 w.heap.size 1 _ _ (0, 0) ka
        simp at q0 q1
        clear hgrow6 hbD5 hov5 hown5 o0 o1 o2 o3 ko
        go_upto_region 7 with fail
        rcases Nat.lt_or_eq_of_le (show k ≤ c by omega) with hck | hck
        · have hck' : ¬ (c = k) := by omega
          refine wp_region_held_drew (S := (fun w' => Below w.heap.size w w' ∧ w'.cell? ⟨w.heap.size, 0, none⟩ = some (.slice (some a) k c) ∧ w'.cell? ⟨w.heap.size, 1, none⟩ = some (.slice O2 m d) ∧ w.heap.size + 3 ≤ w'.heap.size ∧ ∃ x y, w'.heap[w.heap.size + 1 + 1]? = some (.cells #[x, y] 26 (0, 0)))) (by kernel_rfl) ?hSr42 (fun hHeld => ?restr42)
          case hSr42 => exact ⟨hbD6.drew, q0, q1, hs6, _, _, kr⟩
          refine wpAnyH_take (i := 0) (oi := ?oiw43) (v := ?vw43) ?hiw43 (by kernel_rfl) (by kernel_rfl) (by kernel_rfl) ?hQw43 (Or.inl ⟨?hww43, ?hyw43⟩) (by assumption) ?restw43
          case hiw43 => simp only [List.getElem?_toArray, List.getElem?_cons_succ, List.getElem?_cons_zero]; exact rfl
          case hQw43 => exact fun _ _ _ h => h
          case hww43 => rfl
          case hyw43 => ((intro w hSw; (try dsimp only at hSw); go_simp) <;> with_reducible rfl)
          try simp only [Act.put, List.setIfInBounds_toArray, List.set_cons_zero, List.set_cons_succ]
          refine wpAnyH_take (i := 1) (oi := ?oiw44) (v := ?vw44) ?hiw44 (by kernel_rfl) (by kernel_rfl) (by kernel_rfl) ?hQw44 (Or.inl ⟨?hww44, ?hyw44⟩) (by assumption) ?restw44
          case hiw44 => simp only [List.getElem?_toArray, List.getElem?_cons_succ, List.getElem?_cons_zero]; exact rfl
          case hQw44 => exact fun _ _ _ h => h
          case hww44 => rfl
          case hyw44 => ((intro w hSw; (try dsimp only at hSw); go_simp) <;> with_reducible rfl)
          try simp only [Act.put, List.setIfInBounds_toArray, List.set_cons_zero, List.set_cons_succ]
          refine wpAnyH_take (i := 2) (oi := ?oiw45) (v := ?vw45) ?hiw45 (by kernel_rfl) (by kernel_rfl) (by kernel_rfl) ?hQw45 (Or.inl ⟨?hww45, ?hyw45⟩) (by assumption) ?restw45
          case hiw45 => simp only [List.getElem?_toArray, List.getElem?_cons_succ, List.getElem?_cons_zero]; exact rfl
          case hQw45 => exact fun _ _ _ h => h
          case hww45 => rfl
          case hyw45 => ((intro w hSw; (try dsimp only at hSw); go_simp) <;> with_reducible rfl)
          try simp only [Act.put, List.setIfInBounds_toArray, List.set_cons_zero, List.set_cons_succ]
          refine wpAnyH_take (i := 3) (oi := ?oiw46) (v := ?vw46) ?hiw46 (by kernel_rfl) (by kernel_rfl) (by kernel_rfl) ?hQw46 (Or.inl ⟨?hww46, ?hyw46⟩) (by assumption) ?restw46
          case hiw46 => simp only [List.getElem?_toArray, List.getElem?_cons_succ, List.getElem?_cons_zero]; exact rfl
          case hQw46 => exact fun _ _ _ h => h
          case hww46 => rfl
          case hyw46 => ((intro w hSw; (try dsimp only at hSw); go_simp) <;> with_reducible rfl)
          try simp only [Act.put, List.setIfInBounds_toArray, List.set_cons_zero, List.set_cons_succ]
          refine wpAnyH_take (i := 4) (oi := ?oiw47) (v := ?vw47) ?hiw47 (by kernel_rfl) (by kernel_rfl) (by kernel_rfl) ?hQw47 (Or.inl ⟨?hww47, ?hyw47⟩) (by assumption) ?restw47
          case hiw47 => simp only [List.getElem?_toArray, List.getElem?_cons_succ, List.getElem?_cons_zero]; exact rfl
          case hQw47 => exact fun _ _ _ h => h
          case hww47 => rfl
          case hyw47 => ((intro w hSw; (try dsimp only at hSw); go_simp) <;> with_reducible rfl)
          try simp only [Act.put, List.setIfInBounds_toArray, List.set_cons_zero, List.set_cons_succ]
          refine wpAnyH_take (i := 5) (oi := ?oiw48) (v := ?vw48) ?hiw48 (by kernel_rfl) (by kernel_rfl) (by kernel_rfl) ?hQw48 (Or.inl ⟨?hww48, ?hyw48⟩) (by assumption) ?restw48
          case hiw48 => simp only [List.getElem?_toArray, List.getElem?_cons_succ, List.getElem?_cons_zero]; exact rfl
          case hQw48 => exact fun _ _ _ h => h
          case hww48 => rfl
          case hyw48 => ((intro w hSw; (try dsimp only at hSw); go_simp) <;> with_reducible rfl)
          try simp only [Act.put, List.setIfInBounds_toArray, List.set_cons_zero, List.set_cons_succ]
          refine wpAnyH_ready (rs := [6]) (by kernel_rfl) (by simp) ?_
          refine AllReadyH.cons (o := ?ow49) ?how49 (fun K hK => ?stepw49) ?morew49
          case how49 => simp only [List.getElem?_toArray, List.getElem?_cons_succ, List.getElem?_cons_zero]; exact rfl
          case morew49 => exact AllReadyH.nil
          have hsz7 := hHeld.2.2.2.1
          (refine step_appX _ rfl _ _ rfl (w.heap.size + 3) (.slice A6 (k + 1) d6) rfl (k + 1) ((za.take (k * 4)) ++ [oi, oa, op, oq]) (own_below hown6 (Below.refl _ w6).drew) _ 0 _ (fun e => by cases e) [] rfl w.heap.size (Lst.nil _ w.heap.size 4 _) (by omega) (by omega) hsz7 ?_; intro r7 u7 hown7 hgrow7 hat7)
          have hlt7 := hown6.lt
          refine hK.out _ _ ?hSw49 (fun hHeld => ?restw49)
          case hSw49 => exact rsS_grown hHeld hgrow7 (fun q hq => (hlt7 q hq).1)
          clear hK K
          try simp only [Act.put, List.setIfInBounds_toArray, List.set_cons_zero, List.set_cons_succ]
          have HSO7 := Lib.hid (some_at hat7 HSO6.out)
          clear hat7
          obtain ⟨A7, d7, rfl, _, _⟩ := own_slice hown7
          refine wpAnyH_ready (rs := [7]) (by kernel_rfl) (by simp) ?_
          refine AllReadyH.cons (o := ?ow50) ?how50 (fun K hK => ?stepw50) ?morew50
          case how50 => simp only [List.getElem?_toArray, List.getElem?_cons_succ, List.getElem?_cons_zero]; exact rfl
          case morew50 => exact AllReadyH.nil
          go_simp
          go_at_call 88
          refine (spec_l2With1 _ _ _ _ _ _ za zb A7 _ d7 u7 ((ha.below hHeld.1).more hHeld.1.size) ((hb.below hHeld.1).more hHeld.1.size) (by omega) (by omega) hO1 hO2).mono ?_
          rintro e u8 ⟨⟨r8, rfl, ho8, hso8⟩, hb8⟩
          have hlt7' := hown7.lt
          refine hK.out _ _ ?hSw50 (fun hHeld => ?restw50)
          case hSw50 => exact rsS_below hHeld hb8
          clear hK K
          try simp only [Act.put, List.setIfInBounds_toArray, List.set_cons_zero, List.set_cons_succ]
          have HSO8 := Lib.hid hso8
          clear hso8
          have hown7 := own_below hown7 hb8
          obtain ⟨A8, d8, rfl, _, _⟩ := own_slice ho8
          have hX := hHeld
          obtain ⟨x, y, hr⟩ := hX.2.2.2.2
          have r0 := cell_of_row u8 (w.heap.size + 1 + 1) 0 _ _ (0, 0) hr
          have r1 := cell_of_row u8 (w.heap.size + 1 + 1) 1 _ _ (0, 0) hr
          have z0 := frozen_of_row u8 (w.heap.size + 1 + 1) 0 _ _ hr
          have z1 := frozen_of_row u8 (w.heap.size + 1 + 1) 1 _ _ hr
          simp at r0 r1
          have E0 := Lib.hid (heap_set1 (u := (.slice A8 m d8)) (heap_set0 (u := (.slice A7 (k + 1 + 0) d7)) hr))
          refine wpAnyH_ready (rs := [8]) (by kernel_rfl) (by simp) ?_
          refine AllReadyH.cons (o := ?ow51) ?how51 (fun K hK => ?stepw51) ?morew51
          case how51 => simp only [List.getElem?_toArray, List.getElem?_cons_succ, List.getElem?_cons_zero]; exact rfl
          case morew51 => exact AllReadyH.nil
          go_simp
          refine hK.out _ _ ?hSw51 (fun hHeld => ?restw51)
          case hSw51 => exact rsS_set hX _ _
          clear hK K
          try simp only [Act.put, List.setIfInBounds_toArray, List.set_cons_zero, List.set_cons_succ]
          refine wpAnyH_done (by kernel_rfl) ?_ _
          have f0 := cell_of_row _ (w.heap.size + 1 + 1) 0 _ _ (0, 0) E0.out
          have f1 := cell_of_row _ (w.heap.size + 1 + 1) 1 _ _ (0, 0) E0.out
          simp at f0 f1
          have hz8 : w.heap.size + 3 ≤ u7.heap.size := Nat.le_trans hsz7 hgrow7.size
          have hne : ∀ q, (Value.slice A7 (k + 1 + 0) d7).ownBlock = some q → (Value.slice A8 m d8).ownBlock ≠ some q := fun q h1 h2 => by have a := (hlt7' q h1).2; have b := (ho8.lt q h2).1; omega
          have HT := Lib.hid (((TwoRows.mk hown7 (own_mono ho8 hz8) hne).kept (set_grown u8 (w.heap.size + 1 + 1) 0 (.slice A7 (k + 1 + 0) d7)) (by omega)).kept (set_grown _ (w.heap.size + 1 + 1) 1 (.slice A8 m d8)) (by omega))
          have HB2 := Lib.hid ((hX.1.setCell (p := ⟨w.heap.size + 1 + 1, 0, none⟩) (show w.heap.size ≤ w.heap.size + 1 + 1 by omega) (.slice A7 (k + 1 + 0) d7)).setCell (p := ⟨w.heap.size + 1 + 1, 1, none⟩) (show w.heap.size ≤ w.heap.size + 1 + 1 by omega) (.slice A8 m d8))
          clear hown7 ho8 hX hHeld hr r0 r1
          go_wp2_with fail
          exact bodyPost_ret (v := .agg #[.slice A7 (k + 1 + 0) d7, .slice A8 m d8]) (by simp [results, Try.results101, go_sem, f0, f1]) rfl ⟨⟨_, _, rfl, rest_rows1_end HL.out ha.1 hk (HT.out.mono (by omega)), HSO7.out, HSO8.out⟩, HB2.out⟩
        · subst hck
          refine wp_region_held_drew (S := (fun w' => Below w.heap.size w w' ∧ w'.cell? ⟨w.heap.size, 0, none⟩ = some (.slice (some a) k k) ∧ w'.cell? ⟨w.heap.size, 1, none⟩ = some (.slice O2 m d) ∧ w.heap.size + 3 ≤ w'.heap.size ∧ ∃ x y, w'.heap[w.heap.size + 1 + 1]? = some (.cells #[x, y] 26 (0, 0)))) (by kernel_rfl) ?hSr52 (fun hHeld => ?restr52)
          case hSr52 => exact ⟨hbD6.drew, q0, q1, hs6, _, _, kr⟩
          refine wpAnyH_take (i := 0) (oi := ?oiw53) (v := ?vw53) ?hiw53 (by kernel_rfl) (by kernel_rfl) (by kernel_rfl) ?hQw53 (Or.inl ⟨?hww53, ?hyw53⟩) (by assumption) ?restw53
          case hiw53 => simp only [List.getElem?_toArray, List.getElem?_cons_succ, List.getElem?_cons_zero]; exact rfl
          case hQw53 => exact fun _ _ _ h => h
          case hww53 => rfl
          case hyw53 => ((intro w hSw; (try dsimp only at hSw); go_simp) <;> with_reducible rfl)
          try simp only [Act.put, List.setIfInBounds_toArray, List.set_cons_zero, List.set_cons_succ]
          refine wpAnyH_take (i := 1) (oi := ?oiw54) (v := ?vw54) ?hiw54 (by kernel_rfl) (by kernel_rfl) (by kernel_rfl) ?hQw54 (Or.inl ⟨?hww54, ?hyw54⟩) (by assumption) ?restw54
          case hiw54 => simp only [List.getElem?_toArray, List.getElem?_cons_succ, List.getElem?_cons_zero]; exact rfl
          case hQw54 => exact fun _ _ _ h => h
          case hww54 => rfl
          case hyw54 => ((intro w hSw; (try dsimp only at hSw); go_simp) <;> with_reducible rfl)
          try simp only [Act.put, List.setIfInBounds_toArray, List.set_cons_zero, List.set_cons_succ]
          refine wpAnyH_take (i := 2) (oi := ?oiw55) (v := ?vw55) ?hiw55 (by kernel_rfl) (by kernel_rfl) (by kernel_rfl) ?hQw55 (Or.inl ⟨?hww55, ?hyw55⟩) (by assumption) ?restw55
          case hiw55 => simp only [List.getElem?_toArray, List.getElem?_cons_succ, List.getElem?_cons_zero]; exact rfl
          case hQw55 => exact fun _ _ _ h => h
          case hww55 => rfl
          case hyw55 => ((intro w hSw; (try dsimp only at hSw); go_simp) <;> with_reducible rfl)
          try simp only [Act.put, List.setIfInBounds_toArray, List.set_cons_zero, List.set_cons_succ]
          refine wpAnyH_take (i := 3) (oi := ?oiw56) (v := ?vw56) ?hiw56 (by kernel_rfl) (by kernel_rfl) (by kernel_rfl) ?hQw56 (Or.inl ⟨?hww56, ?hyw56⟩) (by assumption) ?restw56
          case hiw56 => simp only [List.getElem?_toArray, List.getElem?_cons_succ, List.getElem?_cons_zero]; exact rfl
          case hQw56 => exact fun _ _ _ h => h
          case hww56 => rfl
          case hyw56 => ((intro w hSw; (try dsimp only at hSw); go_simp) <;> with_reducible rfl)
          try simp only [Act.put, List.setIfInBounds_toArray, List.set_cons_zero, List.set_cons_succ]
          refine wpAnyH_take (i := 4) (oi := ?oiw57) (v := ?vw57) ?hiw57 (by kernel_rfl) (by kernel_rfl) (by kernel_rfl) ?hQw57 (Or.inl ⟨?hww57, ?hyw57⟩) (by assumption) ?restw57
          case hiw57 => simp only [List.getElem?_toArray, List.getElem?_cons_succ, List.getElem?_cons_zero]; exact rfl
          case hQw57 => exact fun _ _ _ h => h
          case hww57 => rfl
          case hyw57 => ((intro w hSw; (try dsimp only at hSw); go_simp) <;> with_reducible rfl)
          try simp only [Act.put, List.setIfInBounds_toArray, List.set_cons_zero, List.set_cons_succ]
          refine wpAnyH_take (i := 5) (oi := ?oiw58) (v := ?vw58) ?hiw58 (by kernel_rfl) (by kernel_rfl) (by kernel_rfl) ?hQw58 (Or.inl ⟨?hww58, ?hyw58⟩) (by assumption) ?restw58
          case hiw58 => simp only [List.getElem?_toArray, List.getElem?_cons_succ, List.getElem?_cons_zero]; exact rfl
          case hQw58 => exact fun _ _ _ h => h
          case hww58 => rfl
          case hyw58 => ((intro w hSw; (try dsimp only at hSw); go_simp) <;> with_reducible rfl)
          try simp only [Act.put, List.setIfInBounds_toArray, List.set_cons_zero, List.set_cons_succ]
          refine wpAnyH_ready (rs := [6]) (by kernel_rfl) (by simp) ?_
          refine AllReadyH.cons (o := ?ow59) ?how59 (fun K hK => ?stepw59) ?morew59
          case how59 => simp only [List.getElem?_toArray, List.getElem?_cons_succ, List.getElem?_cons_zero]; exact rfl
          case morew59 => exact AllReadyH.nil
          have hsz7 := hHeld.2.2.2.1
          (refine step_appX _ rfl _ _ rfl (w.heap.size + 3) (.slice A6 (k + 1) d6) rfl (k + 1) ((za.take (k * 4)) ++ [oi, oa, op, oq]) (own_below hown6 (Below.refl _ w6).drew) _ 0 _ (fun e => by cases e) [] rfl w.heap.size (Lst.nil _ w.heap.size 4 _) (by omega) (by omega) hsz7 ?_; intro r7 u7 hown7 hgrow7 hat7)
          have hlt7 := hown6.lt
          refine hK.out _ _ ?hSw59 (fun hHeld => ?restw59)
          case hSw59 => exact rsS_grown hHeld hgrow7 (fun q hq => (hlt7 q hq).1)
          clear hK K
          try simp only [Act.put, List.setIfInBounds_toArray, List.set_cons_zero, List.set_cons_succ]
          have HSO7 := Lib.hid (some_at hat7 HSO6.out)
          clear hat7
          obtain ⟨A7, d7, rfl, _, _⟩ := own_slice hown7
          refine wpAnyH_ready (rs := [7]) (by kernel_rfl) (by simp) ?_
          refine AllReadyH.cons (o := ?ow60) ?how60 (fun K hK => ?stepw60) ?morew60
          case how60 => simp only [List.getElem?_toArray, List.getElem?_cons_succ, List.getElem?_cons_zero]; exact rfl
          case morew60 => exact AllReadyH.nil
          go_simp
          go_at_call 88
          refine (spec_l2With1 _ _ _ _ _ _ za zb A7 _ d7 u7 ((ha.below hHeld.1).more hHeld.1.size) ((hb.below hHeld.1).more hHeld.1.size) (by omega) (by omega) hO1 hO2).mono ?_
          rintro e u8 ⟨⟨r8, rfl, ho8, hso8⟩, hb8⟩
          have hlt7' := hown7.lt
          refine hK.out _ _ ?hSw60 (fun hHeld => ?restw60)
          case hSw60 => exact rsS_below hHeld hb8
          clear hK K
          try simp only [Act.put, List.setIfInBounds_toArray, List.set_cons_zero, List.set_cons_succ]
          have HSO8 := Lib.hid hso8
          clear hso8
          have hown7 := own_below hown7 hb8
          obtain ⟨A8, d8, rfl, _, _⟩ := own_slice ho8
          have hX := hHeld
          obtain ⟨x, y, hr⟩ := hX.2.2.2.2
          have r0 := cell_of_row u8 (w.heap.size + 1 + 1) 0 _ _ (0, 0) hr
          have r1 := cell_of_row u8 (w.heap.size + 1 + 1) 1 _ _ (0, 0) hr
          have z0 := frozen_of_row u8 (w.heap.size + 1 + 1) 0 _ _ hr
          have z1 := frozen_of_row u8 (w.heap.size + 1 + 1) 1 _ _ hr
          simp at r0 r1
          have E0 := Lib.hid (heap_set1 (u := (.slice A8 m d8)) (heap_set0 (u := (.slice A7 (k + 1 + 0) d7)) hr))
          refine wpAnyH_ready (rs := [8]) (by kernel_rfl) (by simp) ?_
          refine AllReadyH.cons (o := ?ow61) ?how61 (fun K hK => ?stepw61) ?morew61
          case how61 => simp only [List.getElem?_toArray, List.getElem?_cons_succ, List.getElem?_cons_zero]; exact rfl
          case morew61 => exact AllReadyH.nil
          go_simp
          refine hK.out _ _ ?hSw61 (fun hHeld => ?restw61)
          case hSw61 => exact rsS_set hX _ _
          clear hK K
          try simp only [Act.put, List.setIfInBounds_toArray, List.set_cons_zero, List.set_cons_succ]
          refine wpAnyH_done (by kernel_rfl) ?_ _
          have f0 := cell_of_row _ (w.heap.size + 1 + 1) 0 _ _ (0, 0) E0.out
          have f1 := cell_of_row _ (w.heap.size + 1 + 1) 1 _ _ (0, 0) E0.out
          simp at f0 f1
          have hz8 : w.heap.size + 3 ≤ u7.heap.size := Nat.le_trans hsz7 hgrow7.size
          have hne : ∀ q, (Value.slice A7 (k + 1 + 0) d7).ownBlock = some q → (Value.slice A8 m d8).ownBlock ≠ some q := fun q h1 h2 => by have a := (hlt7' q h1).2; have b := (ho8.lt q h2).1; omega
          have HT := Lib.hid (((TwoRows.mk hown7 (own_mono ho8 hz8) hne).kept (set_grown u8 (w.heap.size + 1 + 1) 0 (.slice A7 (k + 1 + 0) d7)) (by omega)).kept (set_grown _ (w.heap.size + 1 + 1) 1 (.slice A8 m d8)) (by omega))
          have HB2 := Lib.hid ((hX.1.setCell (p := ⟨w.heap.size + 1 + 1, 0, none⟩) (show w.heap.size ≤ w.heap.size + 1 + 1 by omega) (.slice A7 (k + 1 + 0) d7)).setCell (p := ⟨w.heap.size + 1 + 1, 1, none⟩) (show w.heap.size ≤ w.heap.size + 1 + 1 by omega) (.slice A8 m d8))
          clear hown7 ho8 hX hHeld hr r0 r1
          go_wp2_with fail
          exact bodyPost_ret (v := .agg #[.slice A7 (k + 1 + 0) d7, .slice A8 m d8]) (by simp [results, Try.results101, go_sem, f0, f1]) rfl ⟨⟨_, _, rfl, rest_rows1_end HL.out ha.1 hk (HT.out.mono (by omega)), HSO7.out, HSO8.out⟩, HB2.out⟩
set_option linter.unusedSimpArgs false in
set_option linter.unusedVariables false in
set_option maxHeartbeats 3200000 in
set_option maxRecDepth 100000 in
theorem spec_l2Rest2 (O1 : Option Addr) (n c : Nat) (O2 : Option Addr) (m d : Nat) (za zb : List Int) (oi oa op oq : Int) (w : World) (ha : Lst w w.heap.size 4 O1 n za) (hb : Lst w w.heap.size 4 O2 m zb) (hn : n ≤ 1048576) (hm : m ≤ 1048576) (hO1 : O1 = none → n = 0 ∧ c = 0) (hO2 : O2 = none → m = 0 ∧ d = 0) (hnc : n ≤ c) (hmd : m ≤ d) :
    Calls Try.prog 101 #[.agg #[.slice O1 n c, .slice O2 m d], .int .i64 2, .agg #[.int .i64 oi, .int .i64 oa, .int .i64 op, .int .i64 oq]] w fun e w' => (∃ v1 v2, e = .returned (.agg #[v1, v2]) ∧ TwoRows w' w.heap.size v1 (restN1 2 n) (rest1 2 op za n [oi, oa, op, oq]) v2 (restN2 2 m) (rest2 2 op zb m [oi, oa, op, oq]) ∧ v1.ownBlock.isSome = true ∧ v2.ownBlock.isSome = true) ∧ Below w.heap.size w w' := by
  obtain ⟨i0, hi, hz0, hz1, hz2⟩ := info_parts ord_info
  obtain ⟨ka, ko, kr⟩ := three_blocks w (.cells #[.slice O1 n c, .slice O2 m d] 26) (.cells #[.int .i64 oi, .int .i64 oa, .int .i64 op, .int .i64 oq] 28) (.cells #[.slice none 0 0, .slice none 0 0] 26)
  have hb0 : Below w.heap.size w (((w.alloc (.cells #[.slice O1 n c, .slice O2 m d] 26)).alloc (.cells #[.int .i64 oi, .int .i64 oa, .int .i64 op, .int .i64 oq] 28)).alloc (.cells #[.slice none 0 0, .slice none 0 0] 26)) := (((Below.refl _ _).alloc (Nat.le_refl _) _).alloc (by simp) _).alloc (by simp; omega) _
  have hs0 : (((w.alloc (.cells #[.slice O1 n c, .slice O2 m d] 26)).alloc (.cells #[.int .i64 oi, .int .i64 oa, .int .i64 op, .int .i64 oq] 28)).alloc (.cells #[.slice none 0 0, .slice none 0 0] 26)).heap.size = w.heap.size + 3 := by simp
  have p0 := cell_of_row _ w.heap.size 0 _ _ (0, 0) ka
  have p1 := cell_of_row _ w.heap.size 1 _ _ (0, 0) ka
  simp at p0 p1
  go_enter Try.func101, Try.ntmps101
  go_wp2_with fail
  generalize (((w.alloc (.cells #[.slice O1 n c, .slice O2 m d] 26)).alloc (.cells #[.int .i64 oi, .int .i64 oa, .int .i64 op, .int .i64 oq] 28)).alloc (.cells #[.slice none 0 0, .slice none 0 0] 26)) = w0 at *
  refine (spec_l2ListO O1 n c O2 m d 2 w0).mono ?_
  simp only [show ((2 : Int) = 1) = False from by simp, if_false]
  rintro e w1 ⟨rfl, hb1⟩
  have ka := (hb1.block w.heap.size (by omega)).trans ka
  have ko := (hb1.block (w.heap.size + 1) (by omega)).trans ko
  have kr := (hb1.block (w.heap.size + 1 + 1) (by omega)).trans kr
  have hs1 : w.heap.size + 3 ≤ w1.heap.size := by have := hb1.size; omega
  have hb1 := hb0.trans (hb1.mono hb0.size)
  clear hb0 hs0 p0 p1
  go_wp2_with fail
  go_loopw [8] (fun i wr => ∃ k : Nat, k ≤ m ∧ i = .int .i64 (k : Int) ∧ (∀ j, j < k → (!betB 2 op (price zb j)) = true) ∧ Below w1.heap.size w1 wr) (fun i _ => m - (intOf i).toNat)
  case atStart => exact ⟨0, Nat.zero_le _, rfl, fun j hj => absurd hj (Nat.not_lt_zero j), Below.refl _ _⟩
  case round =>
    obtain ⟨k, hk, rfl, hall, hbel⟩ := hrel
    have HA := Lib.hid hall
    have ko2 := (hbel.block (w.heap.size + 1) (by omega)).trans ko
    have cB : wr.cell? ⟨w.heap.size + 1, 2, none⟩ = some (.int .i64 op) := by simp [World.cell?, ko2]
    clear hall
    by_cases hlt : k < m
    · obtain ⟨b, o, hax, hbo, c0, c1, c2, c3⟩ := ((hb.below hb1).more hb1.size).below hbel |>.row4 hlt
      have HX := Lib.hid hax
      have HB := Lib.hid hbel
      have hbsz := hbel.size
      rcases Bool.eq_false_or_eq_true (betB 2 op (price zb k)) with hbt | hbt
      · have HL := Lib.hid (show restI 2 op zb m = k from lead_one m (fun k => !betB 2 op (price zb k)) k hk HA.out (.inr (by simp [hbt])))
        subst hax
        go_upto_region 3 with fail
        refine wp_region_held_drew (S := (fun w' => Below wr.heap.size wr w' ∧ w'.cell? ⟨w.heap.size + 1, 2, none⟩ = some (.int .i64 op) ∧ w'.cell? ⟨b, o + k * 4 + 2, none⟩ = some (.int .i64 (price zb k)))) (by kernel_rfl) ?hSq4xs (fun hHeld => ?restq4xs)
        case hSq4xs => ((first | assumption | ((((try dsimp only); repeat' apply And.intro) <;> (first | assumption | (refine below_later ?_ (by assumption); first | assumption | (simp only [*]; done) | (go_grown; done)) | (refine cell_later (by assumption) ?_; first | assumption | (simp only [*]; done) | (simp [go_sem]; done)) | (go_grown; done) | (simp [go_sem]; done))))))
        refine wpAnyH_take (i := 0) (oi := ?oiq4x1) (v := ?vq4x1) ?hiq4x1 (by kernel_rfl) (by kernel_rfl) (by kernel_rfl) ?hQq4x1 (Or.inl ⟨?hwq4x1, ?hyq4x1⟩) (by assumption) ?restq4x1
        case hiq4x1 => simp only [List.getElem?_toArray, List.getElem?_cons_succ, List.getElem?_cons_zero]; exact rfl
        case hQq4x1 => exact fun _ _ _ h => h
        case hwq4x1 => rfl
        case hyq4x1 => ((intro w hSw; (try dsimp only at hSw); go_simp) <;> with_reducible rfl)
        try simp only [Act.put, List.setIfInBounds_toArray, List.set_cons_zero, List.set_cons_succ]
        refine wpAnyH_take (i := 1) (oi := ?oiq4x2) (v := ?vq4x2) ?hiq4x2 (by kernel_rfl) (by kernel_rfl) (by kernel_rfl) ?hQq4x2 (Or.inl ⟨?hwq4x2, ?hyq4x2⟩) (by assumption) ?restq4x2
        case hiq4x2 => simp only [List.getElem?_toArray, List.getElem?_cons_succ, List.getElem?_cons_zero]; exact rfl
        case hQq4x2 => exact fun _ _ _ h => h
        case hwq4x2 => rfl
        case hyq4x2 => ((intro w hSw; (try dsimp only at hSw); go_simp) <;> with_reducible rfl)
        try simp only [Act.put, List.setIfInBounds_toArray, List.set_cons_zero, List.set_cons_succ]
        refine wpAnyH_take (i := 2) (oi := ?oiq4x3) (v := ?vq4x3) ?hiq4x3 (by kernel_rfl) (by kernel_rfl) (by kernel_rfl) ?hQq4x3 (Or.inl ⟨?hwq4x3, ?hyq4x3⟩) (by assumption) ?restq4x3
        case hiq4x3 => simp only [List.getElem?_toArray, List.getElem?_cons_succ, List.getElem?_cons_zero]; exact rfl
        case hQq4x3 => exact fun _ _ _ h => h
        case hwq4x3 => rfl
        case hyq4x3 => ((intro w hSw; (try dsimp only at hSw); go_simp) <;> with_reducible rfl)
        try simp only [Act.put, List.setIfInBounds_toArray, List.set_cons_zero, List.set_cons_succ]
        refine wpAnyH_take (i := 3) (oi := ?oiq4x4) (v := ?vq4x4) ?hiq4x4 (by kernel_rfl) (by kernel_rfl) (by kernel_rfl) ?hQq4x4 (Or.inl ⟨?hwq4x4, ?hyq4x4⟩) (by assumption) ?restq4x4
        case hiq4x4 => simp only [List.getElem?_toArray, List.getElem?_cons_succ, List.getElem?_cons_zero]; exact rfl
        case hQq4x4 => exact fun _ _ _ h => h
        case hwq4x4 => rfl
        case hyq4x4 => ((intro w hSw; (try dsimp only at hSw); go_simp) <;> with_reducible rfl)
        try simp only [Act.put, List.setIfInBounds_toArray, List.set_cons_zero, List.set_cons_succ]
        refine wpAnyH_take (i := 4) (oi := ?oiq4x5) (v := ?vq4x5) ?hiq4x5 (by kernel_rfl) (by kernel_rfl) (by kernel_rfl) ?hQq4x5 (Or.inl ⟨?hwq4x5, ?hyq4x5⟩) (by assumption) ?restq4x5
        case hiq4x5 => simp only [List.getElem?_toArray, List.getElem?_cons_succ, List.getElem?_cons_zero]; exact rfl
        case hQq4x5 => exact fun _ _ _ h => h
        case hwq4x5 => rfl
        case hyq4x5 => ((intro w hSw; (try dsimp only at hSw); go_simp) <;> with_reducible rfl)
        try simp only [Act.put, List.setIfInBounds_toArray, List.set_cons_zero, List.set_cons_succ]
        refine wpAnyH_take (i := 5) (oi := ?oiq4x6) (v := ?vq4x6) ?hiq4x6 (by kernel_rfl) (by kernel_rfl) (by kernel_rfl) ?hQq4x6 (Or.inl ⟨?hwq4x6, ?hyq4x6⟩) (by assumption) ?restq4x6
        case hiq4x6 => simp only [List.getElem?_toArray, List.getElem?_cons_succ, List.getElem?_cons_zero]; exact rfl
        case hQq4x6 => exact fun _ _ _ h => h
        case hwq4x6 => rfl
        case hyq4x6 => ((intro w hSw; (try dsimp only at hSw); go_simp) <;> with_reducible rfl)
        try simp only [Act.put, List.setIfInBounds_toArray, List.set_cons_zero, List.set_cons_succ]
        refine wpAnyH_take (i := 6) (oi := ?oiq4x7) (v := ?vq4x7) ?hiq4x7 (by kernel_rfl) (by kernel_rfl) (by kernel_rfl) ?hQq4x7 (Or.inl ⟨?hwq4x7, ?hyq4x7⟩) (by assumption) ?restq4x7
        case hiq4x7 => simp only [List.getElem?_toArray, List.getElem?_cons_succ, List.getElem?_cons_zero]; exact rfl
        case hQq4x7 => exact fun _ _ _ h => h
        case hwq4x7 => rfl
        case hyq4x7 => ((intro w hSw; (try dsimp only at hSw); go_simp) <;> with_reducible rfl)
        try simp only [Act.put, List.setIfInBounds_toArray, List.set_cons_zero, List.set_cons_succ]
        refine wpAnyH_take (i := 7) (oi := ?oiq4x8) (v := ?vq4x8) ?hiq4x8 (by kernel_rfl) (by kernel_rfl) (by kernel_rfl) ?hQq4x8 (Or.inl ⟨?hwq4x8, ?hyq4x8⟩) (by assumption) ?restq4x8
        case hiq4x8 => simp only [List.getElem?_toArray, List.getElem?_cons_succ, List.getElem?_cons_zero]; exact rfl
        case hQq4x8 => exact fun _ _ _ h => h
        case hwq4x8 => rfl
        case hyq4x8 => ((intro w hSw; (try dsimp only at hSw); go_simp) <;> with_reducible rfl)
        try simp only [Act.put, List.setIfInBounds_toArray, List.set_cons_zero, List.set_cons_succ]
        refine wpAnyH_take (i := 8) (oi := ?oiq4x9) (v := ?vq4x9) ?hiq4x9 (by kernel_rfl) (by kernel_rfl) (by kernel_rfl) ?hQq4x9 (Or.inl ⟨?hwq4x9, ?hyq4x9⟩) (by assumption) ?restq4x9
        case hiq4x9 => simp only [List.getElem?_toArray, List.getElem?_cons_succ, List.getElem?_cons_zero]; exact rfl
        case hQq4x9 => exact fun _ _ _ h => h
        case hwq4x9 => rfl
        case hyq4x9 => ((intro w hSw; (try dsimp only at hSw); go_simp) <;> with_reducible rfl)
        try simp only [Act.put, List.setIfInBounds_toArray, List.set_cons_zero, List.set_cons_succ]
        refine wpAnyH_take (i := 9) (oi := ?oiq4x10) (v := ?vq4x10) ?hiq4x10 (by kernel_rfl) (by kernel_rfl) (by kernel_rfl) ?hQq4x10 (Or.inl ⟨?hwq4x10, ?hyq4x10⟩) (by assumption) ?restq4x10
        case hiq4x10 => simp only [List.getElem?_toArray, List.getElem?_cons_succ, List.getElem?_cons_zero]; exact rfl
        case hQq4x10 => exact fun _ _ _ h => h
        case hwq4x10 => rfl
        case hyq4x10 => ((intro w hSw; (try dsimp only at hSw); go_simp) <;> with_reducible rfl)
        try simp only [Act.put, List.setIfInBounds_toArray, List.set_cons_zero, List.set_cons_succ]
        refine wpAnyH_take (i := 10) (oi := ?oiq4x11) (v := ?vq4x11) ?hiq4x11 (by kernel_rfl) (by kernel_rfl) (by kernel_rfl) ?hQq4x11 (Or.inl ⟨?hwq4x11, ?hyq4x11⟩) (by assumption) ?restq4x11
        case hiq4x11 => simp only [List.getElem?_toArray, List.getElem?_cons_succ, List.getElem?_cons_zero]; exact rfl
        case hQq4x11 => exact fun _ _ _ h => h
        case hwq4x11 => rfl
        case hyq4x11 => ((intro w hSw; (try dsimp only at hSw); go_simp) <;> with_reducible rfl)
        try simp only [Act.put, List.setIfInBounds_toArray, List.set_cons_zero, List.set_cons_succ]
        refine wpAnyH_take (i := 11) (oi := ?oiq4x12) (v := ?vq4x12) ?hiq4x12 (by kernel_rfl) (by kernel_rfl) (by kernel_rfl) ?hQq4x12 (Or.inl ⟨?hwq4x12, ?hyq4x12⟩) (by assumption) ?restq4x12
        case hiq4x12 => simp only [List.getElem?_toArray, List.getElem?_cons_succ, List.getElem?_cons_zero]; exact rfl
        case hQq4x12 => exact fun _ _ _ h => h
        case hwq4x12 => rfl
        case hyq4x12 => ((intro w hSw; (try dsimp only at hSw); go_simp) <;> with_reducible rfl)
        try simp only [Act.put, List.setIfInBounds_toArray, List.set_cons_zero, List.set_cons_succ]
        refine wpAnyH_take (i := 12) (oi := ?oiq4x13) (v := ?vq4x13) ?hiq4x13 (by kernel_rfl) (by kernel_rfl) (by kernel_rfl) ?hQq4x13 (Or.inl ⟨?hwq4x13, ?hyq4x13⟩) (by assumption) ?restq4x13
        case hiq4x13 => simp only [List.getElem?_toArray, List.getElem?_cons_succ, List.getElem?_cons_zero]; exact rfl
        case hQq4x13 => exact fun _ _ _ h => h
        case hwq4x13 => rfl
        case hyq4x13 => ((intro w hSw; (try dsimp only at hSw); go_simp) <;> with_reducible rfl)
        try simp only [Act.put, List.setIfInBounds_toArray, List.set_cons_zero, List.set_cons_succ]
        refine wpAnyH_ready (rs := [13]) (by kernel_rfl) (by simp) ?_
        refine AllReadyH.cons (o := ?oq4x14) ?hoq4x14 (fun K hK => ?stepq4x14) ?moreq4x14
        case hoq4x14 => simp only [List.getElem?_toArray, List.getElem?_cons_succ, List.getElem?_cons_zero]; exact rfl
        case moreq4x14 => exact AllReadyH.nil
        go_simp
        (go_at_call 91; refine (spec_l2Ahead 2 op (price zb k) _).mono ?_; rw [hbt]; rintro e u2 ⟨rfl, rfl⟩)
        refine hK.out _ _ ?hSq4x14 (fun hHeld => ?restq4x14)
        case hSq4x14 => ((first | assumption | ((((try dsimp only); repeat' apply And.intro) <;> (first | assumption | (refine below_later ?_ (by assumption); first | assumption | (simp only [*]; done) | (go_grown; done)) | (refine cell_later (by assumption) ?_; first | assumption | (simp only [*]; done) | (simp [go_sem]; done)) | (go_grown; done) | (simp [go_sem]; done))))))
        clear hK K
        try simp only [Act.put, List.setIfInBounds_toArray, List.set_cons_zero, List.set_cons_succ]
        refine wpAnyH_take (i := 14) (oi := ?oiq4x15) (v := ?vq4x15) ?hiq4x15 (by kernel_rfl) (by kernel_rfl) (by kernel_rfl) ?hQq4x15 (Or.inl ⟨?hwq4x15, ?hyq4x15⟩) (by assumption) ?restq4x15
        case hiq4x15 => simp only [List.getElem?_toArray, List.getElem?_cons_succ, List.getElem?_cons_zero]; exact rfl
        case hQq4x15 => exact fun _ _ _ h => h
        case hwq4x15 => rfl
        case hyq4x15 => ((intro w hSw; (try dsimp only at hSw); go_simp) <;> with_reducible rfl)
        try simp only [Act.put, List.setIfInBounds_toArray, List.set_cons_zero, List.set_cons_succ]
        refine wpAnyH_take (i := 15) (oi := ?oiq4x16) (v := ?vq4x16) ?hiq4x16 (by kernel_rfl) (by kernel_rfl) (by kernel_rfl) ?hQq4x16 (Or.inl ⟨?hwq4x16, ?hyq4x16⟩) (by assumption) ?restq4x16
        case hiq4x16 => simp only [List.getElem?_toArray, List.getElem?_cons_succ, List.getElem?_cons_zero]; exact rfl
        case hQq4x16 => exact fun _ _ _ h => h
        case hwq4x16 => rfl
        case hyq4x16 => ((intro w hSw; (try dsimp only at hSw); go_simp) <;> with_reducible rfl)
        try simp only [Act.put, List.setIfInBounds_toArray, List.set_cons_zero, List.set_cons_succ]
        refine wpAnyH_done (by kernel_rfl) ?_ _
        obtain ⟨hbq, -, -⟩ := hHeld
        have hbq := HB.out.trans (hbq.mono hbsz)
        clear hbel cB c0 c1 c2 c3 hbt ko2
        generalize wr.drew = wq at *
        have hsq : w.heap.size + 3 ≤ wq.heap.size := Nat.le_trans hs1 hbq.size
        have hbD := hb1.trans (hbq.mono hb1.size)
        have ka := (hbq.block w.heap.size (by omega)).trans ka
        have ko := (hbq.block (w.heap.size + 1) (by omega)).trans ko
        have kr := (hbq.block (w.heap.size + 1 + 1) (by omega)).trans kr
        have hbE : Below wq.heap.size wq (wq.alloc (.cells #[] 28)) := (Below.refl _ _).alloc (Nat.le_refl _) _
        have hbDE := hbD.trans (hbE.mono hbD.size)
        have hlk := Lst.take (k := k) (hb.below hbDE) hk
        have hq0 := own_mono (base' := w.heap.size + 3) (own_empty wq 28 4) hsq
        clear hbq
        go_wp2_with (at_builtin; refine wpList_app_atO _ rfl _ _ 24 rfl (w.heap.size + 3) 28 i0 _ 4 32 Try.underlying24 hi hz0 hz1 hz2 rfl (by decide) _ _ _ rfl hq0 (some ⟨b, o, none⟩) k d (fun e => by cases e) (nums (zb.take (k * 4))) rfl (by rw [nums_length]; exact hlk.1) hlk.newsO (nums_one _) (by unfold maxLen; omega) (by omega) (by simp; omega) ?_)
        intro v5 w5 hown5 hgrow5 hat5
        have hso5 : v5.ownBlock.isSome = true := some_at hat5 rfl
        clear hat5
        have hbD5 := hbDE.grown hgrow5 hbDE.size (fun q hq => by simp [Value.ownBlock] at hq; omega)
        have ka := (hgrow5.block w.heap.size (by simp; omega) (fun e => by simp [Value.ownBlock] at e; omega)).trans ((hbE.block _ (by omega)).trans ka)
        have ko := (hgrow5.block (w.heap.size + 1) (by simp; omega) (fun e => by simp [Value.ownBlock] at e; omega)).trans ((hbE.block _ (by omega)).trans ko)
        have kr := (hgrow5.block (w.heap.size + 1 + 1) (by simp; omega) (fun e => by simp [Value.ownBlock] at e; omega)).trans ((hbE.block _ (by omega)).trans kr)
        have hs5 : w.heap.size + 3 ≤ w5.heap.size := by have := hgrow5.size; simp at this; omega
        obtain ⟨A5, d5, rfl, _, _⟩ := own_slice hown5
        have o0 := cell_of_row w5 (w.heap.size + 1) 0 _ _ (0, 0) ko
        have o1 := cell_of_row w5 (w.heap.size + 1) 1 _ _ (0, 0) ko
        have o2 := cell_of_row w5 (w.heap.size + 1) 2 _ _ (0, 0) ko
        have o3 := cell_of_row w5 (w.heap.size + 1) 3 _ _ (0, 0) ko
        simp at o0 o1 o2 o3
        have hov5 := hown5.lt
        clear hgrow5 hbDE hbE hbD hq0 hlk
        go_wp2_with (at_builtin; refine wpList_append_own_at _ rfl _ _ 24 rfl (w.heap.size + 3) 28 i0 _ 4 32 Try.underlying24 hi hz0 hz1 hz2 rfl (by decide) _ _ _ rfl (hown5.alloc _) ⟨w5.heap.size, 0, none⟩ 1 1 [.int .i64 oi, .int .i64 oa, .int .i64 op, .int .i64 oq] rfl rfl (World.news_of_block (heap_alloc_new w5 _)) (by intro u hu; simp at hu; rcases hu with rfl | rfl | rfl | rfl <;> rfl) (by unfold maxLen; omega) (by omega) (by simp; omega) ?_)
        intro v6 w6 hown6 hgrow6 _ hat6
        have HSO6 := Lib.hid (some_at hat6 hso5)
        clear hat6 hso5
        rw [show nums (zb.take (k * 4)) ++ [.int .i64 oi, .int .i64 oa, .int .i64 op, .int .i64 oq] = nums ((zb.take (k * 4)) ++ [oi, oa, op, oq]) from by rw [nums_append]; rfl] at hown6
        have hbD6 := (hbD5.alloc hbD5.size (.cells #[.int .i64 oi, .int .i64 oa, .int .i64 op, .int .i64 oq] 28)).grown hgrow6 (by simp; omega) (fun q hq => by have := (hov5 q hq).1; omega)
        have ka := (hgrow6.block w.heap.size (by simp; omega) (fun e => by have := (hov5 _ e.symm).1; omega)).trans ((Below.heap_alloc w5 _ _ (by omega)).trans ka)
        have kr := (hgrow6.block (w.heap.size + 1 + 1) (by simp; omega) (fun e => by have := (hov5 _ e.symm).1; omega)).trans ((Below.heap_alloc w5 _ _ (by omega)).trans kr)
        have hs6 : w.heap.size + 3 ≤ w6.heap.size := by have := hgrow6.size; simp at this; omega
        obtain ⟨A6, d6, rfl, _, _⟩ := own_slice hown6
        have q0 := cell_of_row w6 w.heap.size 0 _ _ (0, 0) ka
        have q1 := cell_of_row w6 w.heap.size 1 _ _ (0, 0) ka
        simp at q0 q1
        clear hgrow6 hbD5 hov5 hown5 o0 o1 o2 o3 ko
        go_upto_region 7 with fail
        have hck' : ¬ (d = k) := by omega
        refine wp_region_held_drew (S := (fun w' => Below w.heap.size w w' ∧ w'.cell? ⟨w.heap.size, 0, none⟩ = some (.slice O1 n c) ∧ w'.cell? ⟨w.heap.size, 1, none⟩ = some (.slice (some ⟨b, o, none⟩) m d) ∧ w.heap.size + 3 ≤ w'.heap.size ∧ ∃ x y, w'.heap[w.heap.size + 1 + 1]? = some (.cells #[x, y] 26 (0, 0)))) (by kernel_rfl) ?hSr62 (fun hHeld => ?restr62)
        case hSr62 => exact ⟨hbD6.drew, q0, q1, hs6, _, _, kr⟩
        refine wpAnyH_take (i := 0) (oi := ?oiw63) (v := ?vw63) ?hiw63 (by kernel_rfl) (by kernel_rfl) (by kernel_rfl) ?hQw63 (Or.inl ⟨?hww63, ?hyw63⟩) (by assumption) ?restw63
        case hiw63 => simp only [List.getElem?_toArray, List.getElem?_cons_succ, List.getElem?_cons_zero]; exact rfl
        case hQw63 => exact fun _ _ _ h => h
        case hww63 => rfl
        case hyw63 => ((intro w hSw; (try dsimp only at hSw); go_simp) <;> with_reducible rfl)
        try simp only [Act.put, List.setIfInBounds_toArray, List.set_cons_zero, List.set_cons_succ]
        refine wpAnyH_take (i := 1) (oi := ?oiw64) (v := ?vw64) ?hiw64 (by kernel_rfl) (by kernel_rfl) (by kernel_rfl) ?hQw64 (Or.inl ⟨?hww64, ?hyw64⟩) (by assumption) ?restw64
        case hiw64 => simp only [List.getElem?_toArray, List.getElem?_cons_succ, List.getElem?_cons_zero]; exact rfl
        case hQw64 => exact fun _ _ _ h => h
        case hww64 => rfl
        case hyw64 => ((intro w hSw; (try dsimp only at hSw); go_simp) <;> with_reducible rfl)
        try simp only [Act.put, List.setIfInBounds_toArray, List.set_cons_zero, List.set_cons_succ]
        refine wpAnyH_take (i := 2) (oi := ?oiw65) (v := ?vw65) ?hiw65 (by kernel_rfl) (by kernel_rfl) (by kernel_rfl) ?hQw65 (Or.inl ⟨?hww65, ?hyw65⟩) (by assumption) ?restw65
        case hiw65 => simp only [List.getElem?_toArray, List.getElem?_cons_succ, List.getElem?_cons_zero]; exact rfl
        case hQw65 => exact fun _ _ _ h => h
        case hww65 => rfl
        case hyw65 => ((intro w hSw; (try dsimp only at hSw); go_simp) <;> with_reducible rfl)
        try simp only [Act.put, List.setIfInBounds_toArray, List.set_cons_zero, List.set_cons_succ]
        refine wpAnyH_take (i := 3) (oi := ?oiw66) (v := ?vw66) ?hiw66 (by kernel_rfl) (by kernel_rfl) (by kernel_rfl) ?hQw66 (Or.inl ⟨?hww66, ?hyw66⟩) (by assumption) ?restw66
        case hiw66 => simp only [List.getElem?_toArray, List.getElem?_cons_succ, List.getElem?_cons_zero]; exact rfl
        case hQw66 => exact fun _ _ _ h => h
        case hww66 => rfl
        case hyw66 => ((intro w hSw; (try dsimp only at hSw); go_simp) <;> with_reducible rfl)
        try simp only [Act.put, List.setIfInBounds_toArray, List.set_cons_zero, List.set_cons_succ]
        refine wpAnyH_take (i := 4) (oi := ?oiw67) (v := ?vw67) ?hiw67 (by kernel_rfl) (by kernel_rfl) (by kernel_rfl) ?hQw67 (Or.inl ⟨?hww67, ?hyw67⟩) (by assumption) ?restw67
        case hiw67 => simp only [List.getElem?_toArray, List.getElem?_cons_succ, List.getElem?_cons_zero]; exact rfl
        case hQw67 => exact fun _ _ _ h => h
        case hww67 => rfl
        case hyw67 => ((intro w hSw; (try dsimp only at hSw); go_simp) <;> with_reducible rfl)
        try simp only [Act.put, List.setIfInBounds_toArray, List.set_cons_zero, List.set_cons_succ]
        refine wpAnyH_take (i := 5) (oi := ?oiw68) (v := ?vw68) ?hiw68 (by kernel_rfl) (by kernel_rfl) (by kernel_rfl) ?hQw68 (Or.inl ⟨?hww68, ?hyw68⟩) (by assumption) ?restw68
        case hiw68 => simp only [List.getElem?_toArray, List.getElem?_cons_succ, List.getElem?_cons_zero]; exact rfl
        case hQw68 => exact fun _ _ _ h => h
        case hww68 => rfl
        case hyw68 => ((intro w hSw; (try dsimp only at hSw); go_simp) <;> with_reducible rfl)
        try simp only [Act.put, List.setIfInBounds_toArray, List.set_cons_zero, List.set_cons_succ]
        refine wpAnyH_ready (rs := [6]) (by kernel_rfl) (by simp) ?_
        refine AllReadyH.cons (o := ?ow69) ?how69 (fun K hK => ?stepw69) ?morew69
        case how69 => simp only [List.getElem?_toArray, List.getElem?_cons_succ, List.getElem?_cons_zero]; exact rfl
        case morew69 => exact AllReadyH.nil
        have hsz7 := hHeld.2.2.2.1
        (refine step_appX _ rfl _ _ rfl (w.heap.size + 3) (.slice A6 (k + 1) d6) rfl (k + 1) ((zb.take (k * 4)) ++ [oi, oa, op, oq]) (own_below hown6 (Below.refl _ w6).drew) (some ⟨b, o + k * 4, none⟩) (m - k) _ (fun e => by cases e) (zb.drop (k * 4)) rfl w.heap.size (Lst.drop (hb.below hHeld.1) hk) (by omega) (by omega) hsz7 ?_; intro r7 u7 hown7 hgrow7 hat7)
        have hlt7 := hown6.lt
        refine hK.out _ _ ?hSw69 (fun hHeld => ?restw69)
        case hSw69 => exact rsS_grown hHeld hgrow7 (fun q hq => (hlt7 q hq).1)
        clear hK K
        try simp only [Act.put, List.setIfInBounds_toArray, List.set_cons_zero, List.set_cons_succ]
        have HSO7 := Lib.hid (some_at hat7 HSO6.out)
        clear hat7
        obtain ⟨A7, d7, rfl, _, _⟩ := own_slice hown7
        refine wpAnyH_ready (rs := [7]) (by kernel_rfl) (by simp) ?_
        refine AllReadyH.cons (o := ?ow70) ?how70 (fun K hK => ?stepw70) ?morew70
        case how70 => simp only [List.getElem?_toArray, List.getElem?_cons_succ, List.getElem?_cons_zero]; exact rfl
        case morew70 => exact AllReadyH.nil
        go_simp
        go_at_call 88
        refine (spec_l2With2 _ _ _ _ _ _ za zb A7 _ d7 u7 ((ha.below hHeld.1).more hHeld.1.size) ((hb.below hHeld.1).more hHeld.1.size) (by omega) (by omega) hO1 hO2).mono ?_
        rintro e u8 ⟨⟨r8, rfl, ho8, hso8⟩, hb8⟩
        have hlt7' := hown7.lt
        refine hK.out _ _ ?hSw70 (fun hHeld => ?restw70)
        case hSw70 => exact rsS_below hHeld hb8
        clear hK K
        try simp only [Act.put, List.setIfInBounds_toArray, List.set_cons_zero, List.set_cons_succ]
        have HSO8 := Lib.hid hso8
        clear hso8
        have hown7 := own_below hown7 hb8
        obtain ⟨A8, d8, rfl, _, _⟩ := own_slice ho8
        have hX := hHeld
        obtain ⟨x, y, hr⟩ := hX.2.2.2.2
        have r0 := cell_of_row u8 (w.heap.size + 1 + 1) 0 _ _ (0, 0) hr
        have r1 := cell_of_row u8 (w.heap.size + 1 + 1) 1 _ _ (0, 0) hr
        have z0 := frozen_of_row u8 (w.heap.size + 1 + 1) 0 _ _ hr
        have z1 := frozen_of_row u8 (w.heap.size + 1 + 1) 1 _ _ hr
        simp at r0 r1
        have E0 := Lib.hid (heap_set1 (u := (.slice A7 (k + 1 + (m - k)) d7)) (heap_set0 (u := (.slice A8 n d8)) hr))
        refine wpAnyH_ready (rs := [8]) (by kernel_rfl) (by simp) ?_
        refine AllReadyH.cons (o := ?ow71) ?how71 (fun K hK => ?stepw71) ?morew71
        case how71 => simp only [List.getElem?_toArray, List.getElem?_cons_succ, List.getElem?_cons_zero]; exact rfl
        case morew71 => exact AllReadyH.nil
        go_simp
        refine hK.out _ _ ?hSw71 (fun hHeld => ?restw71)
        case hSw71 => exact rsS_set hX _ _
        clear hK K
        try simp only [Act.put, List.setIfInBounds_toArray, List.set_cons_zero, List.set_cons_succ]
        refine wpAnyH_done (by kernel_rfl) ?_ _
        have f0 := cell_of_row _ (w.heap.size + 1 + 1) 0 _ _ (0, 0) E0.out
        have f1 := cell_of_row _ (w.heap.size + 1 + 1) 1 _ _ (0, 0) E0.out
        simp at f0 f1
        have hz8 : w.heap.size + 3 ≤ u7.heap.size := Nat.le_trans hsz7 hgrow7.size
        have hne : ∀ q, (Value.slice A7 (k + 1 + (m - k)) d7).ownBlock = some q → (Value.slice A8 n d8).ownBlock ≠ some q := fun q h1 h2 => by have a := (hlt7' q h1).2; have b := (ho8.lt q h2).1; omega
        have HT := Lib.hid (((TwoRows.mk (own_mono ho8 hz8) hown7 (fun q h1 h2 => hne q h2 h1)).kept (set_grown u8 (w.heap.size + 1 + 1) 0 (.slice A8 n d8)) (by omega)).kept (set_grown _ (w.heap.size + 1 + 1) 1 (.slice A7 (k + 1 + (m - k)) d7)) (by omega))
        have HB2 := Lib.hid ((hX.1.setCell (p := ⟨w.heap.size + 1 + 1, 0, none⟩) (show w.heap.size ≤ w.heap.size + 1 + 1 by omega) (.slice A8 n d8)).setCell (p := ⟨w.heap.size + 1 + 1, 1, none⟩) (show w.heap.size ≤ w.heap.size + 1 + 1 by omega) (.slice A7 (k + 1 + (m - k)) d7))
        clear hown7 ho8 hX hHeld hr r0 r1
        go_wp2_with fail
        exact bodyPost_ret (v := .agg #[.slice A8 n d8, .slice A7 (k + 1 + (m - k)) d7]) (by simp [results, Try.results101, go_sem, f0, f1]) rfl ⟨⟨_, _, rfl, rest_rows2 HL.out hb.1 hk (HT.out.mono (by omega)), HSO8.out, HSO7.out⟩, HB2.out⟩
      · have HM := Lib.hid (show (!betB 2 op (price zb k)) = true by simp [hbt])
        subst hax
        go_upto_region 3 with fail
        refine wp_region_held_drew (S := (fun w' => Below wr.heap.size wr w' ∧ w'.cell? ⟨w.heap.size + 1, 2, none⟩ = some (.int .i64 op) ∧ w'.cell? ⟨b, o + k * 4 + 2, none⟩ = some (.int .i64 (price zb k)))) (by kernel_rfl) ?hSq5xs (fun hHeld => ?restq5xs)
        case hSq5xs => ((first | assumption | ((((try dsimp only); repeat' apply And.intro) <;> (first | assumption | (refine below_later ?_ (by assumption); first | assumption | (simp only [*]; done) | (go_grown; done)) | (refine cell_later (by assumption) ?_; first | assumption | (simp only [*]; done) | (simp [go_sem]; done)) | (go_grown; done) | (simp [go_sem]; done))))))
        refine wpAnyH_take (i := 0) (oi := ?oiq5x1) (v := ?vq5x1) ?hiq5x1 (by kernel_rfl) (by kernel_rfl) (by kernel_rfl) ?hQq5x1 (Or.inl ⟨?hwq5x1, ?hyq5x1⟩) (by assumption) ?restq5x1
        case hiq5x1 => simp only [List.getElem?_toArray, List.getElem?_cons_succ, List.getElem?_cons_zero]; exact rfl
        case hQq5x1 => exact fun _ _ _ h => h
        case hwq5x1 => rfl
        case hyq5x1 => ((intro w hSw; (try dsimp only at hSw); go_simp) <;> with_reducible rfl)
        try simp only [Act.put, List.setIfInBounds_toArray, List.set_cons_zero, List.set_cons_succ]
        refine wpAnyH_take (i := 1) (oi := ?oiq5x2) (v := ?vq5x2) ?hiq5x2 (by kernel_rfl) (by kernel_rfl) (by kernel_rfl) ?hQq5x2 (Or.inl ⟨?hwq5x2, ?hyq5x2⟩) (by assumption) ?restq5x2
        case hiq5x2 => simp only [List.getElem?_toArray, List.getElem?_cons_succ, List.getElem?_cons_zero]; exact rfl
        case hQq5x2 => exact fun _ _ _ h => h
        case hwq5x2 => rfl
        case hyq5x2 => ((intro w hSw; (try dsimp only at hSw); go_simp) <;> with_reducible rfl)
        try simp only [Act.put, List.setIfInBounds_toArray, List.set_cons_zero, List.set_cons_succ]
        refine wpAnyH_take (i := 2) (oi := ?oiq5x3) (v := ?vq5x3) ?hiq5x3 (by kernel_rfl) (by kernel_rfl) (by kernel_rfl) ?hQq5x3 (Or.inl ⟨?hwq5x3, ?hyq5x3⟩) (by assumption) ?restq5x3
        case hiq5x3 => simp only [List.getElem?_toArray, List.getElem?_cons_succ, List.getElem?_cons_zero]; exact rfl
        case hQq5x3 => exact fun _ _ _ h => h
        case hwq5x3 => rfl
        case hyq5x3 => ((intro w hSw; (try dsimp only at hSw); go_simp) <;> with_reducible rfl)
        try simp only [Act.put, List.setIfInBounds_toArray, List.set_cons_zero, List.set_cons_succ]
        refine wpAnyH_take (i := 3) (oi := ?oiq5x4) (v := ?vq5x4) ?hiq5x4 (by kernel_rfl) (by kernel_rfl) (by kernel_rfl) ?hQq5x4 (Or.inl ⟨?hwq5x4, ?hyq5x4⟩) (by assumption) ?restq5x4
        case hiq5x4 => simp only [List.getElem?_toArray, List.getElem?_cons_succ, List.getElem?_cons_zero]; exact rfl
        case hQq5x4 => exact fun _ _ _ h => h
        case hwq5x4 => rfl
        case hyq5x4 => ((intro w hSw; (try dsimp only at hSw); go_simp) <;> with_reducible rfl)
        try simp only [Act.put, List.setIfInBounds_toArray, List.set_cons_zero, List.set_cons_succ]
        refine wpAnyH_take (i := 4) (oi := ?oiq5x5) (v := ?vq5x5) ?hiq5x5 (by kernel_rfl) (by kernel_rfl) (by kernel_rfl) ?hQq5x5 (Or.inl ⟨?hwq5x5, ?hyq5x5⟩) (by assumption) ?restq5x5
        case hiq5x5 => simp only [List.getElem?_toArray, List.getElem?_cons_succ, List.getElem?_cons_zero]; exact rfl
        case hQq5x5 => exact fun _ _ _ h => h
        case hwq5x5 => rfl
        case hyq5x5 => ((intro w hSw; (try dsimp only at hSw); go_simp) <;> with_reducible rfl)
        try simp only [Act.put, List.setIfInBounds_toArray, List.set_cons_zero, List.set_cons_succ]
        refine wpAnyH_take (i := 5) (oi := ?oiq5x6) (v := ?vq5x6) ?hiq5x6 (by kernel_rfl) (by kernel_rfl) (by kernel_rfl) ?hQq5x6 (Or.inl ⟨?hwq5x6, ?hyq5x6⟩) (by assumption) ?restq5x6
        case hiq5x6 => simp only [List.getElem?_toArray, List.getElem?_cons_succ, List.getElem?_cons_zero]; exact rfl
        case hQq5x6 => exact fun _ _ _ h => h
        case hwq5x6 => rfl
        case hyq5x6 => ((intro w hSw; (try dsimp only at hSw); go_simp) <;> with_reducible rfl)
        try simp only [Act.put, List.setIfInBounds_toArray, List.set_cons_zero, List.set_cons_succ]
        refine wpAnyH_take (i := 6) (oi := ?oiq5x7) (v := ?vq5x7) ?hiq5x7 (by kernel_rfl) (by kernel_rfl) (by kernel_rfl) ?hQq5x7 (Or.inl ⟨?hwq5x7, ?hyq5x7⟩) (by assumption) ?restq5x7
        case hiq5x7 => simp only [List.getElem?_toArray, List.getElem?_cons_succ, List.getElem?_cons_zero]; exact rfl
        case hQq5x7 => exact fun _ _ _ h => h
        case hwq5x7 => rfl
        case hyq5x7 => ((intro w hSw; (try dsimp only at hSw); go_simp) <;> with_reducible rfl)
        try simp only [Act.put, List.setIfInBounds_toArray, List.set_cons_zero, List.set_cons_succ]
        refine wpAnyH_take (i := 7) (oi := ?oiq5x8) (v := ?vq5x8) ?hiq5x8 (by kernel_rfl) (by kernel_rfl) (by kernel_rfl) ?hQq5x8 (Or.inl ⟨?hwq5x8, ?hyq5x8⟩) (by assumption) ?restq5x8
        case hiq5x8 => simp only [List.getElem?_toArray, List.getElem?_cons_succ, List.getElem?_cons_zero]; exact rfl
        case hQq5x8 => exact fun _ _ _ h => h
        case hwq5x8 => rfl
        case hyq5x8 => ((intro w hSw; (try dsimp only at hSw); go_simp) <;> with_reducible rfl)
        try simp only [Act.put, List.setIfInBounds_toArray, List.set_cons_zero, List.set_cons_succ]
        refine wpAnyH_take (i := 8) (oi := ?oiq5x9) (v := ?vq5x9) ?hiq5x9 (by kernel_rfl) (by kernel_rfl) (by kernel_rfl) ?hQq5x9 (Or.inl ⟨?hwq5x9, ?hyq5x9⟩) (by assumption) ?restq5x9
        case hiq5x9 => simp only [List.getElem?_toArray, List.getElem?_cons_succ, List.getElem?_cons_zero]; exact rfl
        case hQq5x9 => exact fun _ _ _ h => h
        case hwq5x9 => rfl
        case hyq5x9 => ((intro w hSw; (try dsimp only at hSw); go_simp) <;> with_reducible rfl)
        try simp only [Act.put, List.setIfInBounds_toArray, List.set_cons_zero, List.set_cons_succ]
        refine wpAnyH_take (i := 9) (oi := ?oiq5x10) (v := ?vq5x10) ?hiq5x10 (by kernel_rfl) (by kernel_rfl) (by kernel_rfl) ?hQq5x10 (Or.inl ⟨?hwq5x10, ?hyq5x10⟩) (by assumption) ?restq5x10
        case hiq5x10 => simp only [List.getElem?_toArray, List.getElem?_cons_succ, List.getElem?_cons_zero]; exact rfl
        case hQq5x10 => exact fun _ _ _ h => h
        case hwq5x10 => rfl
        case hyq5x10 => ((intro w hSw; (try dsimp only at hSw); go_simp) <;> with_reducible rfl)
        try simp only [Act.put, List.setIfInBounds_toArray, List.set_cons_zero, List.set_cons_succ]
        refine wpAnyH_take (i := 10) (oi := ?oiq5x11) (v := ?vq5x11) ?hiq5x11 (by kernel_rfl) (by kernel_rfl) (by kernel_rfl) ?hQq5x11 (Or.inl ⟨?hwq5x11, ?hyq5x11⟩) (by assumption) ?restq5x11
        case hiq5x11 => simp only [List.getElem?_toArray, List.getElem?_cons_succ, List.getElem?_cons_zero]; exact rfl
        case hQq5x11 => exact fun _ _ _ h => h
        case hwq5x11 => rfl
        case hyq5x11 => ((intro w hSw; (try dsimp only at hSw); go_simp) <;> with_reducible rfl)
        try simp only [Act.put, List.setIfInBounds_toArray, List.set_cons_zero, List.set_cons_succ]
        refine wpAnyH_take (i := 11) (oi := ?oiq5x12) (v := ?vq5x12) ?hiq5x12 (by kernel_rfl) (by kernel_rfl) (by kernel_rfl) ?hQq5x12 (Or.inl ⟨?hwq5x12, ?hyq5x12⟩) (by assumption) ?restq5x12
        case hiq5x12 => simp only [List.getElem?_toArray, List.getElem?_cons_succ, List.getElem?_cons_zero]; exact rfl
        case hQq5x12 => exact fun _ _ _ h => h
        case hwq5x12 => rfl
        case hyq5x12 => ((intro w hSw; (try dsimp only at hSw); go_simp) <;> with_reducible rfl)
        try simp only [Act.put, List.setIfInBounds_toArray, List.set_cons_zero, List.set_cons_succ]
        refine wpAnyH_take (i := 12) (oi := ?oiq5x13) (v := ?vq5x13) ?hiq5x13 (by kernel_rfl) (by kernel_rfl) (by kernel_rfl) ?hQq5x13 (Or.inl ⟨?hwq5x13, ?hyq5x13⟩) (by assumption) ?restq5x13
        case hiq5x13 => simp only [List.getElem?_toArray, List.getElem?_cons_succ, List.getElem?_cons_zero]; exact rfl
        case hQq5x13 => exact fun _ _ _ h => h
        case hwq5x13 => rfl
        case hyq5x13 => ((intro w hSw; (try dsimp only at hSw); go_simp) <;> with_reducible rfl)
        try simp only [Act.put, List.setIfInBounds_toArray, List.set_cons_zero, List.set_cons_succ]
        refine wpAnyH_ready (rs := [13]) (by kernel_rfl) (by simp) ?_
        refine AllReadyH.cons (o := ?oq5x14) ?hoq5x14 (fun K hK => ?stepq5x14) ?moreq5x14
        case hoq5x14 => simp only [List.getElem?_toArray, List.getElem?_cons_succ, List.getElem?_cons_zero]; exact rfl
        case moreq5x14 => exact AllReadyH.nil
        go_simp
        (go_at_call 91; refine (spec_l2Ahead 2 op (price zb k) _).mono ?_; rw [hbt]; rintro e u2 ⟨rfl, rfl⟩)
        refine hK.out _ _ ?hSq5x14 (fun hHeld => ?restq5x14)
        case hSq5x14 => ((first | assumption | ((((try dsimp only); repeat' apply And.intro) <;> (first | assumption | (refine below_later ?_ (by assumption); first | assumption | (simp only [*]; done) | (go_grown; done)) | (refine cell_later (by assumption) ?_; first | assumption | (simp only [*]; done) | (simp [go_sem]; done)) | (go_grown; done) | (simp [go_sem]; done))))))
        clear hK K
        try simp only [Act.put, List.setIfInBounds_toArray, List.set_cons_zero, List.set_cons_succ]
        refine wpAnyH_take (i := 14) (oi := ?oiq5x15) (v := ?vq5x15) ?hiq5x15 (by kernel_rfl) (by kernel_rfl) (by kernel_rfl) ?hQq5x15 (Or.inl ⟨?hwq5x15, ?hyq5x15⟩) (by assumption) ?restq5x15
        case hiq5x15 => simp only [List.getElem?_toArray, List.getElem?_cons_succ, List.getElem?_cons_zero]; exact rfl
        case hQq5x15 => exact fun _ _ _ h => h
        case hwq5x15 => rfl
        case hyq5x15 => ((intro w hSw; (try dsimp only at hSw); go_simp) <;> with_reducible rfl)
        try simp only [Act.put, List.setIfInBounds_toArray, List.set_cons_zero, List.set_cons_succ]
        refine wpAnyH_take (i := 15) (oi := ?oiq5x16) (v := ?vq5x16) ?hiq5x16 (by kernel_rfl) (by kernel_rfl) (by kernel_rfl) ?hQq5x16 (Or.inl ⟨?hwq5x16, ?hyq5x16⟩) (by assumption) ?restq5x16
        case hiq5x16 => simp only [List.getElem?_toArray, List.getElem?_cons_succ, List.getElem?_cons_zero]; exact rfl
        case hQq5x16 => exact fun _ _ _ h => h
        case hwq5x16 => rfl
        case hyq5x16 => ((intro w hSw; (try dsimp only at hSw); go_simp) <;> with_reducible rfl)
        try simp only [Act.put, List.setIfInBounds_toArray, List.set_cons_zero, List.set_cons_succ]
        refine wpAnyH_done (by kernel_rfl) ?_ _
        obtain ⟨hbq, -, -⟩ := hHeld
        have hbq := HB.out.trans (hbq.mono hbsz)
        clear hbel cB c0 c1 c2 c3 hbt ko2
        go_wp2_with fail
        go_roundw
        case rel => exact ⟨k + 1, by omega, by go_num, fun j hj => by
          rcases (show j < k ∨ j = k from by omega) with h | rfl
          · exact HA.out j h
          · exact HM.out, hbq⟩
        case measure => simp [intOf]; omega
    · obtain rfl : k = m := by omega
      have HL := Lib.hid (show restI 2 op zb k = k from lead_one k (fun k => !betB 2 op (price zb k)) k hk HA.out (.inl rfl))
      have HB := Lib.hid hbel
      have hbsz := hbel.size
      go_upto_region 3 with fail
      refine wp_region_held_drew (S := (fun w' => Below wr.heap.size wr w')) (by kernel_rfl) ?hSq6xs (fun hHeld => ?restq6xs)
      case hSq6xs => ((first | assumption | ((((try dsimp only); repeat' apply And.intro) <;> (first | assumption | (refine below_later ?_ (by assumption); first | assumption | (simp only [*]; done) | (go_grown; done)) | (refine cell_later (by assumption) ?_; first | assumption | (simp only [*]; done) | (simp [go_sem]; done)) | (go_grown; done) | (simp [go_sem]; done))))))
      refine wpAnyH_take (i := 0) (oi := ?oiq6x1) (v := ?vq6x1) ?hiq6x1 (by kernel_rfl) (by kernel_rfl) (by kernel_rfl) ?hQq6x1 (Or.inl ⟨?hwq6x1, ?hyq6x1⟩) (by assumption) ?restq6x1
      case hiq6x1 => simp only [List.getElem?_toArray, List.getElem?_cons_succ, List.getElem?_cons_zero]; exact rfl
      case hQq6x1 => exact fun _ _ _ h => h
      case hwq6x1 => rfl
      case hyq6x1 => ((intro w hSw; (try dsimp only at hSw); go_simp) <;> with_reducible rfl)
      try simp only [Act.put, List.setIfInBounds_toArray, List.set_cons_zero, List.set_cons_succ]
      refine wpAnyH_take (i := 1) (oi := ?oiq6x2) (v := ?vq6x2) ?hiq6x2 (by kernel_rfl) (by kernel_rfl) (by kernel_rfl) ?hQq6x2 (Or.inl ⟨?hwq6x2, ?hyq6x2⟩) (by assumption) ?restq6x2
      case hiq6x2 => simp only [List.getElem?_toArray, List.getElem?_cons_succ, List.getElem?_cons_zero]; exact rfl
      case hQq6x2 => exact fun _ _ _ h => h
      case hwq6x2 => rfl
      case hyq6x2 => ((intro w hSw; (try dsimp only at hSw); go_simp) <;> with_reducible rfl)
      try simp only [Act.put, List.setIfInBounds_toArray, List.set_cons_zero, List.set_cons_succ]
      refine wpAnyH_take (i := 2) (oi := ?oiq6x3) (v := ?vq6x3) ?hiq6x3 (by kernel_rfl) (by kernel_rfl) (by kernel_rfl) ?hQq6x3 (Or.inl ⟨?hwq6x3, ?hyq6x3⟩) (by assumption) ?restq6x3
      case hiq6x3 => simp only [List.getElem?_toArray, List.getElem?_cons_succ, List.getElem?_cons_zero]; exact rfl
      case hQq6x3 => exact fun _ _ _ h => h
      case hwq6x3 => rfl
      case hyq6x3 => ((intro w hSw; (try dsimp only at hSw); go_simp) <;> with_reducible rfl)
      try simp only [Act.put, List.setIfInBounds_toArray, List.set_cons_zero, List.set_cons_succ]
      refine wpAnyH_take (i := 3) (oi := ?oiq6x4) (v := ?vq6x4) ?hiq6x4 (by kernel_rfl) (by kernel_rfl) (by kernel_rfl) ?hQq6x4 (Or.inl ⟨?hwq6x4, ?hyq6x4⟩) (by assumption) ?restq6x4
      case hiq6x4 => simp only [List.getElem?_toArray, List.getElem?_cons_succ, List.getElem?_cons_zero]; exact rfl
      case hQq6x4 => exact fun _ _ _ h => h
      case hwq6x4 => rfl
      case hyq6x4 => ((intro w hSw; (try dsimp only at hSw); go_simp) <;> with_reducible rfl)
      try simp only [Act.put, List.setIfInBounds_toArray, List.set_cons_zero, List.set_cons_succ]
      refine wpAnyH_take (i := 4) (oi := ?oiq6x5) (v := ?vq6x5) ?hiq6x5 (by kernel_rfl) (by kernel_rfl) (by kernel_rfl) ?hQq6x5 (Or.inl ⟨?hwq6x5, ?hyq6x5⟩) (by assumption) ?restq6x5
      case hiq6x5 => simp only [List.getElem?_toArray, List.getElem?_cons_succ, List.getElem?_cons_zero]; exact rfl
      case hQq6x5 => exact fun _ _ _ h => h
      case hwq6x5 => rfl
      case hyq6x5 => ((intro w hSw; (try dsimp only at hSw); go_simp) <;> with_reducible rfl)
      try simp only [Act.put, List.setIfInBounds_toArray, List.set_cons_zero, List.set_cons_succ]
      refine wpAnyH_take (i := 5) (oi := ?oiq6x6) (v := _) ?hiq6x6 (by kernel_rfl) (by kernel_rfl) (by kernel_rfl) ?hQq6x6 (Or.inr ⟨?hwq6x6, rfl⟩) (by assumption) ?restq6x6
      case hiq6x6 => simp only [List.getElem?_toArray, List.getElem?_cons_succ, List.getElem?_cons_zero]; exact rfl
      case hQq6x6 => exact fun _ _ _ h => h
      case hwq6x6 => rfl
      try simp only [Act.put, List.setIfInBounds_toArray, List.set_cons_zero, List.set_cons_succ]
      refine wpAnyH_take (i := 6) (oi := ?oiq6x7) (v := _) ?hiq6x7 (by kernel_rfl) (by kernel_rfl) (by kernel_rfl) ?hQq6x7 (Or.inr ⟨?hwq6x7, rfl⟩) (by assumption) ?restq6x7
      case hiq6x7 => simp only [List.getElem?_toArray, List.getElem?_cons_succ, List.getElem?_cons_zero]; exact rfl
      case hQq6x7 => exact fun _ _ _ h => h
      case hwq6x7 => rfl
      try simp only [Act.put, List.setIfInBounds_toArray, List.set_cons_zero, List.set_cons_succ]
      refine wpAnyH_take (i := 7) (oi := ?oiq6x8) (v := _) ?hiq6x8 (by kernel_rfl) (by kernel_rfl) (by kernel_rfl) ?hQq6x8 (Or.inr ⟨?hwq6x8, rfl⟩) (by assumption) ?restq6x8
      case hiq6x8 => simp only [List.getElem?_toArray, List.getElem?_cons_succ, List.getElem?_cons_zero]; exact rfl
      case hQq6x8 => exact fun _ _ _ h => h
      case hwq6x8 => rfl
      try simp only [Act.put, List.setIfInBounds_toArray, List.set_cons_zero, List.set_cons_succ]
      refine wpAnyH_take (i := 8) (oi := ?oiq6x9) (v := _) ?hiq6x9 (by kernel_rfl) (by kernel_rfl) (by kernel_rfl) ?hQq6x9 (Or.inr ⟨?hwq6x9, rfl⟩) (by assumption) ?restq6x9
      case hiq6x9 => simp only [List.getElem?_toArray, List.getElem?_cons_succ, List.getElem?_cons_zero]; exact rfl
      case hQq6x9 => exact fun _ _ _ h => h
      case hwq6x9 => rfl
      try simp only [Act.put, List.setIfInBounds_toArray, List.set_cons_zero, List.set_cons_succ]
      refine wpAnyH_take (i := 9) (oi := ?oiq6x10) (v := _) ?hiq6x10 (by kernel_rfl) (by kernel_rfl) (by kernel_rfl) ?hQq6x10 (Or.inr ⟨?hwq6x10, rfl⟩) (by assumption) ?restq6x10
      case hiq6x10 => simp only [List.getElem?_toArray, List.getElem?_cons_succ, List.getElem?_cons_zero]; exact rfl
      case hQq6x10 => exact fun _ _ _ h => h
      case hwq6x10 => rfl
      try simp only [Act.put, List.setIfInBounds_toArray, List.set_cons_zero, List.set_cons_succ]
      refine wpAnyH_take (i := 10) (oi := ?oiq6x11) (v := _) ?hiq6x11 (by kernel_rfl) (by kernel_rfl) (by kernel_rfl) ?hQq6x11 (Or.inr ⟨?hwq6x11, rfl⟩) (by assumption) ?restq6x11
      case hiq6x11 => simp only [List.getElem?_toArray, List.getElem?_cons_succ, List.getElem?_cons_zero]; exact rfl
      case hQq6x11 => exact fun _ _ _ h => h
      case hwq6x11 => rfl
      try simp only [Act.put, List.setIfInBounds_toArray, List.set_cons_zero, List.set_cons_succ]
      refine wpAnyH_take (i := 11) (oi := ?oiq6x12) (v := _) ?hiq6x12 (by kernel_rfl) (by kernel_rfl) (by kernel_rfl) ?hQq6x12 (Or.inr ⟨?hwq6x12, rfl⟩) (by assumption) ?restq6x12
      case hiq6x12 => simp only [List.getElem?_toArray, List.getElem?_cons_succ, List.getElem?_cons_zero]; exact rfl
      case hQq6x12 => exact fun _ _ _ h => h
      case hwq6x12 => rfl
      try simp only [Act.put, List.setIfInBounds_toArray, List.set_cons_zero, List.set_cons_succ]
      refine wpAnyH_take (i := 12) (oi := ?oiq6x13) (v := _) ?hiq6x13 (by kernel_rfl) (by kernel_rfl) (by kernel_rfl) ?hQq6x13 (Or.inr ⟨?hwq6x13, rfl⟩) (by assumption) ?restq6x13
      case hiq6x13 => simp only [List.getElem?_toArray, List.getElem?_cons_succ, List.getElem?_cons_zero]; exact rfl
      case hQq6x13 => exact fun _ _ _ h => h
      case hwq6x13 => rfl
      try simp only [Act.put, List.setIfInBounds_toArray, List.set_cons_zero, List.set_cons_succ]
      refine wpAnyH_take (i := 13) (oi := ?oiq6x14) (v := _) ?hiq6x14 (by kernel_rfl) (by kernel_rfl) (by kernel_rfl) ?hQq6x14 (Or.inr ⟨?hwq6x14, rfl⟩) (by assumption) ?restq6x14
      case hiq6x14 => simp only [List.getElem?_toArray, List.getElem?_cons_succ, List.getElem?_cons_zero]; exact rfl
      case hQq6x14 => exact fun _ _ _ h => h
      case hwq6x14 => rfl
      try simp only [Act.put, List.setIfInBounds_toArray, List.set_cons_zero, List.set_cons_succ]
      refine wpAnyH_take (i := 14) (oi := ?oiq6x15) (v := _) ?hiq6x15 (by kernel_rfl) (by kernel_rfl) (by kernel_rfl) ?hQq6x15 (Or.inr ⟨?hwq6x15, rfl⟩) (by assumption) ?restq6x15
      case hiq6x15 => simp only [List.getElem?_toArray, List.getElem?_cons_succ, List.getElem?_cons_zero]; exact rfl
      case hQq6x15 => exact fun _ _ _ h => h
      case hwq6x15 => rfl
      try simp only [Act.put, List.setIfInBounds_toArray, List.set_cons_zero, List.set_cons_succ]
      refine wpAnyH_take (i := 15) (oi := ?oiq6x16) (v := ?vq6x16) ?hiq6x16 (by kernel_rfl) (by kernel_rfl) (by kernel_rfl) ?hQq6x16 (Or.inl ⟨?hwq6x16, ?hyq6x16⟩) (by assumption) ?restq6x16
      case hiq6x16 => simp only [List.getElem?_toArray, List.getElem?_cons_succ, List.getElem?_cons_zero]; exact rfl
      case hQq6x16 => exact fun _ _ _ h => h
      case hwq6x16 => rfl
      case hyq6x16 => ((intro w hSw; (try dsimp only at hSw); go_simp) <;> with_reducible rfl)
      try simp only [Act.put, List.setIfInBounds_toArray, List.set_cons_zero, List.set_cons_succ]
      refine wpAnyH_done (by kernel_rfl) ?_ _
      have hbq := HB.out.trans (hHeld.mono hbsz)
      clear hbel cB ko2
      rcases O2 with _ | a
      · obtain ⟨rfl, rfl⟩ := hO2 rfl
        generalize wr.drew = wq at *
        have hsq : w.heap.size + 3 ≤ wq.heap.size := Nat.le_trans hs1 hbq.size
        have hbD := hb1.trans (hbq.mono hb1.size)
        have ka := (hbq.block w.heap.size (by omega)).trans ka
        have ko := (hbq.block (w.heap.size + 1) (by omega)).trans ko
        have kr := (hbq.block (w.heap.size + 1 + 1) (by omega)).trans kr
        have hbE : Below wq.heap.size wq (wq.alloc (.cells #[] 28)) := (Below.refl _ _).alloc (Nat.le_refl _) _
        have hbDE := hbD.trans (hbE.mono hbD.size)
        have hlk : Lst (wq.alloc (.cells #[] 28)) w.heap.size 4 none 0 [] := Lst.nil _ w.heap.size 4 _
        have hq0 := own_mono (base' := w.heap.size + 3) (own_empty wq 28 4) hsq
        clear hbq
        go_wp2_with (at_builtin; refine wpList_app_atO _ rfl _ _ 24 rfl (w.heap.size + 3) 28 i0 _ 4 32 Try.underlying24 hi hz0 hz1 hz2 rfl (by decide) _ _ _ rfl hq0 none 0 0 (fun _ => ⟨rfl, rfl⟩) (nums []) rfl (by rw [nums_length]; exact hlk.1) hlk.newsO (nums_one _) (by unfold maxLen; omega) (by omega) (by simp; omega) ?_)
        intro v5 w5 hown5 hgrow5 hat5
        have hso5 : v5.ownBlock.isSome = true := some_at hat5 rfl
        clear hat5
        have hbD5 := hbDE.grown hgrow5 hbDE.size (fun q hq => by simp [Value.ownBlock] at hq; omega)
        have ka := (hgrow5.block w.heap.size (by simp; omega) (fun e => by simp [Value.ownBlock] at e; omega)).trans ((hbE.block _ (by omega)).trans ka)
        have ko := (hgrow5.block (w.heap.size + 1) (by simp; omega) (fun e => by simp [Value.ownBlock] at e; omega)).trans ((hbE.block _ (by omega)).trans ko)
        have kr := (hgrow5.block (w.heap.size + 1 + 1) (by simp; omega) (fun e => by simp [Value.ownBlock] at e; omega)).trans ((hbE.block _ (by omega)).trans kr)
        have hs5 : w.heap.size + 3 ≤ w5.heap.size := by have := hgrow5.size; simp at this; omega
        obtain ⟨A5, d5, rfl, _, _⟩ := own_slice hown5
        have o0 := cell_of_row w5 (w.heap.size + 1) 0 _ _ (0, 0) ko
        have o1 := cell_of_row w5 (w.heap.size + 1) 1 _ _ (0, 0) ko
        have o2 := cell_of_row w5 (w.heap.size + 1) 2 _ _ (0, 0) ko
        have o3 := cell_of_row w5 (w.heap.size + 1) 3 _ _ (0, 0) ko
        simp at o0 o1 o2 o3
        have hov5 := hown5.lt
        clear hgrow5 hbDE hbE hbD hq0 hlk
        go_wp2_with (at_builtin; refine wpList_append_own_at _ rfl _ _ 24 rfl (w.heap.size + 3) 28 i0 _ 4 32 Try.underlying24 hi hz0 hz1 hz2 rfl (by decide) _ _ _ rfl (hown5.alloc _) ⟨w5.heap.size, 0, none⟩ 1 1 [.int .i64 oi, .int .i64 oa, .int .i64 op, .int .i64 oq] rfl rfl (World.news_of_block (heap_alloc_new w5 _)) (by intro u hu; simp at hu; rcases hu with rfl | rfl | rfl | rfl <;> rfl) (by unfold maxLen; omega) (by omega) (by simp; omega) ?_)
        intro v6 w6 hown6 hgrow6 _ hat6
        have HSO6 := Lib.hid (some_at hat6 hso5)
        clear hat6 hso5
        rw [show nums [] ++ [.int .i64 oi, .int .i64 oa, .int .i64 op, .int .i64 oq] = nums ([] ++ [oi, oa, op, oq]) from by rw [nums_append]; rfl] at hown6
        have hbD6 := (hbD5.alloc hbD5.size (.cells #[.int .i64 oi, .int .i64 oa, .int .i64 op, .int .i64 oq] 28)).grown hgrow6 (by simp; omega) (fun q hq => by have := (hov5 q hq).1; omega)
        have ka := (hgrow6.block w.heap.size (by simp; omega) (fun e => by have := (hov5 _ e.symm).1; omega)).trans ((Below.heap_alloc w5 _ _ (by omega)).trans ka)
        have kr := (hgrow6.block (w.heap.size + 1 + 1) (by simp; omega) (fun e => by have := (hov5 _ e.symm).1; omega)).trans ((Below.heap_alloc w5 _ _ (by omega)).trans kr)
        have hs6 : w.heap.size + 3 ≤ w6.heap.size := by have := hgrow6.size; simp at this; omega
        obtain ⟨A6, d6, rfl, _, _⟩ := own_slice hown6
        have q0 := cell_of_row w6 w.heap.size 0 _ _ (0, 0) ka
        have q1 := cell_of_row w6 w.heap.size 1 _ _ (0, 0) ka
        simp at q0 q1
        clear hgrow6 hbD5 hov5 hown5 o0 o1 o2 o3 ko
        go_upto_region 7 with fail
        refine wp_region_held_drew (S := (fun w' => Below w.heap.size w w' ∧ w'.cell? ⟨w.heap.size, 0, none⟩ = some (.slice O1 n c) ∧ w'.cell? ⟨w.heap.size, 1, none⟩ = some (.slice none 0 0) ∧ w.heap.size + 3 ≤ w'.heap.size ∧ ∃ x y, w'.heap[w.heap.size + 1 + 1]? = some (.cells #[x, y] 26 (0, 0)))) (by kernel_rfl) ?hSr72 (fun hHeld => ?restr72)
        case hSr72 => exact ⟨hbD6.drew, q0, q1, hs6, _, _, kr⟩
        refine wpAnyH_take (i := 0) (oi := ?oiw73) (v := ?vw73) ?hiw73 (by kernel_rfl) (by kernel_rfl) (by kernel_rfl) ?hQw73 (Or.inl ⟨?hww73, ?hyw73⟩) (by assumption) ?restw73
        case hiw73 => simp only [List.getElem?_toArray, List.getElem?_cons_succ, List.getElem?_cons_zero]; exact rfl
        case hQw73 => exact fun _ _ _ h => h
        case hww73 => rfl
        case hyw73 => ((intro w hSw; (try dsimp only at hSw); go_simp) <;> with_reducible rfl)
        try simp only [Act.put, List.setIfInBounds_toArray, List.set_cons_zero, List.set_cons_succ]
        refine wpAnyH_take (i := 1) (oi := ?oiw74) (v := ?vw74) ?hiw74 (by kernel_rfl) (by kernel_rfl) (by kernel_rfl) ?hQw74 (Or.inl ⟨?hww74, ?hyw74⟩) (by assumption) ?restw74
        case hiw74 => simp only [List.getElem?_toArray, List.getElem?_cons_succ, List.getElem?_cons_zero]; exact rfl
        case hQw74 => exact fun _ _ _ h => h
        case hww74 => rfl
        case hyw74 => ((intro w hSw; (try dsimp only at hSw); go_simp) <;> with_reducible rfl)
        try simp only [Act.put, List.setIfInBounds_toArray, List.set_cons_zero, List.set_cons_succ]
        refine wpAnyH_take (i := 2) (oi := ?oiw75) (v := ?vw75) ?hiw75 (by kernel_rfl) (by kernel_rfl) (by kernel_rfl) ?hQw75 (Or.inl ⟨?hww75, ?hyw75⟩) (by assumption) ?restw75
        case hiw75 => simp only [List.getElem?_toArray, List.getElem?_cons_succ, List.getElem?_cons_zero]; exact rfl
        case hQw75 => exact fun _ _ _ h => h
        case hww75 => rfl
        case hyw75 => ((intro w hSw; (try dsimp only at hSw); go_simp) <;> with_reducible rfl)
        try simp only [Act.put, List.setIfInBounds_toArray, List.set_cons_zero, List.set_cons_succ]
        refine wpAnyH_take (i := 3) (oi := ?oiw76) (v := ?vw76) ?hiw76 (by kernel_rfl) (by kernel_rfl) (by kernel_rfl) ?hQw76 (Or.inl ⟨?hww76, ?hyw76⟩) (by assumption) ?restw76
        case hiw76 => simp only [List.getElem?_toArray, List.getElem?_cons_succ, List.getElem?_cons_zero]; exact rfl
        case hQw76 => exact fun _ _ _ h => h
        case hww76 => rfl
        case hyw76 => ((intro w hSw; (try dsimp only at hSw); go_simp) <;> with_reducible rfl)
        try simp only [Act.put, List.setIfInBounds_toArray, List.set_cons_zero, List.set_cons_succ]
        refine wpAnyH_take (i := 4) (oi := ?oiw77) (v := ?vw77) ?hiw77 (by kernel_rfl) (by kernel_rfl) (by kernel_rfl) ?hQw77 (Or.inl ⟨?hww77, ?hyw77⟩) (by assumption) ?restw77
        case hiw77 => simp only [List.getElem?_toArray, List.getElem?_cons_succ, List.getElem?_cons_zero]; exact rfl
        case hQw77 => exact fun _ _ _ h => h
        case hww77 => rfl
        case hyw77 => ((intro w hSw; (try dsimp only at hSw); go_simp) <;> with_reducible rfl)
        try simp only [Act.put, List.setIfInBounds_toArray, List.set_cons_zero, List.set_cons_succ]
        refine wpAnyH_take (i := 5) (oi := ?oiw78) (v := ?vw78) ?hiw78 (by kernel_rfl) (by kernel_rfl) (by kernel_rfl) ?hQw78 (Or.inl ⟨?hww78, ?hyw78⟩) (by assumption) ?restw78
        case hiw78 => simp only [List.getElem?_toArray, List.getElem?_cons_succ, List.getElem?_cons_zero]; exact rfl
        case hQw78 => exact fun _ _ _ h => h
        case hww78 => rfl
        case hyw78 => ((intro w hSw; (try dsimp only at hSw); go_simp) <;> with_reducible rfl)
        try simp only [Act.put, List.setIfInBounds_toArray, List.set_cons_zero, List.set_cons_succ]
        refine wpAnyH_ready (rs := [6]) (by kernel_rfl) (by simp) ?_
        refine AllReadyH.cons (o := ?ow79) ?how79 (fun K hK => ?stepw79) ?morew79
        case how79 => simp only [List.getElem?_toArray, List.getElem?_cons_succ, List.getElem?_cons_zero]; exact rfl
        case morew79 => exact AllReadyH.nil
        have hsz7 := hHeld.2.2.2.1
        (refine step_appX _ rfl _ _ rfl (w.heap.size + 3) (.slice A6 (0 + 1) d6) rfl (0 + 1) ([] ++ [oi, oa, op, oq]) (own_below hown6 (Below.refl _ w6).drew) _ 0 _ (fun _ => ⟨rfl, rfl⟩) [] rfl w.heap.size (Lst.nil _ w.heap.size 4 _) (by omega) (by omega) hsz7 ?_; intro r7 u7 hown7 hgrow7 hat7)
        have hlt7 := hown6.lt
        refine hK.out _ _ ?hSw79 (fun hHeld => ?restw79)
        case hSw79 => exact rsS_grown hHeld hgrow7 (fun q hq => (hlt7 q hq).1)
        clear hK K
        try simp only [Act.put, List.setIfInBounds_toArray, List.set_cons_zero, List.set_cons_succ]
        have HSO7 := Lib.hid (some_at hat7 HSO6.out)
        clear hat7
        obtain ⟨A7, d7, rfl, _, _⟩ := own_slice hown7
        refine wpAnyH_ready (rs := [7]) (by kernel_rfl) (by simp) ?_
        refine AllReadyH.cons (o := ?ow80) ?how80 (fun K hK => ?stepw80) ?morew80
        case how80 => simp only [List.getElem?_toArray, List.getElem?_cons_succ, List.getElem?_cons_zero]; exact rfl
        case morew80 => exact AllReadyH.nil
        go_simp
        go_at_call 88
        refine (spec_l2With2 _ _ _ _ _ _ za zb A7 _ d7 u7 ((ha.below hHeld.1).more hHeld.1.size) ((hb.below hHeld.1).more hHeld.1.size) (by omega) (by omega) hO1 (fun _ => ⟨rfl, rfl⟩)).mono ?_
        rintro e u8 ⟨⟨r8, rfl, ho8, hso8⟩, hb8⟩
        have hlt7' := hown7.lt
        refine hK.out _ _ ?hSw80 (fun hHeld => ?restw80)
        case hSw80 => exact rsS_below hHeld hb8
        clear hK K
        try simp only [Act.put, List.setIfInBounds_toArray, List.set_cons_zero, List.set_cons_succ]
        have HSO8 := Lib.hid hso8
        clear hso8
        have hown7 := own_below hown7 hb8
        obtain ⟨A8, d8, rfl, _, _⟩ := own_slice ho8
        have hX := hHeld
        obtain ⟨x, y, hr⟩ := hX.2.2.2.2
        have r0 := cell_of_row u8 (w.heap.size + 1 + 1) 0 _ _ (0, 0) hr
        have r1 := cell_of_row u8 (w.heap.size + 1 + 1) 1 _ _ (0, 0) hr
        have z0 := frozen_of_row u8 (w.heap.size + 1 + 1) 0 _ _ hr
        have z1 := frozen_of_row u8 (w.heap.size + 1 + 1) 1 _ _ hr
        simp at r0 r1
        have E0 := Lib.hid (heap_set1 (u := (.slice A7 (0 + 1 + 0) d7)) (heap_set0 (u := (.slice A8 n d8)) hr))
        refine wpAnyH_ready (rs := [8]) (by kernel_rfl) (by simp) ?_
        refine AllReadyH.cons (o := ?ow81) ?how81 (fun K hK => ?stepw81) ?morew81
        case how81 => simp only [List.getElem?_toArray, List.getElem?_cons_succ, List.getElem?_cons_zero]; exact rfl
        case morew81 => exact AllReadyH.nil
        go_simp
        refine hK.out _ _ ?hSw81 (fun hHeld => ?restw81)
        case hSw81 => exact rsS_set hX _ _
        clear hK K
        try simp only [Act.put, List.setIfInBounds_toArray, List.set_cons_zero, List.set_cons_succ]
        refine wpAnyH_done (by kernel_rfl) ?_ _
        have f0 := cell_of_row _ (w.heap.size + 1 + 1) 0 _ _ (0, 0) E0.out
        have f1 := cell_of_row _ (w.heap.size + 1 + 1) 1 _ _ (0, 0) E0.out
        simp at f0 f1
        have hz8 : w.heap.size + 3 ≤ u7.heap.size := Nat.le_trans hsz7 hgrow7.size
        have hne : ∀ q, (Value.slice A7 (0 + 1 + 0) d7).ownBlock = some q → (Value.slice A8 n d8).ownBlock ≠ some q := fun q h1 h2 => by have a := (hlt7' q h1).2; have b := (ho8.lt q h2).1; omega
        have HT := Lib.hid (((TwoRows.mk (own_mono ho8 hz8) hown7 (fun q h1 h2 => hne q h2 h1)).kept (set_grown u8 (w.heap.size + 1 + 1) 0 (.slice A8 n d8)) (by omega)).kept (set_grown _ (w.heap.size + 1 + 1) 1 (.slice A7 (0 + 1 + 0) d7)) (by omega))
        have HB2 := Lib.hid ((hX.1.setCell (p := ⟨w.heap.size + 1 + 1, 0, none⟩) (show w.heap.size ≤ w.heap.size + 1 + 1 by omega) (.slice A8 n d8)).setCell (p := ⟨w.heap.size + 1 + 1, 1, none⟩) (show w.heap.size ≤ w.heap.size + 1 + 1 by omega) (.slice A7 (0 + 1 + 0) d7))
        clear hown7 ho8 hX hHeld hr r0 r1
        go_wp2_with fail
        exact bodyPost_ret (v := .agg #[.slice A8 n d8, .slice A7 (0 + 1 + 0) d7]) (by simp [results, Try.results101, go_sem, f0, f1]) rfl ⟨⟨_, _, rfl, rest_rows2_end HL.out hb.1 hk (HT.out.mono (by omega)), HSO8.out, HSO7.out⟩, HB2.out⟩
      · skip
        generalize wr.drew = wq at *
        have hsq : w.heap.size + 3 ≤ wq.heap.size := Nat.le_trans hs1 hbq.size
        have hbD := hb1.trans (hbq.mono hb1.size)
        have ka := (hbq.block w.heap.size (by omega)).trans ka
        have ko := (hbq.block (w.heap.size + 1) (by omega)).trans ko
        have kr := (hbq.block (w.heap.size + 1 + 1) (by omega)).trans kr
        have hbE : Below wq.heap.size wq (wq.alloc (.cells #[] 28)) := (Below.refl _ _).alloc (Nat.le_refl _) _
        have hbDE := hbD.trans (hbE.mono hbD.size)
        have hlk := Lst.take (k := k) (hb.below hbDE) hk
        have hq0 := own_mono (base' := w.heap.size + 3) (own_empty wq 28 4) hsq
        clear hbq
        go_wp2_with (at_builtin; refine wpList_app_atO _ rfl _ _ 24 rfl (w.heap.size + 3) 28 i0 _ 4 32 Try.underlying24 hi hz0 hz1 hz2 rfl (by decide) _ _ _ rfl hq0 (some a) k d (fun e => by cases e) (nums (zb.take (k * 4))) rfl (by rw [nums_length]; exact hlk.1) hlk.newsO (nums_one _) (by unfold maxLen; omega) (by omega) (by simp; omega) ?_)
        intro v5 w5 hown5 hgrow5 hat5
        have hso5 : v5.ownBlock.isSome = true := some_at hat5 rfl
        clear hat5
        have hbD5 := hbDE.grown hgrow5 hbDE.size (fun q hq => by simp [Value.ownBlock] at hq; omega)
        have ka := (hgrow5.block w.heap.size (by simp; omega) (fun e => by simp [Value.ownBlock] at e; omega)).trans ((hbE.block _ (by omega)).trans ka)
        have ko := (hgrow5.block (w.heap.size + 1) (by simp; omega) (fun e => by simp [Value.ownBlock] at e; omega)).trans ((hbE.block _ (by omega)).trans ko)
        have kr := (hgrow5.block (w.heap.size + 1 + 1) (by simp; omega) (fun e => by simp [Value.ownBlock] at e; omega)).trans ((hbE.block _ (by omega)).trans kr)
        have hs5 : w.heap.size + 3 ≤ w5.heap.size := by have := hgrow5.size; simp at this; omega
        obtain ⟨A5, d5, rfl, _, _⟩ := own_slice hown5
        have o0 := cell_of_row w5 (w.heap.size + 1) 0 _ _ (0, 0) ko
        have o1 := cell_of_row w5 (w.heap.size + 1) 1 _ _ (0, 0) ko
        have o2 := cell_of_row w5 (w.heap.size + 1) 2 _ _ (0, 0) ko
        have o3 := cell_of_row w5 (w.heap.size + 1) 3 _ _ (0, 0) ko
        simp at o0 o1 o2 o3
        have hov5 := hown5.lt
        clear hgrow5 hbDE hbE hbD hq0 hlk
        go_wp2_with (at_builtin; refine wpList_append_own_at _ rfl _ _ 24 rfl (w.heap.size + 3) 28 i0 _ 4 32 Try.underlying24 hi hz0 hz1 hz2 rfl (by decide) _ _ _ rfl (hown5.alloc _) ⟨w5.heap.size, 0, none⟩ 1 1 [.int .i64 oi, .int .i64 oa, .int .i64 op, .int .i64 oq] rfl rfl (World.news_of_block (heap_alloc_new w5 _)) (by intro u hu; simp at hu; rcases hu with rfl | rfl | rfl | rfl <;> rfl) (by unfold maxLen; omega) (by omega) (by simp; omega) ?_)
        intro v6 w6 hown6 hgrow6 _ hat6
        have HSO6 := Lib.hid (some_at hat6 hso5)
        clear hat6 hso5
        rw [show nums (zb.take (k * 4)) ++ [.int .i64 oi, .int .i64 oa, .int .i64 op, .int .i64 oq] = nums ((zb.take (k * 4)) ++ [oi, oa, op, oq]) from by rw [nums_append]; rfl] at hown6
        have hbD6 := (hbD5.alloc hbD5.size (.cells #[.int .i64 oi, .int .i64 oa, .int .i64 op, .int .i64 oq] 28)).grown hgrow6 (by simp; omega) (fun q hq => by have := (hov5 q hq).1; omega)
        have ka := (hgrow6.block w.heap.size (by simp; omega) (fun e => by have := (hov5 _ e.symm).1; omega)).trans ((Below.heap_alloc w5 _ _ (by omega)).trans ka)
        have kr := (hgrow6.block (w.heap.size + 1 + 1) (by simp; omega) (fun e => by have := (hov5 _ e.symm).1; omega)).trans ((Below.heap_alloc w5 _ _ (by omega)).trans kr)
        have hs6 : w.heap.size + 3 ≤ w6.heap.size := by have := hgrow6.size; simp at this; omega
        obtain ⟨A6, d6, rfl, _, _⟩ := own_slice hown6
        have q0 := cell_of_row w6 w.heap.size 0 _ _ (0, 0) ka
        have q1 := cell_of_row w6 w.heap.size 1 _ _ (0, 0) ka
        simp at q0 q1
        clear hgrow6 hbD5 hov5 hown5 o0 o1 o2 o3 ko
        go_upto_region 7 with fail
        rcases Nat.lt_or_eq_of_le (show k ≤ d by omega) with hck | hck
        · have hck' : ¬ (d = k) := by omega
          refine wp_region_held_drew (S := (fun w' => Below w.heap.size w w' ∧ w'.cell? ⟨w.heap.size, 0, none⟩ = some (.slice O1 n c) ∧ w'.cell? ⟨w.heap.size, 1, none⟩ = some (.slice (some a) k d) ∧ w.heap.size + 3 ≤ w'.heap.size ∧ ∃ x y, w'.heap[w.heap.size + 1 + 1]? = some (.cells #[x, y] 26 (0, 0)))) (by kernel_rfl) ?hSr82 (fun hHeld => ?restr82)
          case hSr82 => exact ⟨hbD6.drew, q0, q1, hs6, _, _, kr⟩
          refine wpAnyH_take (i := 0) (oi := ?oiw83) (v := ?vw83) ?hiw83 (by kernel_rfl) (by kernel_rfl) (by kernel_rfl) ?hQw83 (Or.inl ⟨?hww83, ?hyw83⟩) (by assumption) ?restw83
          case hiw83 => simp only [List.getElem?_toArray, List.getElem?_cons_succ, List.getElem?_cons_zero]; exact rfl
          case hQw83 => exact fun _ _ _ h => h
          case hww83 => rfl
          case hyw83 => ((intro w hSw; (try dsimp only at hSw); go_simp) <;> with_reducible rfl)
          try simp only [Act.put, List.setIfInBounds_toArray, List.set_cons_zero, List.set_cons_succ]
          refine wpAnyH_take (i := 1) (oi := ?oiw84) (v := ?vw84) ?hiw84 (by kernel_rfl) (by kernel_rfl) (by kernel_rfl) ?hQw84 (Or.inl ⟨?hww84, ?hyw84⟩) (by assumption) ?restw84
          case hiw84 => simp only [List.getElem?_toArray, List.getElem?_cons_succ, List.getElem?_cons_zero]; exact rfl
          case hQw84 => exact fun _ _ _ h => h
          case hww84 => rfl
          case hyw84 => ((intro w hSw; (try dsimp only at hSw); go_simp) <;> with_reducible rfl)
          try simp only [Act.put, List.setIfInBounds_toArray, List.set_cons_zero, List.set_cons_succ]
          refine wpAnyH_take (i := 2) (oi := ?oiw85) (v := ?vw85) ?hiw85 (by kernel_rfl) (by kernel_rfl) (by kernel_rfl) ?hQw85 (Or.inl ⟨?hww85, ?hyw85⟩) (by assumption) ?restw85
          case hiw85 => simp only [List.getElem?_toArray, List.getElem?_cons_succ, List.getElem?_cons_zero]; exact rfl
          case hQw85 => exact fun _ _ _ h => h
          case hww85 => rfl
          case hyw85 => ((intro w hSw; (try dsimp only at hSw); go_simp) <;> with_reducible rfl)
          try simp only [Act.put, List.setIfInBounds_toArray, List.set_cons_zero, List.set_cons_succ]
          refine wpAnyH_take (i := 3) (oi := ?oiw86) (v := ?vw86) ?hiw86 (by kernel_rfl) (by kernel_rfl) (by kernel_rfl) ?hQw86 (Or.inl ⟨?hww86, ?hyw86⟩) (by assumption) ?restw86
          case hiw86 => simp only [List.getElem?_toArray, List.getElem?_cons_succ, List.getElem?_cons_zero]; exact rfl
          case hQw86 => exact fun _ _ _ h => h
          case hww86 => rfl
          case hyw86 => ((intro w hSw; (try dsimp only at hSw); go_simp) <;> with_reducible rfl)
          try simp only [Act.put, List.setIfInBounds_toArray, List.set_cons_zero, List.set_cons_succ]
          refine wpAnyH_take (i := 4) (oi := ?oiw87) (v := ?vw87) ?hiw87 (by kernel_rfl) (by kernel_rfl) (by kernel_rfl) ?hQw87 (Or.inl ⟨?hww87, ?hyw87⟩) (by assumption) ?restw87
          case hiw87 => simp only [List.getElem?_toArray, List.getElem?_cons_succ, List.getElem?_cons_zero]; exact rfl
          case hQw87 => exact fun _ _ _ h => h
          case hww87 => rfl
          case hyw87 => ((intro w hSw; (try dsimp only at hSw); go_simp) <;> with_reducible rfl)
          try simp only [Act.put, List.setIfInBounds_toArray, List.set_cons_zero, List.set_cons_succ]
          refine wpAnyH_take (i := 5) (oi := ?oiw88) (v := ?vw88) ?hiw88 (by kernel_rfl) (by kernel_rfl) (by kernel_rfl) ?hQw88 (Or.inl ⟨?hww88, ?hyw88⟩) (by assumption) ?restw88
          case hiw88 => simp only [List.getElem?_toArray, List.getElem?_cons_succ, List.getElem?_cons_zero]; exact rfl
          case hQw88 => exact fun _ _ _ h => h
          case hww88 => rfl
          case hyw88 => ((intro w hSw; (try dsimp only at hSw); go_simp) <;> with_reducible rfl)
          try simp only [Act.put, List.setIfInBounds_toArray, List.set_cons_zero, List.set_cons_succ]
          refine wpAnyH_ready (rs := [6]) (by kernel_rfl) (by simp) ?_
          refine AllReadyH.cons (o := ?ow89) ?how89 (fun K hK => ?stepw89) ?morew89
          case how89 => simp only [List.getElem?_toArray, List.getElem?_cons_succ, List.getElem?_cons_zero]; exact rfl
          case morew89 => exact AllReadyH.nil
          have hsz7 := hHeld.2.2.2.1
          (refine step_appX _ rfl _ _ rfl (w.heap.size + 3) (.slice A6 (k + 1) d6) rfl (k + 1) ((zb.take (k * 4)) ++ [oi, oa, op, oq]) (own_below hown6 (Below.refl _ w6).drew) _ 0 _ (fun e => by cases e) [] rfl w.heap.size (Lst.nil _ w.heap.size 4 _) (by omega) (by omega) hsz7 ?_; intro r7 u7 hown7 hgrow7 hat7)
          have hlt7 := hown6.lt
          refine hK.out _ _ ?hSw89 (fun hHeld => ?restw89)
          case hSw89 => exact rsS_grown hHeld hgrow7 (fun q hq => (hlt7 q hq).1)
          clear hK K
          try simp only [Act.put, List.setIfInBounds_toArray, List.set_cons_zero, List.set_cons_succ]
          have HSO7 := Lib.hid (some_at hat7 HSO6.out)
          clear hat7
          obtain ⟨A7, d7, rfl, _, _⟩ := own_slice hown7
          refine wpAnyH_ready (rs := [7]) (by kernel_rfl) (by simp) ?_
          refine AllReadyH.cons (o := ?ow90) ?how90 (fun K hK => ?stepw90) ?morew90
          case how90 => simp only [List.getElem?_toArray, List.getElem?_cons_succ, List.getElem?_cons_zero]; exact rfl
          case morew90 => exact AllReadyH.nil
          go_simp
          go_at_call 88
          refine (spec_l2With2 _ _ _ _ _ _ za zb A7 _ d7 u7 ((ha.below hHeld.1).more hHeld.1.size) ((hb.below hHeld.1).more hHeld.1.size) (by omega) (by omega) hO1 hO2).mono ?_
          rintro e u8 ⟨⟨r8, rfl, ho8, hso8⟩, hb8⟩
          have hlt7' := hown7.lt
          refine hK.out _ _ ?hSw90 (fun hHeld => ?restw90)
          case hSw90 => exact rsS_below hHeld hb8
          clear hK K
          try simp only [Act.put, List.setIfInBounds_toArray, List.set_cons_zero, List.set_cons_succ]
          have HSO8 := Lib.hid hso8
          clear hso8
          have hown7 := own_below hown7 hb8
          obtain ⟨A8, d8, rfl, _, _⟩ := own_slice ho8
          have hX := hHeld
          obtain ⟨x, y, hr⟩ := hX.2.2.2.2
          have r0 := cell_of_row u8 (w.heap.size + 1 + 1) 0 _ _ (0, 0) hr
          have r1 := cell_of_row u8 (w.heap.size + 1 + 1) 1 _ _ (0, 0) hr
          have z0 := frozen_of_row u8 (w.heap.size + 1 + 1) 0 _ _ hr
          have z1 := frozen_of_row u8 (w.heap.size + 1 + 1) 1 _ _ hr
          simp at r0 r1
          have E0 := Lib.hid (heap_set1 (u := (.slice A7 (k + 1 + 0) d7)) (heap_set0 (u := (.slice A8 n d8)) hr))
          refine wpAnyH_ready (rs := [8]) (by kernel_rfl) (by simp) ?_
          refine AllReadyH.cons (o := ?ow91) ?how91 (fun K hK => ?stepw91) ?morew91
          case how91 => simp only [List.getElem?_toArray, List.getElem?_cons_succ, List.getElem?_cons_zero]; exact rfl
          case morew91 => exact AllReadyH.nil
          go_simp
          refine hK.out _ _ ?hSw91 (fun hHeld => ?restw91)
          case hSw91 => exact rsS_set hX _ _
          clear hK K
          try simp only [Act.put, List.setIfInBounds_toArray, List.set_cons_zero, List.set_cons_succ]
          refine wpAnyH_done (by kernel_rfl) ?_ _
          have f0 := cell_of_row _ (w.heap.size + 1 + 1) 0 _ _ (0, 0) E0.out
          have f1 := cell_of_row _ (w.heap.size + 1 + 1) 1 _ _ (0, 0) E0.out
          simp at f0 f1
          have hz8 : w.heap.size + 3 ≤ u7.heap.size := Nat.le_trans hsz7 hgrow7.size
          have hne : ∀ q, (Value.slice A7 (k + 1 + 0) d7).ownBlock = some q → (Value.slice A8 n d8).ownBlock ≠ some q := fun q h1 h2 => by have a := (hlt7' q h1).2; have b := (ho8.lt q h2).1; omega
          have HT := Lib.hid (((TwoRows.mk (own_mono ho8 hz8) hown7 (fun q h1 h2 => hne q h2 h1)).kept (set_grown u8 (w.heap.size + 1 + 1) 0 (.slice A8 n d8)) (by omega)).kept (set_grown _ (w.heap.size + 1 + 1) 1 (.slice A7 (k + 1 + 0) d7)) (by omega))
          have HB2 := Lib.hid ((hX.1.setCell (p := ⟨w.heap.size + 1 + 1, 0, none⟩) (show w.heap.size ≤ w.heap.size + 1 + 1 by omega) (.slice A8 n d8)).setCell (p := ⟨w.heap.size + 1 + 1, 1, none⟩) (show w.heap.size ≤ w.heap.size + 1 + 1 by omega) (.slice A7 (k + 1 + 0) d7))
          clear hown7 ho8 hX hHeld hr r0 r1
          go_wp2_with fail
          exact bodyPost_ret (v := .agg #[.slice A8 n d8, .slice A7 (k + 1 + 0) d7]) (by simp [results, Try.results101, go_sem, f0, f1]) rfl ⟨⟨_, _, rfl, rest_rows2_end HL.out hb.1 hk (HT.out.mono (by omega)), HSO8.out, HSO7.out⟩, HB2.out⟩
        · subst hck
          refine wp_region_held_drew (S := (fun w' => Below w.heap.size w w' ∧ w'.cell? ⟨w.heap.size, 0, none⟩ = some (.slice O1 n c) ∧ w'.cell? ⟨w.heap.size, 1, none⟩ = some (.slice (some a) k k) ∧ w.heap.size + 3 ≤ w'.heap.size ∧ ∃ x y, w'.heap[w.heap.size + 1 + 1]? = some (.cells #[x, y] 26 (0, 0)))) (by kernel_rfl) ?hSr92 (fun hHeld => ?restr92)
          case hSr92 => exact ⟨hbD6.drew, q0, q1, hs6, _, _, kr⟩
          refine wpAnyH_take (i := 0) (oi := ?oiw93) (v := ?vw93) ?hiw93 (by kernel_rfl) (by kernel_rfl) (by kernel_rfl) ?hQw93 (Or.inl ⟨?hww93, ?hyw93⟩) (by assumption) ?restw93
          case hiw93 => simp only [List.getElem?_toArray, List.getElem?_cons_succ, List.getElem?_cons_zero]; exact rfl
          case hQw93 => exact fun _ _ _ h => h
          case hww93 => rfl
          case hyw93 => ((intro w hSw; (try dsimp only at hSw); go_simp) <;> with_reducible rfl)
          try simp only [Act.put, List.setIfInBounds_toArray, List.set_cons_zero, List.set_cons_succ]
          refine wpAnyH_take (i := 1) (oi := ?oiw94) (v := ?vw94) ?hiw94 (by kernel_rfl) (by kernel_rfl) (by kernel_rfl) ?hQw94 (Or.inl ⟨?hww94, ?hyw94⟩) (by assumption) ?restw94
          case hiw94 => simp only [List.getElem?_toArray, List.getElem?_cons_succ, List.getElem?_cons_zero]; exact rfl
          case hQw94 => exact fun _ _ _ h => h
          case hww94 => rfl
          case hyw94 => ((intro w hSw; (try dsimp only at hSw); go_simp) <;> with_reducible rfl)
          try simp only [Act.put, List.setIfInBounds_toArray, List.set_cons_zero, List.set_cons_succ]
          refine wpAnyH_take (i := 2) (oi := ?oiw95) (v := ?vw95) ?hiw95 (by kernel_rfl) (by kernel_rfl) (by kernel_rfl) ?hQw95 (Or.inl ⟨?hww95, ?hyw95⟩) (by assumption) ?restw95
          case hiw95 => simp only [List.getElem?_toArray, List.getElem?_cons_succ, List.getElem?_cons_zero]; exact rfl
          case hQw95 => exact fun _ _ _ h => h
          case hww95 => rfl
          case hyw95 => ((intro w hSw; (try dsimp only at hSw); go_simp) <;> with_reducible rfl)
          try simp only [Act.put, List.setIfInBounds_toArray, List.set_cons_zero, List.set_cons_succ]
          refine wpAnyH_take (i := 3) (oi := ?oiw96) (v := ?vw96) ?hiw96 (by kernel_rfl) (by kernel_rfl) (by kernel_rfl) ?hQw96 (Or.inl ⟨?hww96, ?hyw96⟩) (by assumption) ?restw96
          case hiw96 => simp only [List.getElem?_toArray, List.getElem?_cons_succ, List.getElem?_cons_zero]; exact rfl
          case hQw96 => exact fun _ _ _ h => h
          case hww96 => rfl
          case hyw96 => ((intro w hSw; (try dsimp only at hSw); go_simp) <;> with_reducible rfl)
          try simp only [Act.put, List.setIfInBounds_toArray, List.set_cons_zero, List.set_cons_succ]
          refine wpAnyH_take (i := 4) (oi := ?oiw97) (v := ?vw97) ?hiw97 (by kernel_rfl) (by kernel_rfl) (by kernel_rfl) ?hQw97 (Or.inl ⟨?hww97, ?hyw97⟩) (by assumption) ?restw97
          case hiw97 => simp only [List.getElem?_toArray, List.getElem?_cons_succ, List.getElem?_cons_zero]; exact rfl
          case hQw97 => exact fun _ _ _ h => h
          case hww97 => rfl
          case hyw97 => ((intro w hSw; (try dsimp only at hSw); go_simp) <;> with_reducible rfl)
          try simp only [Act.put, List.setIfInBounds_toArray, List.set_cons_zero, List.set_cons_succ]
          refine wpAnyH_take (i := 5) (oi := ?oiw98) (v := ?vw98) ?hiw98 (by kernel_rfl) (by kernel_rfl) (by kernel_rfl) ?hQw98 (Or.inl ⟨?hww98, ?hyw98⟩) (by assumption) ?restw98
          case hiw98 => simp only [List.getElem?_toArray, List.getElem?_cons_succ, List.getElem?_cons_zero]; exact rfl
          case hQw98 => exact fun _ _ _ h => h
          case hww98 => rfl
          case hyw98 => ((intro w hSw; (try dsimp only at hSw); go_simp) <;> with_reducible rfl)
          try simp only [Act.put, List.setIfInBounds_toArray, List.set_cons_zero, List.set_cons_succ]
          refine wpAnyH_ready (rs := [6]) (by kernel_rfl) (by simp) ?_
          refine AllReadyH.cons (o := ?ow99) ?how99 (fun K hK => ?stepw99) ?morew99
          case how99 => simp only [List.getElem?_toArray, List.getElem?_cons_succ, List.getElem?_cons_zero]; exact rfl
          case morew99 => exact AllReadyH.nil
          have hsz7 := hHeld.2.2.2.1
          (refine step_appX _ rfl _ _ rfl (w.heap.size + 3) (.slice A6 (k + 1) d6) rfl (k + 1) ((zb.take (k * 4)) ++ [oi, oa, op, oq]) (own_below hown6 (Below.refl _ w6).drew) _ 0 _ (fun e => by cases e) [] rfl w.heap.size (Lst.nil _ w.heap.size 4 _) (by omega) (by omega) hsz7 ?_; intro r7 u7 hown7 hgrow7 hat7)
          have hlt7 := hown6.lt
          refine hK.out _ _ ?hSw99 (fun hHeld => ?restw99)
          case hSw99 => exact rsS_grown hHeld hgrow7 (fun q hq => (hlt7 q hq).1)
          clear hK K
          try simp only [Act.put, List.setIfInBounds_toArray, List.set_cons_zero, List.set_cons_succ]
          have HSO7 := Lib.hid (some_at hat7 HSO6.out)
          clear hat7
          obtain ⟨A7, d7, rfl, _, _⟩ := own_slice hown7
          refine wpAnyH_ready (rs := [7]) (by kernel_rfl) (by simp) ?_
          refine AllReadyH.cons (o := ?ow100) ?how100 (fun K hK => ?stepw100) ?morew100
          case how100 => simp only [List.getElem?_toArray, List.getElem?_cons_succ, List.getElem?_cons_zero]; exact rfl
          case morew100 => exact AllReadyH.nil
          go_simp
          go_at_call 88
          refine (spec_l2With2 _ _ _ _ _ _ za zb A7 _ d7 u7 ((ha.below hHeld.1).more hHeld.1.size) ((hb.below hHeld.1).more hHeld.1.size) (by omega) (by omega) hO1 hO2).mono ?_
          rintro e u8 ⟨⟨r8, rfl, ho8, hso8⟩, hb8⟩
          have hlt7' := hown7.lt
          refine hK.out _ _ ?hSw100 (fun hHeld => ?restw100)
          case hSw100 => exact rsS_below hHeld hb8
          clear hK K
          try simp only [Act.put, List.setIfInBounds_toArray, List.set_cons_zero, List.set_cons_succ]
          have HSO8 := Lib.hid hso8
          clear hso8
          have hown7 := own_below hown7 hb8
          obtain ⟨A8, d8, rfl, _, _⟩ := own_slice ho8
          have hX := hHeld
          obtain ⟨x, y, hr⟩ := hX.2.2.2.2
          have r0 := cell_of_row u8 (w.heap.size + 1 + 1) 0 _ _ (0, 0) hr
          have r1 := cell_of_row u8 (w.heap.size + 1 + 1) 1 _ _ (0, 0) hr
          have z0 := frozen_of_row u8 (w.heap.size + 1 + 1) 0 _ _ hr
          have z1 := frozen_of_row u8 (w.heap.size + 1 + 1) 1 _ _ hr
          simp at r0 r1
          have E0 := Lib.hid (heap_set1 (u := (.slice A7 (k + 1 + 0) d7)) (heap_set0 (u := (.slice A8 n d8)) hr))
          refine wpAnyH_ready (rs := [8]) (by kernel_rfl) (by simp) ?_
          refine AllReadyH.cons (o := ?ow101) ?how101 (fun K hK => ?stepw101) ?morew101
          case how101 => simp only [List.getElem?_toArray, List.getElem?_cons_succ, List.getElem?_cons_zero]; exact rfl
          case morew101 => exact AllReadyH.nil
          go_simp
          refine hK.out _ _ ?hSw101 (fun hHeld => ?restw101)
          case hSw101 => exact rsS_set hX _ _
          clear hK K
          try simp only [Act.put, List.setIfInBounds_toArray, List.set_cons_zero, List.set_cons_succ]
          refine wpAnyH_done (by kernel_rfl) ?_ _
          have f0 := cell_of_row _ (w.heap.size + 1 + 1) 0 _ _ (0, 0) E0.out
          have f1 := cell_of_row _ (w.heap.size + 1 + 1) 1 _ _ (0, 0) E0.out
          simp at f0 f1
          have hz8 : w.heap.size + 3 ≤ u7.heap.size := Nat.le_trans hsz7 hgrow7.size
          have hne : ∀ q, (Value.slice A7 (k + 1 + 0) d7).ownBlock = some q → (Value.slice A8 n d8).ownBlock ≠ some q := fun q h1 h2 => by have a := (hlt7' q h1).2; have b := (ho8.lt q h2).1; omega
          have HT := Lib.hid (((TwoRows.mk (own_mono ho8 hz8) hown7 (fun q h1 h2 => hne q h2 h1)).kept (set_grown u8 (w.heap.size + 1 + 1) 0 (.slice A8 n d8)) (by omega)).kept (set_grown _ (w.heap.size + 1 + 1) 1 (.slice A7 (k + 1 + 0) d7)) (by omega))
          have HB2 := Lib.hid ((hX.1.setCell (p := ⟨w.heap.size + 1 + 1, 0, none⟩) (show w.heap.size ≤ w.heap.size + 1 + 1 by omega) (.slice A8 n d8)).setCell (p := ⟨w.heap.size + 1 + 1, 1, none⟩) (show w.heap.size ≤ w.heap.size + 1 + 1 by omega) (.slice A7 (k + 1 + 0) d7))
          clear hown7 ho8 hX hHeld hr r0 r1
          go_wp2_with fail
          exact bodyPost_ret (v := .agg #[.slice A8 n d8, .slice A7 (k + 1 + 0) d7]) (by simp [results, Try.results101, go_sem, f0, f1]) rfl ⟨⟨_, _, rfl, rest_rows2_end HL.out hb.1 hk (HT.out.mono (by omega)), HSO8.out, HSO7.out⟩, HB2.out⟩
set_option linter.unusedSimpArgs false in
set_option linter.unusedVariables false in
set_option maxHeartbeats 3200000 in
set_option maxRecDepth 100000 in
theorem spec_RestedO (O1 : Option Addr) (n c : Nat) (O2 : Option Addr) (m d : Nat) (za zb : List Int) (side oi oa op oq : Int) (w : World) (ha : Lst w w.heap.size 4 O1 n za) (hb : Lst w w.heap.size 4 O2 m zb) (hn : n ≤ 1048576) (hm : m ≤ 1048576) (hO1 : O1 = none → n = 0 ∧ c = 0) (hO2 : O2 = none → m = 0 ∧ d = 0) (hnc : n ≤ c) (hmd : m ≤ d) :
    Calls Try.prog 63 #[.agg #[.slice O1 n c, .slice O2 m d], .int .i64 side, .agg #[.int .i64 oi, .int .i64 oa, .int .i64 op, .int .i64 oq]] w fun e w' => (∃ v1 v2, e = .returned (.tuple #[.agg #[v1, v2], .bool (restOk side oi oa op oq za n zb m)]) ∧ TwoRows w' w.heap.size v1 (onN (restOk side oi oa op oq za n zb m) (restN1 side n)) (onZ (restOk side oi oa op oq za n zb m) (rest1 side op za n [oi, oa, op, oq])) v2 (onN (restOk side oi oa op oq za n zb m) (restN2 side m)) (onZ (restOk side oi oa op oq za n zb m) (rest2 side op zb m [oi, oa, op, oq]))) ∧ Below w.heap.size w w' := by
  obtain ⟨kb0, ko, kr⟩ := three_blocks w (.cells #[.slice O1 n c, .slice O2 m d] 26) (.cells #[.int .i64 oi, .int .i64 oa, .int .i64 op, .int .i64 oq] 28) (.cells #[.slice none 0 0, .slice none 0 0] 26)
  have hb0 : Below w.heap.size w (((w.alloc (.cells #[.slice O1 n c, .slice O2 m d] 26)).alloc (.cells #[.int .i64 oi, .int .i64 oa, .int .i64 op, .int .i64 oq] 28)).alloc (.cells #[.slice none 0 0, .slice none 0 0] 26)) := (((Below.refl _ _).alloc (Nat.le_refl _) _).alloc (by simp) _).alloc (by simp; omega) _
  have hs0 : (((w.alloc (.cells #[.slice O1 n c, .slice O2 m d] 26)).alloc (.cells #[.int .i64 oi, .int .i64 oa, .int .i64 op, .int .i64 oq] 28)).alloc (.cells #[.slice none 0 0, .slice none 0 0] 26)).heap.size = w.heap.size + 3 := by simp
  have x0 := cell_of_row _ w.heap.size 0 _ _ (0, 0) kb0
  have x1 := cell_of_row _ w.heap.size 1 _ _ (0, 0) kb0
  simp at x0 x1
  go_enter Try.func63, Try.ntmps63
  go_wp2_with fail
  generalize (((w.alloc (.cells #[.slice O1 n c, .slice O2 m d] 26)).alloc (.cells #[.int .i64 oi, .int .i64 oa, .int .i64 op, .int .i64 oq] 28)).alloc (.cells #[.slice none 0 0, .slice none 0 0] 26)) = w0 at *
  refine (spec_BookOkO O1 n c O2 m d za zb w0 ((ha.below hb0).more hb0.size) ((hb.below hb0).more hb0.size) hn hm hO1 hO2).mono ?_
  generalize hbk : bookB za n zb m = bk
  rintro e w1 ⟨rfl, hb1⟩
  have HBK := Lib.hid hbk
  have kb0 := (hb1.block w.heap.size (by omega)).trans kb0
  have ko := (hb1.block (w.heap.size + 1) (by omega)).trans ko
  have kr := (hb1.block (w.heap.size + 1 + 1) (by omega)).trans kr
  have hs1 : w.heap.size + 3 ≤ w1.heap.size := by have := hb1.size; omega
  have hb1 := hb0.trans (hb1.mono hb0.size)
  clear hb0 hs0 hbk x0 x1
  cases bk
  · have HNO := Lib.hid (show restOk side oi oa op oq za n zb m = false from by unfold restOk; rw [HBK.out]; rfl)
    have s0 := cell_of_row w1 (w.heap.size + 1 + 1) 0 _ _ (0, 0) kr
    have s1 := cell_of_row w1 (w.heap.size + 1 + 1) 1 _ _ (0, 0) kr
    have z0 := frozen_of_row w1 (w.heap.size + 1 + 1) 0 _ _ kr
    have z1 := frozen_of_row w1 (w.heap.size + 1 + 1) 1 _ _ kr
    simp at s0 s1
    have E0 := Lib.hid (cell_of_row _ (w.heap.size + 1 + 1) 0 _ _ (0, 0) (heap_set1 (u := .slice none 0 0) (heap_set0 (u := .slice none 0 0) kr)))
    have E1 := Lib.hid (cell_of_row _ (w.heap.size + 1 + 1) 1 _ _ (0, 0) (heap_set1 (u := .slice none 0 0) (heap_set0 (u := .slice none 0 0) kr)))
    go_wp2_with fail
    have e0 := E0.out
    have e1 := E1.out
    simp at e0 e1
    refine bodyPost_ret (v := .tuple #[.agg #[.slice none 0 0, .slice none 0 0], .bool false]) (by simp [results, Try.results63, go_sem, e0, e1]) rfl ⟨⟨.slice none 0 0, .slice none 0 0, by rw [HNO.out], by rw [HNO.out]; exact TwoRows.nil _ _⟩, ?_⟩
    exact ((hb1.setCell (p := ⟨w.heap.size + 1 + 1, 0, none⟩) (show w.heap.size ≤ w.heap.size + 1 + 1 by omega) _).setCell (p := ⟨w.heap.size + 1 + 1, 1, none⟩) (show w.heap.size ≤ w.heap.size + 1 + 1 by omega) _)
  go_wp2_with fail
  refine (spec_isSide side w1).mono ?_
  rintro e w2 ⟨rfl, rfl⟩
  rcases Bool.eq_false_or_eq_true (sideOkB side) with hsd | hsd
  rotate_left
  · have HNO := Lib.hid (show restOk side oi oa op oq za n zb m = false from by unfold restOk; rw [HBK.out, hsd]; rfl)
    rw [hsd]
    clear hsd
    have s0 := cell_of_row w1 (w.heap.size + 1 + 1) 0 _ _ (0, 0) kr
    have s1 := cell_of_row w1 (w.heap.size + 1 + 1) 1 _ _ (0, 0) kr
    have z0 := frozen_of_row w1 (w.heap.size + 1 + 1) 0 _ _ kr
    have z1 := frozen_of_row w1 (w.heap.size + 1 + 1) 1 _ _ kr
    simp at s0 s1
    have E0 := Lib.hid (cell_of_row _ (w.heap.size + 1 + 1) 0 _ _ (0, 0) (heap_set1 (u := .slice none 0 0) (heap_set0 (u := .slice none 0 0) kr)))
    have E1 := Lib.hid (cell_of_row _ (w.heap.size + 1 + 1) 1 _ _ (0, 0) (heap_set1 (u := .slice none 0 0) (heap_set0 (u := .slice none 0 0) kr)))
    go_wp2_with fail
    have e0 := E0.out
    have e1 := E1.out
    simp at e0 e1
    refine bodyPost_ret (v := .tuple #[.agg #[.slice none 0 0, .slice none 0 0], .bool false]) (by simp [results, Try.results63, go_sem, e0, e1]) rfl ⟨⟨.slice none 0 0, .slice none 0 0, by rw [HNO.out], by rw [HNO.out]; exact TwoRows.nil _ _⟩, ?_⟩
    exact ((hb1.setCell (p := ⟨w.heap.size + 1 + 1, 0, none⟩) (show w.heap.size ≤ w.heap.size + 1 + 1 by omega) _).setCell (p := ⟨w.heap.size + 1 + 1, 1, none⟩) (show w.heap.size ≤ w.heap.size + 1 + 1 by omega) _)
  have HSD := Lib.hid hsd
  rw [hsd]
  clear hsd
  have o0 := cell_of_row w1 (w.heap.size + 1) 0 _ _ (0, 0) ko
  have o1 := cell_of_row w1 (w.heap.size + 1) 1 _ _ (0, 0) ko
  have o2 := cell_of_row w1 (w.heap.size + 1) 2 _ _ (0, 0) ko
  have o3 := cell_of_row w1 (w.heap.size + 1) 3 _ _ (0, 0) ko
  simp at o0 o1 o2 o3
  go_wp2_with fail
  refine (spec_l2Order oi oa op oq w1).mono ?_
  rintro e w2 ⟨rfl, hb2⟩
  have kb0 := (hb2.block w.heap.size (by omega)).trans kb0
  have ko := (hb2.block (w.heap.size + 1) (by omega)).trans ko
  have kr := (hb2.block (w.heap.size + 1 + 1) (by omega)).trans kr
  have hs2 : w.heap.size + 3 ≤ w2.heap.size := by have := hb2.size; omega
  have hb2 := hb1.trans (hb2.mono hb1.size)
  clear hb1 o0 o1 o2 o3
  rcases Bool.eq_false_or_eq_true (ordI oi oa op oq) with hod | hod
  rotate_left
  · have HNO := Lib.hid (show restOk side oi oa op oq za n zb m = false from by unfold restOk; rw [HBK.out, HSD.out, hod]; rfl)
    rw [hod]
    clear hod
    have s0 := cell_of_row w2 (w.heap.size + 1 + 1) 0 _ _ (0, 0) kr
    have s1 := cell_of_row w2 (w.heap.size + 1 + 1) 1 _ _ (0, 0) kr
    have z0 := frozen_of_row w2 (w.heap.size + 1 + 1) 0 _ _ kr
    have z1 := frozen_of_row w2 (w.heap.size + 1 + 1) 1 _ _ kr
    simp at s0 s1
    have E0 := Lib.hid (cell_of_row _ (w.heap.size + 1 + 1) 0 _ _ (0, 0) (heap_set1 (u := .slice none 0 0) (heap_set0 (u := .slice none 0 0) kr)))
    have E1 := Lib.hid (cell_of_row _ (w.heap.size + 1 + 1) 1 _ _ (0, 0) (heap_set1 (u := .slice none 0 0) (heap_set0 (u := .slice none 0 0) kr)))
    go_wp2_with fail
    have e0 := E0.out
    have e1 := E1.out
    simp at e0 e1
    refine bodyPost_ret (v := .tuple #[.agg #[.slice none 0 0, .slice none 0 0], .bool false]) (by simp [results, Try.results63, go_sem, e0, e1]) rfl ⟨⟨.slice none 0 0, .slice none 0 0, by rw [HNO.out], by rw [HNO.out]; exact TwoRows.nil _ _⟩, ?_⟩
    exact ((hb2.setCell (p := ⟨w.heap.size + 1 + 1, 0, none⟩) (show w.heap.size ≤ w.heap.size + 1 + 1 by omega) _).setCell (p := ⟨w.heap.size + 1 + 1, 1, none⟩) (show w.heap.size ≤ w.heap.size + 1 + 1 by omega) _)
  have HOD := Lib.hid hod
  rw [hod]
  clear hod
  rcases side_cases side with ⟨rfl, hok⟩ | ⟨rfl, hok⟩ | ⟨_, _, hno⟩
  · clear hok
    have x0 := cell_of_row w2 w.heap.size 0 _ _ (0, 0) kb0
    have x1 := cell_of_row w2 w.heap.size 1 _ _ (0, 0) kb0
    have o0 := cell_of_row w2 (w.heap.size + 1) 0 _ _ (0, 0) ko
    have o1 := cell_of_row w2 (w.heap.size + 1) 1 _ _ (0, 0) ko
    have o2 := cell_of_row w2 (w.heap.size + 1) 2 _ _ (0, 0) ko
    have o3 := cell_of_row w2 (w.heap.size + 1) 3 _ _ (0, 0) ko
    simp at x0 x1 o0 o1 o2 o3
    have HC := Lib.hid (show restOk 1 oi oa op oq za n zb m = bookB (rest1 1 op za n [oi, oa, op, oq]) (restN1 1 n) (rest2 1 op zb m [oi, oa, op, oq]) (restN2 1 m) from by unfold restOk; rw [HBK.out, HSD.out, HOD.out]; simp)
    obtain ⟨hn', hm'⟩ := book_small HBK.out
    have hN1 : restN1 1 n ≤ 1048576 := by unfold restN1; split <;> omega
    have hN2 : restN2 1 m ≤ 1048576 := by unfold restN2; split <;> omega
    clear hn' hm'
    go_wp2_with fail
    refine (spec_l2Rest1 O1 n c O2 m d za zb oi oa op oq w2 ((ha.below hb2).more hb2.size) ((hb.below hb2).more hb2.size) hn hm hO1 hO2 hnc hmd).mono ?_
    rintro e w6 ⟨⟨r1, r2, rfl, TG, hso1, hso2⟩, hb6⟩
    have hs6 : w.heap.size + 3 ≤ w6.heap.size := by have := hb6.size; omega
    have kr := (hb6.block (w.heap.size + 1 + 1) (by omega)).trans kr
    have hbD := hb2.trans (hb6.mono hb2.size)
    have TG := TG.mono (base' := w.heap.size + 3) hs2
    clear hb6 hb2 x0 x1 o0 o1 o2 o3 kb0 ko
    generalize hg1 : restN1 1 n = N1 at *
    generalize hg2 : restN2 1 m = N2 at *
    generalize hg3 : rest1 1 op za n [oi, oa, op, oq] = Z1 at *
    generalize hg4 : rest2 1 op zb m [oi, oa, op, oq] = Z2 at *
    have HG1 := Lib.hid hg1
    have HG2 := Lib.hid hg2
    have HG3 := Lib.hid hg3
    have HG4 := Lib.hid hg4
    clear hg1 hg2 hg3 hg4
    obtain ⟨A1, d1, A2, d2, rfl, rfl⟩ := TG.slices
    obtain ⟨A1, rfl⟩ := some_addr hso1
    obtain ⟨A2, rfl⟩ := some_addr hso2
    clear hso1 hso2
    have hbb : Below w6.heap.size w6 (w6.alloc (.cells #[.slice (some A1) N1 d1, .slice (some A2) N2 d2] 26)) := (Below.refl _ _).alloc (Nat.le_refl _) _
    have kb := heap_alloc_new w6 (.cells #[.slice (some A1) N1 d1, .slice (some A2) N2 d2] 26)
    have kr := (hbb.block (w.heap.size + 1 + 1) (by omega)).trans kr
    have TG := TG.below hbb
    have hbD := hbD.trans (hbb.mono hbD.size)
    have hsb := hbb.size
    have y0 := cell_of_row _ w6.heap.size 0 _ _ (0, 0) kb
    have y1 := cell_of_row _ w6.heap.size 1 _ _ (0, 0) kb
    simp at y0 y1
    clear hbb
    go_wp2_with fail
    generalize (w6.alloc (.cells #[.slice (some A1) N1 d1, .slice (some A2) N2 d2] 26)) = wb at *
    refine (spec_BookOk A1 N1 d1 A2 N2 d2 _ _ wb TG.bookIn.1 TG.bookIn.2 hN1 hN2).mono ?_
    rw [← HC.out]
    generalize hok : restOk 1 oi oa op oq za n zb m = ok at *
    rintro e w7 ⟨rfl, hb7⟩
    have TG := TG.below hb7
    have kb := (hb7.block w6.heap.size (heap_lt kb)).trans kb
    have kr := (hb7.block (w.heap.size + 1 + 1) (by omega)).trans kr
    have hbD := hbD.trans (hb7.mono hbD.size)
    have hs7 := hb7.size
    have HOK := Lib.hid hok
    clear hb7 y0 y1 hok HC
    cases ok
    · clear TG kb
      have s0 := cell_of_row w7 (w.heap.size + 1 + 1) 0 _ _ (0, 0) kr
      have s1 := cell_of_row w7 (w.heap.size + 1 + 1) 1 _ _ (0, 0) kr
      have z0 := frozen_of_row w7 (w.heap.size + 1 + 1) 0 _ _ kr
      have z1 := frozen_of_row w7 (w.heap.size + 1 + 1) 1 _ _ kr
      simp at s0 s1
      have E0 := Lib.hid (cell_of_row _ (w.heap.size + 1 + 1) 0 _ _ (0, 0) (heap_set1 (u := .slice none 0 0) (heap_set0 (u := .slice none 0 0) kr)))
      have E1 := Lib.hid (cell_of_row _ (w.heap.size + 1 + 1) 1 _ _ (0, 0) (heap_set1 (u := .slice none 0 0) (heap_set0 (u := .slice none 0 0) kr)))
      go_wp2_with fail
      have e0 := E0.out
      have e1 := E1.out
      simp at e0 e1
      refine bodyPost_ret (v := .tuple #[.agg #[.slice none 0 0, .slice none 0 0], .bool false]) (by simp [results, Try.results63, go_sem, e0, e1]) rfl ⟨⟨.slice none 0 0, .slice none 0 0, by rw [HOK.out], by rw [HOK.out]; exact TwoRows.nil _ _⟩, ?_⟩
      exact ((hbD.setCell (p := ⟨w.heap.size + 1 + 1, 0, none⟩) (show w.heap.size ≤ w.heap.size + 1 + 1 by omega) _).setCell (p := ⟨w.heap.size + 1 + 1, 1, none⟩) (show w.heap.size ≤ w.heap.size + 1 + 1 by omega) _)
    · have y0 := cell_of_row w7 w6.heap.size 0 _ _ (0, 0) kb
      have y1 := cell_of_row w7 w6.heap.size 1 _ _ (0, 0) kb
      simp at y0 y1
      have s0 := cell_of_row w7 (w.heap.size + 1 + 1) 0 _ _ (0, 0) kr
      have s1 := cell_of_row w7 (w.heap.size + 1 + 1) 1 _ _ (0, 0) kr
      have z0 := frozen_of_row w7 (w.heap.size + 1 + 1) 0 _ _ kr
      have z1 := frozen_of_row w7 (w.heap.size + 1 + 1) 1 _ _ kr
      simp at s0 s1
      have E0 := Lib.hid (cell_of_row _ (w.heap.size + 1 + 1) 0 _ _ (0, 0) (heap_set1 (u := .slice (some A2) N2 d2) (heap_set0 (u := .slice (some A1) N1 d1) kr)))
      have E1 := Lib.hid (cell_of_row _ (w.heap.size + 1 + 1) 1 _ _ (0, 0) (heap_set1 (u := .slice (some A2) N2 d2) (heap_set0 (u := .slice (some A1) N1 d1) kr)))
      have HTG := Lib.hid ((TG.kept (set_grown w7 (w.heap.size + 1 + 1) 0 (.slice (some A1) N1 d1)) (by omega)).kept (set_grown _ (w.heap.size + 1 + 1) 1 (.slice (some A2) N2 d2)) (by omega))
      clear TG kb
      go_wp2_with fail
      have e0 := E0.out
      have e1 := E1.out
      simp at e0 e1
      refine bodyPost_ret (v := .tuple #[.agg #[.slice (some A1) N1 d1, .slice (some A2) N2 d2], .bool true]) (by simp [results, Try.results63, go_sem, e0, e1]) rfl ⟨⟨_, _, by rw [HOK.out], by rw [HOK.out, onN_true, onN_true, onZ_true, onZ_true, HG1.out, HG2.out, HG3.out, HG4.out]; exact HTG.out.mono (by omega)⟩, ?_⟩
      exact ((hbD.setCell (p := ⟨w.heap.size + 1 + 1, 0, none⟩) (show w.heap.size ≤ w.heap.size + 1 + 1 by omega) _).setCell (p := ⟨w.heap.size + 1 + 1, 1, none⟩) (show w.heap.size ≤ w.heap.size + 1 + 1 by omega) _)
  · clear hok
    have x0 := cell_of_row w2 w.heap.size 0 _ _ (0, 0) kb0
    have x1 := cell_of_row w2 w.heap.size 1 _ _ (0, 0) kb0
    have o0 := cell_of_row w2 (w.heap.size + 1) 0 _ _ (0, 0) ko
    have o1 := cell_of_row w2 (w.heap.size + 1) 1 _ _ (0, 0) ko
    have o2 := cell_of_row w2 (w.heap.size + 1) 2 _ _ (0, 0) ko
    have o3 := cell_of_row w2 (w.heap.size + 1) 3 _ _ (0, 0) ko
    simp at x0 x1 o0 o1 o2 o3
    have HC := Lib.hid (show restOk 2 oi oa op oq za n zb m = bookB (rest1 2 op za n [oi, oa, op, oq]) (restN1 2 n) (rest2 2 op zb m [oi, oa, op, oq]) (restN2 2 m) from by unfold restOk; rw [HBK.out, HSD.out, HOD.out]; simp)
    obtain ⟨hn', hm'⟩ := book_small HBK.out
    have hN1 : restN1 2 n ≤ 1048576 := by unfold restN1; split <;> omega
    have hN2 : restN2 2 m ≤ 1048576 := by unfold restN2; split <;> omega
    clear hn' hm'
    go_wp2_with fail
    refine (spec_l2Rest2 O1 n c O2 m d za zb oi oa op oq w2 ((ha.below hb2).more hb2.size) ((hb.below hb2).more hb2.size) hn hm hO1 hO2 hnc hmd).mono ?_
    rintro e w6 ⟨⟨r1, r2, rfl, TG, hso1, hso2⟩, hb6⟩
    have hs6 : w.heap.size + 3 ≤ w6.heap.size := by have := hb6.size; omega
    have kr := (hb6.block (w.heap.size + 1 + 1) (by omega)).trans kr
    have hbD := hb2.trans (hb6.mono hb2.size)
    have TG := TG.mono (base' := w.heap.size + 3) hs2
    clear hb6 hb2 x0 x1 o0 o1 o2 o3 kb0 ko
    generalize hg1 : restN1 2 n = N1 at *
    generalize hg2 : restN2 2 m = N2 at *
    generalize hg3 : rest1 2 op za n [oi, oa, op, oq] = Z1 at *
    generalize hg4 : rest2 2 op zb m [oi, oa, op, oq] = Z2 at *
    have HG1 := Lib.hid hg1
    have HG2 := Lib.hid hg2
    have HG3 := Lib.hid hg3
    have HG4 := Lib.hid hg4
    clear hg1 hg2 hg3 hg4
    obtain ⟨A1, d1, A2, d2, rfl, rfl⟩ := TG.slices
    obtain ⟨A1, rfl⟩ := some_addr hso1
    obtain ⟨A2, rfl⟩ := some_addr hso2
    clear hso1 hso2
    have hbb : Below w6.heap.size w6 (w6.alloc (.cells #[.slice (some A1) N1 d1, .slice (some A2) N2 d2] 26)) := (Below.refl _ _).alloc (Nat.le_refl _) _
    have kb := heap_alloc_new w6 (.cells #[.slice (some A1) N1 d1, .slice (some A2) N2 d2] 26)
    have kr := (hbb.block (w.heap.size + 1 + 1) (by omega)).trans kr
    have TG := TG.below hbb
    have hbD := hbD.trans (hbb.mono hbD.size)
    have hsb := hbb.size
    have y0 := cell_of_row _ w6.heap.size 0 _ _ (0, 0) kb
    have y1 := cell_of_row _ w6.heap.size 1 _ _ (0, 0) kb
    simp at y0 y1
    clear hbb
    go_wp2_with fail
    generalize (w6.alloc (.cells #[.slice (some A1) N1 d1, .slice (some A2) N2 d2] 26)) = wb at *
    refine (spec_BookOk A1 N1 d1 A2 N2 d2 _ _ wb TG.bookIn.1 TG.bookIn.2 hN1 hN2).mono ?_
    rw [← HC.out]
    generalize hok : restOk 2 oi oa op oq za n zb m = ok at *
    rintro e w7 ⟨rfl, hb7⟩
    have TG := TG.below hb7
    have kb := (hb7.block w6.heap.size (heap_lt kb)).trans kb
    have kr := (hb7.block (w.heap.size + 1 + 1) (by omega)).trans kr
    have hbD := hbD.trans (hb7.mono hbD.size)
    have hs7 := hb7.size
    have HOK := Lib.hid hok
    clear hb7 y0 y1 hok HC
    cases ok
    · clear TG kb
      have s0 := cell_of_row w7 (w.heap.size + 1 + 1) 0 _ _ (0, 0) kr
      have s1 := cell_of_row w7 (w.heap.size + 1 + 1) 1 _ _ (0, 0) kr
      have z0 := frozen_of_row w7 (w.heap.size + 1 + 1) 0 _ _ kr
      have z1 := frozen_of_row w7 (w.heap.size + 1 + 1) 1 _ _ kr
      simp at s0 s1
      have E0 := Lib.hid (cell_of_row _ (w.heap.size + 1 + 1) 0 _ _ (0, 0) (heap_set1 (u := .slice none 0 0) (heap_set0 (u := .slice none 0 0) kr)))
      have E1 := Lib.hid (cell_of_row _ (w.heap.size + 1 + 1) 1 _ _ (0, 0) (heap_set1 (u := .slice none 0 0) (heap_set0 (u := .slice none 0 0) kr)))
      go_wp2_with fail
      have e0 := E0.out
      have e1 := E1.out
      simp at e0 e1
      refine bodyPost_ret (v := .tuple #[.agg #[.slice none 0 0, .slice none 0 0], .bool false]) (by simp [results, Try.results63, go_sem, e0, e1]) rfl ⟨⟨.slice none 0 0, .slice none 0 0, by rw [HOK.out], by rw [HOK.out]; exact TwoRows.nil _ _⟩, ?_⟩
      exact ((hbD.setCell (p := ⟨w.heap.size + 1 + 1, 0, none⟩) (show w.heap.size ≤ w.heap.size + 1 + 1 by omega) _).setCell (p := ⟨w.heap.size + 1 + 1, 1, none⟩) (show w.heap.size ≤ w.heap.size + 1 + 1 by omega) _)
    · have y0 := cell_of_row w7 w6.heap.size 0 _ _ (0, 0) kb
      have y1 := cell_of_row w7 w6.heap.size 1 _ _ (0, 0) kb
      simp at y0 y1
      have s0 := cell_of_row w7 (w.heap.size + 1 + 1) 0 _ _ (0, 0) kr
      have s1 := cell_of_row w7 (w.heap.size + 1 + 1) 1 _ _ (0, 0) kr
      have z0 := frozen_of_row w7 (w.heap.size + 1 + 1) 0 _ _ kr
      have z1 := frozen_of_row w7 (w.heap.size + 1 + 1) 1 _ _ kr
      simp at s0 s1
      have E0 := Lib.hid (cell_of_row _ (w.heap.size + 1 + 1) 0 _ _ (0, 0) (heap_set1 (u := .slice (some A2) N2 d2) (heap_set0 (u := .slice (some A1) N1 d1) kr)))
      have E1 := Lib.hid (cell_of_row _ (w.heap.size + 1 + 1) 1 _ _ (0, 0) (heap_set1 (u := .slice (some A2) N2 d2) (heap_set0 (u := .slice (some A1) N1 d1) kr)))
      have HTG := Lib.hid ((TG.kept (set_grown w7 (w.heap.size + 1 + 1) 0 (.slice (some A1) N1 d1)) (by omega)).kept (set_grown _ (w.heap.size + 1 + 1) 1 (.slice (some A2) N2 d2)) (by omega))
      clear TG kb
      go_wp2_with fail
      have e0 := E0.out
      have e1 := E1.out
      simp at e0 e1
      refine bodyPost_ret (v := .tuple #[.agg #[.slice (some A1) N1 d1, .slice (some A2) N2 d2], .bool true]) (by simp [results, Try.results63, go_sem, e0, e1]) rfl ⟨⟨_, _, by rw [HOK.out], by rw [HOK.out, onN_true, onN_true, onZ_true, onZ_true, HG1.out, HG2.out, HG3.out, HG4.out]; exact HTG.out.mono (by omega)⟩, ?_⟩
      exact ((hbD.setCell (p := ⟨w.heap.size + 1 + 1, 0, none⟩) (show w.heap.size ≤ w.heap.size + 1 + 1 by omega) _).setCell (p := ⟨w.heap.size + 1 + 1, 1, none⟩) (show w.heap.size ≤ w.heap.size + 1 + 1 by omega) _)
  · exact absurd HSD.out (by rw [hno]; decide)
theorem spec_Rested (a1 : Addr) (n c : Nat) (a2 : Addr) (m d : Nat) (za zb : List Int) (side oi oa op oq : Int) (w : World) (ha : Lst w w.heap.size 4 (some a1) n za) (hb : Lst w w.heap.size 4 (some a2) m zb) (hn : n ≤ 1048576) (hm : m ≤ 1048576) (hnc : n ≤ c) (hmd : m ≤ d) :
    Calls Try.prog 63 #[.agg #[.slice (some a1) n c, .slice (some a2) m d], .int .i64 side, .agg #[.int .i64 oi, .int .i64 oa, .int .i64 op, .int .i64 oq]] w fun e w' => (∃ v1 v2, e = .returned (.tuple #[.agg #[v1, v2], .bool (restOk side oi oa op oq za n zb m)]) ∧ TwoRows w' w.heap.size v1 (onN (restOk side oi oa op oq za n zb m) (restN1 side n)) (onZ (restOk side oi oa op oq za n zb m) (rest1 side op za n [oi, oa, op, oq])) v2 (onN (restOk side oi oa op oq za n zb m) (restN2 side m)) (onZ (restOk side oi oa op oq za n zb m) (rest2 side op zb m [oi, oa, op, oq]))) ∧ Below w.heap.size w w' :=
  spec_RestedO (some a1) n c (some a2) m d za zb side oi oa op oq w ha hb hn hm (fun e => by cases e) (fun e => by cases e) hnc hmd
end Go.Proofs.Ytempggikcpminaa
