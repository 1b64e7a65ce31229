/-
  Rows of elements of several cells: copied, cleared.
-/
import Derived.Test.YtfodkefaflpicaaOwn
import Derived.Test.YtfodkefaflpicaaList
import Derived.Shelf.Spec.SlicesInsertGrow
import Derived.Lib.LazyBuf
import Derived.Lib.SliceRun
namespace Go.Proofs.Ytfodkefaflpicaa
open Go.RowKit Go.Lib

theorem run_copy_cellsN {P : Program} (w : World) (dT sT ty elem : TypeId) (sz k : Nat) (b o dLen dCap : Nat) (a : Addr) (sLen sCap : Nat) (cs : List Value)
    (hu : P.underlying dT = some (.slice elem)) (hs : (P.info? elem).map (·.size) = some sz) (hk : Nat.min sLen dLen = k) (hn : cs.length = k * sz)
    (hsrc : ∀ j v, cs[j]? = some v → w.cell? (a.add j) = some v) (hc : ∀ j, j < cs.length → (w.cell? ⟨b, o + j, none⟩).isSome = true) (hf : ∀ j, j < cs.length → w.frozen? ⟨b, o + j, none⟩ = false) (h1 : ∀ v ∈ cs, v.oneCell' = true) :
    (Builtin.copy_ #[dT, sT] ty #[.slice (some ⟨b, o, none⟩) dLen dCap, .slice (some a) sLen sCap]).run P w = .ok (goInt k) (w.setCells b o cs) := by
  have hl := run_loadCells_list (P := P) w a cs hsrc
  have hst := run_storeCells_cells (P := P) b o cs 0 w (by simpa using hc) (by simpa using hf) h1
  cases hq : P.info? elem with
  | none => simp [hq] at hs
  | some i =>
    have hi : i.size = sz := by simpa [hq] using hs
    simp [Builtin.copy_, run_underlying hu, Builtin.lenOf, Builtin.firstCells, sizeOf, typeInfo, hq, hi, hk, ← hn, hl, hst]
theorem run_clear_cellsN {P : Program} (w : World) (t e ty : TypeId) (z : Value) (ht : P.underlying t = some (.slice e)) (hv : ∀ w, (zeroValue e).run P w = .ok z w) (b o n c : Nat) (hn : 0 < n)
    (h1 : ∀ u ∈ (Builtin.zeroCells z.cells n).toList, u.oneCell' = true)
    (hc : ∀ j, j < (Builtin.zeroCells z.cells n).toList.length → (w.cell? ⟨b, o + j, none⟩).isSome = true) (hf : ∀ j, j < (Builtin.zeroCells z.cells n).toList.length → w.frozen? ⟨b, o + j, none⟩ = false) :
    (Builtin.clear_ #[t] ty #[.slice (some ⟨b, o, none⟩) n c]).run P w = .ok (.tuple #[]) (w.setCells b o (Builtin.zeroCells z.cells n).toList) := by
  have hst := run_storeCells_cells (P := P) b o (Builtin.zeroCells z.cells n).toList 0 w (by simpa using hc) (by simpa using hf) h1
  simp only [Nat.add_zero] at hst
  obtain ⟨m, rfl⟩ : ∃ m, n = m + 1 := ⟨n - 1, by omega⟩
  simp [Builtin.clear_, run_underlying ht, hv, hst]
/-- a row is appended to, the source nil or not -/
theorem wpList_appN {P : Program} (w : World) {ops : Array Oper} {rest : List Oper} {o : Oper} {a : Act} {Q : Exit → Act → World → Prop} (hgd : o.guard = none) (s x : Operand) (t : TypeId)
    (ho : o.op = .call { callee := .builtin .append, args := #[s, x], argTypes := #[t, t] })
    (base : Nat) (e : TypeId) (i : TypeInfo) (z : Value) (size bytes : Nat) (ht : P.underlying t = some (.slice e)) (hi : P.info? e = some i) (hz : i.zero = some z)
    (hsize : i.size = size) (hby : i.bytes = bytes) (hzs : z.cells.size = size) (hsz : 0 < size)
    (v : Value) (n : Nat) (xs : List Value) (hs : a.eval s = v) (hown : w.ownsRow base e size v n xs)
    (A : Option Addr) (m c : Nat) (hA : A = none → m = 0 ∧ c = 0) (news : List Value) (hx : a.eval x = .slice A m c) (hl : news.length = m * size) (hnews : ∀ ad, A = some ad → ∀ j u, news[j]? = some u → w.cell? (ad.add j) = some u) (h1 : ∀ u ∈ news, u.oneCell' = true)
    (h63 : n + m ≤ maxLen) (hbytes : (n + m) * bytes ≤ 140737488355328) (hbase : base ≤ w.heap.size)
    (h : ∀ v' w', w'.ownsRow base e size v' (n + m) (xs ++ news) → w.grownBy w' v.ownBlock → wpList P ops Q rest (a.put o.dst v') w') :
    wpList P ops Q (o :: rest) a w := by
  cases A with
  | some ad => exact wpList_append_own w hgd s x t ho base e i z size bytes ht hi hz hsize hby hzs hsz v n xs hs hown ad m c news hx hl (hnews ad rfl) h1 h63 hbytes hbase fun v' w' h2 h3 _ => h v' w' h2 h3
  | none =>
    obtain ⟨rfl, rfl⟩ := hA rfl
    have hr := run_append_owned_none (P := P) (w := w) base t o.type e i size ht hi v n xs hown
    have e0 : news = [] := List.eq_nil_of_length_eq_zero (by rw [hl]; omega)
    subst e0
    refine wpList_plain hgd fun K hK => ?_
    unfold Oper.wp execOp
    simp only [ho, resolve, invoke, builtin, Sem.run_bind, Sem.run_pure, Result.andThen_ok, List.map_toArray, List.map_cons, List.map_nil, hs, hx, hr]
    exact hK _ _ (h v w (by simpa using hown) (World.grownBy.refl _ _))
/-- the cells of a slice of rows, as what is appended -/
theorem Lst.news {w : World} {B sz n : Nat} {A : Option Addr} {zs : List Int} (h : Lst w B sz A n zs) : ∀ ad, A = some ad → ∀ j u, (nums zs)[j]? = some u → w.cell? (ad.add j) = some u := by
  intro ad hA j u hj
  have hlt : j < zs.length := by rw [← nums_length]; exact (List.getElem?_eq_some_iff.1 hj).1
  rw [nums_get hlt] at hj
  injection hj with hj
  have hn : 0 < n := by
    rcases Nat.eq_zero_or_pos n with h0 | h0
    · have h1 := h.1
      rw [h0, Nat.zero_mul] at h1
      omega
    · exact h0
  obtain ⟨b, o, e, hb, hc⟩ := h.2 hn
  rw [hA] at e
  injection e with e
  rw [e, show (⟨b, o, none⟩ : Addr).add j = ⟨b, o + j, none⟩ from by unfold Addr.add; split <;> simp_all, hc j (by rw [← h.1]; exact hlt), hj]
/-- an append as one step of a region that draws, its run known by an equation -/
theorem step_app_run {P : Program} {ops : Array Oper} {o : Oper} {a : Act} {w : World} {K : Act → World → Prop} {Q : Exit → Act → World → Prop} {E : Prop}
    (hg : o.guard = none) (d x : Operand) (dT sT : TypeId) (hop : o.op = Op.call { callee := Callee.builtin Builtin.append, args := #[d, x], argTypes := #[dT, sT] })
    (v u : Value) (hd : a.eval d = v) (hx : a.eval x = u) {v' : Value} {w' : World} (hr : (Builtin.append_ #[dT, sT] o.type #[v, u]).run P w = .ok v' w') (hK : K (a.put o.dst v') w') :
    if Region.wanted o (yielded ops a.tmps) = true then Oper.wp P o a w K Q else E := by
  have hw : Region.wanted o (yielded ops a.tmps) = true := by simp [Region.wanted, hg]
  rw [if_pos hw]
  unfold Oper.wp
  simp [execOp, hop, resolve, invoke, builtin, hd, hx, hr, Result.andThen]
  exact hK
theorem nums_drop (zs : List Int) (k : Nat) : (nums zs).drop k = nums (zs.drop k) := by simp [nums]
theorem nums_take (zs : List Int) (k : Nat) : (nums zs).take k = nums (zs.take k) := by simp [nums]
theorem setN_grown (w : World) (g i : Nat) (u : Value) : w.grownBy (w.setCell ⟨g, i, none⟩ u) (some g) :=
  ⟨rfl, rfl, rfl, by simp [World.setCell], fun k _ hne => Below.heap_setCell w _ u k (by
    rintro rfl
    exact hne rfl)⟩
theorem setsN_grown (g : Nat) : ∀ (vs : List Value) (o : Nat) (w : World), w.grownBy (w.setCells g o vs) (some g)
  | [], _, _ => World.grownBy.refl _ _
  | v :: vs, o, w => World.grownBy.trans (setN_grown w g o v) (setsN_grown g vs (o + 1) _)
theorem row_of_nums {w : World} {X n c g : Nat} {T : TypeId} {sz : Nat} {zs : List Int} (hown : w.ownsRow X T sz (.slice (some ⟨g, 0, none⟩) n c) n (nums zs)) : X ≤ g ∧ n ≤ c ∧ c ≤ maxLen ∧ ∃ F, w.rowIs g T (c * sz) F ∧ ∀ q, q < n * sz → F q = .int .i64 (num zs q) := by
  have hl : zs.length = n * sz := by rw [← nums_length]; exact hown.1
  rcases hown.2 with ⟨h0, _⟩ | ⟨g', cap', cur, e', hX, hheap, hnc, hcm, hcs, _⟩
  · cases h0
  · injection e' with e1 _ e3
    injection e1 with e1
    injection e1 with e1
    subst e1 e3
    have hr : w.rowIs g T (c * sz) (fun q => cur[q]?.getD (.pointer none)) := ⟨cur, hheap, by omega, fun i hi => by simp [show i < cur.size by omega]⟩
    refine ⟨hX, hnc, hcm, _, hr, fun q hq => ?_⟩
    have h1 := hown.cells (g := g) rfl q _ (nums_get (by omega))
    rw [show (⟨g, 0, none⟩ : Addr).add q = ⟨g, q, none⟩ from by unfold Addr.add; split <;> simp_all] at h1
    have h2 := hr.cell (i := q) (Nat.lt_of_lt_of_le hq (Nat.mul_le_mul_right _ hnc))
    rw [h1] at h2
    injection h2 with h2
    exact h2.symm
theorem own_of_row {w : World} {X g N cap sz : Nat} {e : TypeId} {F : Nat → Value} {zs : List Int} (h : w.rowIs g e (cap * sz) F) (hX : X ≤ g) (hN : N ≤ cap) (hc : cap ≤ maxLen) (hl : zs.length = N * sz) (hx : ∀ q, q < N * sz → F q = .int .i64 (num zs q)) : w.ownsRow X e sz (.slice (some ⟨g, 0, none⟩) N cap) N (nums zs) := by
  obtain ⟨c, h1, h2, h3⟩ := h
  refine ⟨by rw [nums_length, hl], .inr ⟨g, cap, c, rfl, hX, h1, hN, hc, by omega, ?_⟩⟩
  have hle : N * sz ≤ cap * sz := Nat.mul_le_mul_right _ hN
  apply List.ext_getElem?
  intro q
  by_cases hq : q < N * sz
  · rw [List.getElem?_take, if_pos hq, nums_get (by omega), Array.getElem?_toList, h3 q (by omega), hx q hq]
  · rw [List.getElem?_take, if_neg hq, List.getElem?_eq_none (by rw [nums_length]; omega)]
end Go.Proofs.Ytfodkefaflpicaa
