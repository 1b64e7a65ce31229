/-
  RowN, AplP, AplQ.
-/
import Derived.Test.YtfodkefaflpicaaOwn
import Derived.Test.YtfodkefaflpicaaList
import Derived.Shelf.Spec.SlicesInsertGrow
import Derived.Lib.LazyBuf
import Derived.Lib.SliceRun
import Derived.Test.YtfodkefaflpicaaGDT
namespace Go.Proofs.Ytfodkefaflpicaa
open Go.RowKit Go.Lib

theorem run_copy_cellsN {P : Program} (w : World) (dT sT ty elem : TypeId) (sz k : Nat) (b o dLen dCap : Nat) (a : Addr) (sLen sCap : Nat) (cs : List Value)
    (hu : P.underlying dT = some (.slice elem)) (hs : (P.info? elem).map (·.size) = some sz) (hk : Nat.min sLen dLen = k) (hn : cs.length = k * sz)
    (hsrc : ∀ j v, cs[j]? = some v → w.cell? (a.add j) = some v) (hc : ∀ j, j < cs.length → (w.cell? ⟨b, o + j, none⟩).isSome = true) (hf : ∀ j, j < cs.length → w.frozen? ⟨b, o + j, none⟩ = false) (h1 : ∀ v ∈ cs, v.oneCell' = true) :
    (Builtin.copy_ #[dT, sT] ty #[.slice (some ⟨b, o, none⟩) dLen dCap, .slice (some a) sLen sCap]).run P w = .ok (goInt k) (w.setCells b o cs) := by
  have hl := run_loadCells_list (P := P) w a cs hsrc
  have hst := run_storeCells_cells (P := P) b o cs 0 w (by simpa using hc) (by simpa using hf) h1
  cases hq : P.info? elem with
  | none => simp [hq] at hs
  | some i =>
    have hi : i.size = sz := by simpa [hq] using hs
    simp [Builtin.copy_, run_underlying hu, Builtin.lenOf, Builtin.firstCells, sizeOf, typeInfo, hq, hi, hk, ← hn, hl, hst]
theorem run_clear_cellsN {P : Program} (w : World) (t e ty : TypeId) (z : Value) (ht : P.underlying t = some (.slice e)) (hv : ∀ w, (zeroValue e).run P w = .ok z w) (b o n c : Nat) (hn : 0 < n)
    (h1 : ∀ u ∈ (Builtin.zeroCells z.cells n).toList, u.oneCell' = true)
    (hc : ∀ j, j < (Builtin.zeroCells z.cells n).toList.length → (w.cell? ⟨b, o + j, none⟩).isSome = true) (hf : ∀ j, j < (Builtin.zeroCells z.cells n).toList.length → w.frozen? ⟨b, o + j, none⟩ = false) :
    (Builtin.clear_ #[t] ty #[.slice (some ⟨b, o, none⟩) n c]).run P w = .ok (.tuple #[]) (w.setCells b o (Builtin.zeroCells z.cells n).toList) := by
  have hst := run_storeCells_cells (P := P) b o (Builtin.zeroCells z.cells n).toList 0 w (by simpa using hc) (by simpa using hf) h1
  simp only [Nat.add_zero] at hst
  obtain ⟨m, rfl⟩ : ∃ m, n = m + 1 := ⟨n - 1, by omega⟩
  simp [Builtin.clear_, run_underlying ht, hv, hst]
/-- a row is appended to, the source nil or not -/
theorem wpList_appN {P : Program} (w : World) {ops : Array Oper} {rest : List Oper} {o : Oper} {a : Act} {Q : Exit → Act → World → Prop} (hgd : o.guard = none) (s x : Operand) (t : TypeId)
    (ho : o.op = .call { callee := .builtin .append, args := #[s, x], argTypes := #[t, t] })
    (base : Nat) (e : TypeId) (i : TypeInfo) (z : Value) (size bytes : Nat) (ht : P.underlying t = some (.slice e)) (hi : P.info? e = some i) (hz : i.zero = some z)
    (hsize : i.size = size) (hby : i.bytes = bytes) (hzs : z.cells.size = size) (hsz : 0 < size)
    (v : Value) (n : Nat) (xs : List Value) (hs : a.eval s = v) (hown : w.ownsRow base e size v n xs)
    (A : Option Addr) (m c : Nat) (hA : A = none → m = 0 ∧ c = 0) (news : List Value) (hx : a.eval x = .slice A m c) (hl : news.length = m * size) (hnews : ∀ ad, A = some ad → ∀ j u, news[j]? = some u → w.cell? (ad.add j) = some u) (h1 : ∀ u ∈ news, u.oneCell' = true)
    (h63 : n + m ≤ maxLen) (hbytes : (n + m) * bytes ≤ 140737488355328) (hbase : base ≤ w.heap.size)
    (h : ∀ v' w', w'.ownsRow base e size v' (n + m) (xs ++ news) → w.grownBy w' v.ownBlock → wpList P ops Q rest (a.put o.dst v') w') :
    wpList P ops Q (o :: rest) a w := by
  cases A with
  | some ad => exact wpList_append_own w hgd s x t ho base e i z size bytes ht hi hz hsize hby hzs hsz v n xs hs hown ad m c news hx hl (hnews ad rfl) h1 h63 hbytes hbase fun v' w' h2 h3 _ => h v' w' h2 h3
  | none =>
    obtain ⟨rfl, rfl⟩ := hA rfl
    have hr := run_append_owned_none (P := P) (w := w) base t o.type e i size ht hi v n xs hown
    have e0 : news = [] := List.eq_nil_of_length_eq_zero (by rw [hl]; omega)
    subst e0
    refine wpList_plain hgd fun K hK => ?_
    unfold Oper.wp execOp
    simp only [ho, resolve, invoke, builtin, Sem.run_bind, Sem.run_pure, Result.andThen_ok, List.map_toArray, List.map_cons, List.map_nil, hs, hx, hr]
    exact hK _ _ (h v w (by simpa using hown) (World.grownBy.refl _ _))
/-- the cells of a slice of rows, as what is appended -/
theorem Lst.newsN {w : World} {B sz n : Nat} {A : Option Addr} {zs : List Int} (h : Lst w B sz A n zs) : ∀ ad, A = some ad → ∀ j u, (nums zs)[j]? = some u → w.cell? (ad.add j) = some u := by
  intro ad hA j u hj
  have hlt : j < zs.length := by rw [← nums_length]; exact (List.getElem?_eq_some_iff.1 hj).1
  rw [nums_get hlt] at hj
  injection hj with hj
  have hn : 0 < n := by
    rcases Nat.eq_zero_or_pos n with h0 | h0
    · have h1 := h.1
      rw [h0, Nat.zero_mul] at h1
      omega
    · exact h0
  obtain ⟨b, o, e, hb, hc⟩ := h.2 hn
  rw [hA] at e
  injection e with e
  rw [e, show (⟨b, o, none⟩ : Addr).add j = ⟨b, o + j, none⟩ from by unfold Addr.add; split <;> simp_all, hc j (by rw [← h.1]; exact hlt), hj]
/-- an append as one step of a region that draws, its run known by an equation -/
theorem step_app_run {P : Program} {ops : Array Oper} {o : Oper} {a : Act} {w : World} {K : Act → World → Prop} {Q : Exit → Act → World → Prop} {E : Prop}
    (hg : o.guard = none) (d x : Operand) (dT sT : TypeId) (hop : o.op = Op.call { callee := Callee.builtin Builtin.append, args := #[d, x], argTypes := #[dT, sT] })
    (v u : Value) (hd : a.eval d = v) (hx : a.eval x = u) {v' : Value} {w' : World} (hr : (Builtin.append_ #[dT, sT] o.type #[v, u]).run P w = .ok v' w') (hK : K (a.put o.dst v') w') :
    if Region.wanted o (yielded ops a.tmps) = true then Oper.wp P o a w K Q else E := by
  have hw : Region.wanted o (yielded ops a.tmps) = true := by simp [Region.wanted, hg]
  rw [if_pos hw]
  unfold Oper.wp
  simp [execOp, hop, resolve, invoke, builtin, hd, hx, hr, Result.andThen]
  exact hK
theorem nums_drop (zs : List Int) (k : Nat) : (nums zs).drop k = nums (zs.drop k) := by simp [nums]
theorem nums_take (zs : List Int) (k : Nat) : (nums zs).take k = nums (zs.take k) := by simp [nums]
theorem setN_grown (w : World) (g i : Nat) (u : Value) : w.grownBy (w.setCell ⟨g, i, none⟩ u) (some g) :=
  ⟨rfl, rfl, rfl, by simp [World.setCell], fun k _ hne => Below.heap_setCell w _ u k (by
    rintro rfl
    exact hne rfl)⟩
theorem setsN_grown (g : Nat) : ∀ (vs : List Value) (o : Nat) (w : World), w.grownBy (w.setCells g o vs) (some g)
  | [], _, _ => World.grownBy.refl _ _
  | v :: vs, o, w => World.grownBy.trans (setN_grown w g o v) (setsN_grown g vs (o + 1) _)
theorem row_of_nums {w : World} {X n c g : Nat} {T : TypeId} {sz : Nat} {zs : List Int} (hown : w.ownsRow X T sz (.slice (some ⟨g, 0, none⟩) n c) n (nums zs)) : X ≤ g ∧ n ≤ c ∧ c ≤ maxLen ∧ ∃ F, w.rowIs g T (c * sz) F ∧ ∀ q, q < n * sz → F q = .int .i64 (num zs q) := by
  have hl : zs.length = n * sz := by rw [← nums_length]; exact hown.1
  rcases hown.2 with ⟨h0, _⟩ | ⟨g', cap', cur, e', hX, hheap, hnc, hcm, hcs, _⟩
  · cases h0
  · injection e' with e1 _ e3
    injection e1 with e1
    injection e1 with e1
    subst e1 e3
    have hr : w.rowIs g T (c * sz) (fun q => cur[q]?.getD (.pointer none)) := ⟨cur, hheap, by omega, fun i hi => by simp [show i < cur.size by omega]⟩
    refine ⟨hX, hnc, hcm, _, hr, fun q hq => ?_⟩
    have h1 := hown.cells (g := g) rfl q _ (nums_get (by omega))
    rw [show (⟨g, 0, none⟩ : Addr).add q = ⟨g, q, none⟩ from by unfold Addr.add; split <;> simp_all] at h1
    have h2 := hr.cell (i := q) (Nat.lt_of_lt_of_le hq (Nat.mul_le_mul_right _ hnc))
    rw [h1] at h2
    injection h2 with h2
    exact h2.symm
theorem own_of_rowN {w : World} {X g N cap sz : Nat} {e : TypeId} {F : Nat → Value} {zs : List Int} (h : w.rowIs g e (cap * sz) F) (hX : X ≤ g) (hN : N ≤ cap) (hc : cap ≤ maxLen) (hl : zs.length = N * sz) (hx : ∀ q, q < N * sz → F q = .int .i64 (num zs q)) : w.ownsRow X e sz (.slice (some ⟨g, 0, none⟩) N cap) N (nums zs) := by
  obtain ⟨c, h1, h2, h3⟩ := h
  refine ⟨by rw [nums_length, hl], .inr ⟨g, cap, c, rfl, hX, h1, hN, hc, by omega, ?_⟩⟩
  have hle : N * sz ≤ cap * sz := Nat.mul_le_mul_right _ hN
  apply List.ext_getElem?
  intro q
  by_cases hq : q < N * sz
  · rw [List.getElem?_take, if_pos hq, nums_get (by omega), Array.getElem?_toList, h3 q (by omega), hx q hq]
  · rw [List.getElem?_take, if_neg hq, List.getElem?_eq_none (by rw [nums_length]; omega)]
end Go.Proofs.Ytfodkefaflpicaa

namespace Go.Proofs.Ytfodkefaflpicaa
open Go.RowKit Wire

/-- the levels stand in order -/
def LvOrd (side : Int) (zs : List Int) (n : Nat) : Prop := ∀ i j, i < j → j < n → ahdB side (num zs (i * 3)) (num zs (j * 3)) = true
/-- whether the new level has been put behind the first levels -/
def putD (side : Int) (zs : List Int) (p m : Int) : Nat → Bool
  | 0 => m == 0
  | k + 1 => putD side zs p m k || !ahdB side (num zs (k * 3)) p
/-- the first levels, the new one among them -/
def putZ (side : Int) (zs : List Int) (p q m : Int) : Nat → List Int
  | 0 => []
  | k + 1 => (putZ side zs p q m k ++ if (!putD side zs p m k && !ahdB side (num zs (k * 3)) p) = true then [p, q, m] else []) ++ if num zs (k * 3) = p then [] else [num zs (k * 3), num zs (k * 3 + 1), num zs (k * 3 + 2)]
def putL (side : Int) (zs : List Int) (n : Nat) (p q m : Int) : List Int := if putD side zs p m n = true then putZ side zs p q m n else putZ side zs p q m n ++ [p, q, m]
theorem ahd_not {side a b : Int} (h : ahdB side a b = false) : a = b ∨ ahdB side b a = true := by
  unfold ahdB at *
  split at h <;> simp_all <;> omega
theorem ahd_yes {side a b : Int} (h : a = b ∨ ahdB side b a = true) : ahdB side a b = false := by
  rcases h with rfl | h
  · unfold ahdB; split <;> simp
  · unfold ahdB at *
    split at h <;> simp_all <;> omega
theorem take_row {zs : List Int} {k : Nat} (h : k * 3 + 3 ≤ zs.length) : zs.take ((k + 1) * 3) = zs.take (k * 3) ++ [num zs (k * 3), num zs (k * 3 + 1), num zs (k * 3 + 2)] := by
  apply List.ext_getElem?
  intro j
  rw [List.getElem?_append, List.length_take, Nat.min_eq_left (by omega), List.getElem?_take, List.getElem?_take]
  by_cases h1 : j < k * 3
  · rw [if_pos h1, if_pos (by omega), if_pos h1]
  · rw [if_neg h1]
    have hg : ∀ i, i < zs.length → zs[i]? = some (num zs i) := fun i hi => by simp [num, hi]
    rcases (show j = k * 3 ∨ j = k * 3 + 1 ∨ j = k * 3 + 2 ∨ k * 3 + 3 ≤ j by omega) with rfl | rfl | rfl | h2
    · rw [if_pos (by omega), hg _ (by omega), Nat.sub_self]; rfl
    · rw [if_pos (by omega), hg _ (by omega), show k * 3 + 1 - k * 3 = 1 by omega]; rfl
    · rw [if_pos (by omega), hg _ (by omega), show k * 3 + 2 - k * 3 = 2 by omega]; rfl
    · rw [if_neg (by omega), List.getElem?_eq_none (by simp; omega)]
/-- the place of a price among the levels -/
structure PutAt (side : Int) (zs : List Int) (n : Nat) (p : Int) (t : Nat) : Prop where
  le : t ≤ n
  lo : ∀ j, j < t → ahdB side (num zs (j * 3)) p = true
  hi : t < n → ahdB side (num zs (t * 3)) p = false
def putE (zs : List Int) (n : Nat) (p : Int) (t : Nat) : Nat := if t < n ∧ num zs (t * 3) = p then 1 else 0
theorem putD_at {side p : Int} {zs : List Int} {n t : Nat} (m : Int) (h : PutAt side zs n p t) : ∀ k, k ≤ n → putD side zs p m k = ((m == 0) || decide (t < k))
  | 0, _ => by simp [putD]
  | k + 1, hk => by
    rw [putD, putD_at m h k (by omega)]
    rcases Nat.lt_trichotomy k t with h1 | h1 | h1
    · rw [h.lo k h1, decide_eq_false (by omega), decide_eq_false (by omega)]
      simp
    · subst h1
      rw [h.hi (by omega), decide_eq_true (show k < k + 1 by omega)]
      simp
    · rw [decide_eq_true h1, decide_eq_true (show t < k + 1 by omega)]
      simp
theorem putAt_behind {side p : Int} {zs : List Int} {n t : Nat} (ho : LvOrd side zs n) (h : PutAt side zs n p t) {k : Nat} (h1 : t < k) (h2 : k < n) : ahdB side p (num zs (k * 3)) = true := by
  have h3 := ho t k h1 h2
  rcases ahd_not (h.hi (by omega)) with e | e
  · rw [← e]; exact h3
  · exact ahd_trans e h3
theorem putZ_lo {side p q m : Int} {zs : List Int} {n t : Nat} (hz : zs.length = n * 3) (h : PutAt side zs n p t) : ∀ k, k ≤ t → putZ side zs p q m k = zs.take (k * 3)
  | 0, _ => by simp [putZ]
  | k + 1, hk => by
    have hn := h.le
    have ha := h.lo k (by omega)
    rw [putZ, putZ_lo hz h k (by omega), ha, take_row (by omega), if_neg (ahd_ne ha)]
    simp
theorem putZ_hi {side p q m : Int} {zs : List Int} {n t : Nat} (hz : zs.length = n * 3) (ho : LvOrd side zs n) (h : PutAt side zs n p t) : ∀ k, t < k → k ≤ n → putZ side zs p q m k = zs.take (t * 3) ++ (if m = 0 then [] else [p, q, m]) ++ (zs.take (k * 3)).drop ((t + putE zs n p t) * 3)
  | 0, h0, _ => absurd h0 (Nat.not_lt_zero t)
  | k + 1, h0, hk => by
    rw [putZ, putD_at m h k (by omega)]
    rcases Nat.lt_or_ge t k with h1 | h1
    · have hb := putAt_behind ho h h1 (by omega)
      rw [putZ_hi hz ho h k h1 (by omega), decide_eq_true h1, if_neg (show ¬ num zs (k * 3) = p from fun e => ahd_ne hb e.symm), take_row (by omega), List.drop_append_of_le_length]
      · simp
      · rw [List.length_take, Nat.min_eq_left (by omega)]
        unfold putE
        split <;> omega
    · obtain rfl : t = k := by omega
      rw [putZ_lo hz h t (Nat.le_refl _), h.hi (by omega), decide_eq_false (by omega), take_row (by omega)]
      by_cases hp : num zs (t * 3) = p
      · have he : putE zs n p t = 1 := by unfold putE; rw [if_pos ⟨by omega, hp⟩]
        rw [if_pos hp, he, List.drop_eq_nil_of_le (by simp; omega)]
        by_cases hm : m = 0
        · simp [hm]
        · simp [hm]
      · have he : putE zs n p t = 0 := by unfold putE; rw [if_neg (fun e => hp e.2)]
        rw [if_neg hp, he, Nat.add_zero, List.drop_append_of_le_length (by rw [List.length_take, Nat.min_eq_left (by omega)]; omega), List.drop_eq_nil_of_le (by rw [List.length_take]; omega)]
        by_cases hm : m = 0
        · simp [hm]
        · simp [hm]
theorem put_at {side p q m : Int} {zs : List Int} {n t : Nat} (hz : zs.length = n * 3) (ho : LvOrd side zs n) (h : PutAt side zs n p t) : putL side zs n p q m = zs.take (t * 3) ++ (if m = 0 then [] else [p, q, m]) ++ zs.drop ((t + putE zs n p t) * 3) := by
  unfold putL
  rw [putD_at m h n (Nat.le_refl _)]
  rcases Nat.lt_or_ge t n with h1 | h1
  · rw [decide_eq_true h1, if_pos (by simp), putZ_hi hz ho h n h1 (Nat.le_refl _), ← hz, List.take_length]
  · obtain rfl : t = n := by have := h.le; omega
    rw [putZ_lo hz h t (Nat.le_refl _), decide_eq_false (by omega)]
    have : putE zs t p t = 0 := by unfold putE; rw [if_neg (by omega)]
    rw [this, Nat.add_zero, List.drop_eq_nil_of_le (by omega)]
    by_cases hm : m = 0
    · simp [hm]
    · simp [hm]
theorem putAt_ex (side : Int) (zs : List Int) (p : Int) : ∀ n, ∃ t, PutAt side zs n p t
  | 0 => ⟨0, Nat.le_refl _, fun j h => by omega, fun h => by omega⟩
  | n + 1 => by
    obtain ⟨t, h⟩ := putAt_ex side zs p n
    rcases Nat.lt_or_ge t n with h1 | h1
    · exact ⟨t, by omega, h.lo, fun _ => h.hi h1⟩
    · obtain rfl : t = n := by have := h.le; omega
      rcases Bool.eq_false_or_eq_true (ahdB side (num zs (t * 3)) p) with h2 | h2
      · exact ⟨t + 1, Nat.le_refl _, fun j hj => by
          rcases Nat.lt_or_ge j t with h3 | h3
          · exact h.lo j h3
          · obtain rfl : j = t := by omega
            exact h2, fun h3 => by omega⟩
      · exact ⟨t, by omega, h.lo, fun _ => h2⟩
/-- how many levels there are then -/
def putN (n : Nat) (m : Int) (e : Nat) : Nat := (if m = 0 then n else n + 1) - e
theorem num_app_lo {a b : List Int} {j : Nat} (h : j < a.length) : num (a ++ b) j = num a j := by
  simp [num, List.getElem?_append, h]
theorem num_app_hi {a b : List Int} {j : Nat} (h : a.length ≤ j) : num (a ++ b) j = num b (j - a.length) := by
  simp [num, List.getElem?_append, show ¬ j < a.length by omega]
theorem num_takeL {a : List Int} {k j : Nat} (h : j < k) : num (a.take k) j = num a j := by
  simp [num, h]
theorem num_dropL (a : List Int) (k j : Nat) : num (a.drop k) j = num a (k + j) := by
  simp [num, List.getElem?_drop]
structure PutF (side : Int) (zs : List Int) (n : Nat) (p q m : Int) (t e : Nat) (L : List Int) : Prop where
  len : L.length = putN n m e * 3
  row : ∀ i, i < putN n m e → ∀ r, r < 3 → num L (i * 3 + r) = if i < t then num zs (i * 3 + r) else if m = 0 then num zs ((i + e) * 3 + r) else if i = t then num [p, q, m] r else num zs ((i - 1 + e) * 3 + r)
theorem put_rows {side p q m : Int} {zs : List Int} {n t : Nat} (hz : zs.length = n * 3) (ho : LvOrd side zs n) (h : PutAt side zs n p t) : PutF side zs n p q m t (putE zs n p t) (putL side zs n p q m) := by
  have hn := h.le
  have hE : putE zs n p t ≤ 1 ∧ t + putE zs n p t ≤ n := by unfold putE; split <;> omega
  rw [put_at hz ho h]
  generalize putE zs n p t = e at *
  have hl1 : (zs.take (t * 3)).length = t * 3 := by rw [List.length_take, Nat.min_eq_left (by omega)]
  by_cases hm : m = 0
  · rw [if_pos hm, List.append_nil]
    refine ⟨by rw [List.length_append, hl1, List.length_drop, hz, putN, if_pos hm]; omega, fun i hi r hr => ?_⟩
    rw [putN, if_pos hm] at hi
    by_cases h1 : i < t
    · rw [if_pos h1, num_app_lo (by omega), num_takeL (by omega)]
    · rw [if_neg h1, if_pos hm, num_app_hi (by omega), num_dropL, hl1]
      congr 1
      omega
  · rw [if_neg hm]
    have hl2 : (zs.take (t * 3) ++ [p, q, m]).length = t * 3 + 3 := by rw [List.length_append, hl1]; rfl
    refine ⟨by rw [List.length_append, hl2, List.length_drop, hz, putN, if_neg hm]; omega, fun i hi r hr => ?_⟩
    rw [putN, if_neg hm] at hi
    by_cases h1 : i < t
    · rw [if_pos h1, num_app_lo (by omega), num_app_lo (by omega), num_takeL (by omega)]
    · rw [if_neg h1, if_neg hm]
      by_cases h2 : i = t
      · subst h2
        rw [if_pos rfl, num_app_lo (by omega), num_app_hi (by omega), hl1]
        congr 1
        omega
      · rw [if_neg h2, num_app_hi (by omega), num_dropL, hl2]
        congr 1
        omega
theorem put_ord {side p q m : Int} {zs : List Int} {n t : Nat} (hz : zs.length = n * 3) (ho : LvOrd side zs n) (h : PutAt side zs n p t) : LvOrd side (putL side zs n p q m) (putN n m (putE zs n p t)) := by
  have f := put_rows (q := q) (m := m) hz ho h
  have hn := h.le
  have hE : putE zs n p t ≤ 1 ∧ t + putE zs n p t ≤ n ∧ (t < n → putE zs n p t = 0 → num zs (t * 3) ≠ p) := by
    unfold putE
    split
    · omega
    · rename_i hc
      exact ⟨by omega, by omega, fun a _ b => hc ⟨a, b⟩⟩
  intro i j hij hj
  have fi := f.row i (by omega) 0 (by omega)
  have fj := f.row j hj 0 (by omega)
  have hjn := hj
  simp only [Nat.add_zero] at fi fj
  rw [fi, fj]
  generalize hee : putE zs n p t = e at *
  unfold putN at hjn
  have beh : ∀ k, t + e ≤ k → k < n → ahdB side p (num zs (k * 3)) = true := fun k hk hkn => by
    rcases Nat.lt_or_ge t k with a | a
    · exact putAt_behind ho h a hkn
    · obtain rfl : t = k := by omega
      rcases ahd_not (h.hi hkn) with b | b
      · exact absurd b (hE.2.2 hkn (by omega))
      · exact b
  by_cases hm : m = 0
  · simp only [if_pos hm] at hjn ⊢
    by_cases h1 : i < t
    · rw [if_pos h1]
      by_cases h2 : j < t
      · rw [if_pos h2]; exact ho i j hij (by omega)
      · rw [if_neg h2]; exact ho i (j + e) (by omega) (by omega)
    · rw [if_neg h1, if_neg (by omega)]
      exact ho _ _ (by omega) (by omega)
  · simp only [if_neg hm] at hjn ⊢
    by_cases h1 : i < t
    · rw [if_pos h1]
      by_cases h2 : j < t
      · rw [if_pos h2]; exact ho i j hij (by omega)
      · rw [if_neg h2]
        by_cases h3 : j = t
        · rw [if_pos h3]; exact h.lo i h1
        · rw [if_neg h3]; exact ho i (j - 1 + e) (by omega) (by omega)
    · rw [if_neg h1, if_neg (by omega : ¬ j < t)]
      by_cases h3 : i = t
      · rw [if_pos h3, if_neg (by omega)]
        exact beh _ (by omega) (by omega)
      · rw [if_neg h3, if_neg (by omega)]
        exact ho _ _ (by omega) (by omega)
/-- how many levels the list holds -/
def cntL (zs : List Int) : Nat := zs.length / 3
/-- the levels behind the first k updates -/
def aplL (side : Int) (za zd : List Int) : Nat → List Int
  | 0 => za
  | k + 1 => putL side (aplL side za zd k) (cntL (aplL side za zd k)) (num zd (k * 3)) (num zd (k * 3 + 1)) (num zd (k * 3 + 2))
/-- an update is right -/
def updI (p q m : Int) : Bool := ((m == 0) && ((q == 0) && inB 1 p 1000000)) || lvI p q m
def updTo (zd : List Int) : Nat → Bool
  | 0 => true
  | k + 1 => updTo zd k && updI (num zd (k * 3)) (num zd (k * 3 + 1)) (num zd (k * 3 + 2))
def aplB (side : Int) (za : List Int) (n : Nat) (zd : List Int) (m : Nat) : Bool := lvsB side za n && (decide (m ≤ 80) && (updTo zd m && lvsB side (aplL side za zd m) (cntL (aplL side za zd m))))
def aplZ (side : Int) (za : List Int) (n : Nat) (zd : List Int) (m : Nat) : List Int := if aplB side za n zd m = true then aplL side za zd m else []
theorem updTo_no {zd : List Int} {k : Nat} (h : updI (num zd (k * 3)) (num zd (k * 3 + 1)) (num zd (k * 3 + 2)) = false) : ∀ n, k < n → updTo zd n = false
  | 0, hk => absurd hk (Nat.not_lt_zero k)
  | n + 1, hk => by
    rw [updTo]
    rcases Nat.lt_or_ge k n with hlt | hge
    · rw [updTo_no h n hlt]; rfl
    · obtain rfl : k = n := by omega
      rw [h, Bool.and_false]
theorem updTo_at {zd : List Int} : ∀ n k, updTo zd n = true → k < n → updI (num zd (k * 3)) (num zd (k * 3 + 1)) (num zd (k * 3 + 2)) = true
  | 0, k, _, hk => absurd hk (Nat.not_lt_zero k)
  | n + 1, k, h, hk => by
    simp only [updTo, Bool.and_eq_true] at h
    rcases Nat.lt_or_ge k n with hlt | hge
    · exact updTo_at n k h.1 hlt
    · obtain rfl : k = n := by omega
      exact h.2
/-- a right list of levels stands in order -/
theorem LvOrd.of_lvTo {side : Int} {zs : List Int} {n : Nat} (h : lvTo side zs n = true) : LvOrd side zs n := fun i j hij hj => lv_order h j i hij hj
theorem apl_ok {side : Int} {za zd : List Int} {n : Nat} (hz : za.length = n * 3) (ho : LvOrd side za n) : ∀ k, (∃ N, (aplL side za zd k).length = N * 3 ∧ N ≤ n + k) ∧ LvOrd side (aplL side za zd k) (cntL (aplL side za zd k))
  | 0 => ⟨⟨n, hz, by omega⟩, by rw [aplL, cntL, hz, Nat.mul_div_cancel _ (by omega)]; exact ho⟩
  | k + 1 => by
    obtain ⟨⟨N, h1, h2⟩, h3⟩ := apl_ok (zd := zd) hz ho k
    rw [aplL]
    have hc : cntL (aplL side za zd k) = N := by rw [cntL, h1, Nat.mul_div_cancel _ (by omega)]
    rw [hc] at h3 ⊢
    obtain ⟨t, ht⟩ := putAt_ex side (aplL side za zd k) (num zd (k * 3)) N
    have f := put_rows (q := num zd (k * 3 + 1)) (m := num zd (k * 3 + 2)) h1 h3 ht
    have g := put_ord (q := num zd (k * 3 + 1)) (m := num zd (k * 3 + 2)) h1 h3 ht
    refine ⟨⟨_, f.len, ?_⟩, ?_⟩
    · unfold putN; split <;> omega
    · rw [cntL, f.len, Nat.mul_div_cancel _ (by omega)]; exact g
end Go.Proofs.Ytfodkefaflpicaa

namespace Go.Proofs.Ytfodkefaflpicaa
open Go.RowKit Wire

/-- one of the levels is this one -/
def HasL (zs : List Int) (n : Nat) (p q m : Int) : Prop := ∃ i, i < n ∧ num zs (i * 3) = p ∧ num zs (i * 3 + 1) = q ∧ num zs (i * 3 + 2) = m
theorem ahd_asym {side a b : Int} (h1 : ahdB side a b = true) (h2 : ahdB side b a = true) : False := ahd_ne (ahd_trans h1 h2) rfl
theorem lv_uniq {side : Int} {zs : List Int} {n i j : Nat} (ho : LvOrd side zs n) (hi : i < n) (hj : j < n) (h : num zs (i * 3) = num zs (j * 3)) : i = j := by
  rcases Nat.lt_trichotomy i j with a | a | a
  · exact absurd h (ahd_ne (ho i j a hj))
  · exact a
  · exact absurd h.symm (ahd_ne (ho j i a hi))
theorem has_put {side p q m : Int} {zs : List Int} {n t : Nat} (hz : zs.length = n * 3) (ho : LvOrd side zs n) (h : PutAt side zs n p t) (p' q' m' : Int) :
    HasL (putL side zs n p q m) (putN n m (putE zs n p t)) p' q' m' ↔ (p' = p ∧ m ≠ 0 ∧ q' = q ∧ m' = m) ∨ (p' ≠ p ∧ HasL zs n p' q' m') := by
  have f := put_rows (q := q) (m := m) hz ho h
  have hn := h.le
  have hE : putE zs n p t ≤ 1 ∧ t + putE zs n p t ≤ n ∧ (t < n → putE zs n p t = 0 → num zs (t * 3) ≠ p) ∧ (putE zs n p t = 1 → num zs (t * 3) = p) := by
    unfold putE
    split
    · rename_i hc
      exact ⟨by omega, by omega, fun _ b => by omega, fun _ => hc.2⟩
    · rename_i hc
      exact ⟨by omega, by omega, fun a _ b => hc ⟨a, b⟩, fun b => by omega⟩
  generalize putE zs n p t = e at *
  have beh : ∀ k, t + e ≤ k → k < n → num zs (k * 3) ≠ p := fun k hk hkn hp => by
    rcases Nat.lt_or_ge t k with a | a
    · exact ahd_ne (putAt_behind ho h a hkn) hp.symm
    · obtain rfl : t = k := by omega
      exact hE.2.2.1 hkn (by omega) hp
  have bef : ∀ k, k < t → num zs (k * 3) ≠ p := fun k hk => ahd_ne (h.lo k hk)
  constructor
  · rintro ⟨i, hi, h0, h1, h2⟩
    have f0 := f.row i hi 0 (by omega)
    have f1 := f.row i hi 1 (by omega)
    have f2 := f.row i hi 2 (by omega)
    simp only [Nat.add_zero] at f0
    rw [f0] at h0
    rw [f1] at h1
    rw [f2] at h2
    unfold putN at hi
    by_cases a : i < t
    · rw [if_pos a] at h0 h1 h2
      exact .inr ⟨by rw [← h0]; exact bef i a, i, by omega, h0, h1, h2⟩
    · rw [if_neg a] at h0 h1 h2
      by_cases hm : m = 0
      · rw [if_pos hm] at h0 h1 h2 hi
        exact .inr ⟨by rw [← h0]; exact beh _ (by omega) (by omega), i + e, by omega, h0, h1, h2⟩
      · rw [if_neg hm] at h0 h1 h2 hi
        by_cases b : i = t
        · rw [if_pos b] at h0 h1 h2
          exact .inl ⟨h0.symm, hm, h1.symm, h2.symm⟩
        · rw [if_neg b] at h0 h1 h2
          exact .inr ⟨by rw [← h0]; exact beh _ (by omega) (by omega), i - 1 + e, by omega, h0, h1, h2⟩
  · have mk : ∀ i, i < putN n m e → (∀ r, r < 3 → num (putL side zs n p q m) (i * 3 + r) = num [p', q', m'] r) → HasL (putL side zs n p q m) (putN n m e) p' q' m' := fun i hi hr => ⟨i, hi, hr 0 (by omega), hr 1 (by omega), hr 2 (by omega)⟩
    rintro (⟨rfl, hm, rfl, rfl⟩ | ⟨hp, i, hi, h0, h1, h2⟩)
    · have ht : t < putN n m' e := by unfold putN; rw [if_neg hm]; omega
      refine mk t ht (fun r hr => ?_)
      rw [f.row t ht r hr, if_neg (by omega), if_neg hm, if_pos rfl]
    · have hrow : ∀ r, r < 3 → num zs (i * 3 + r) = num [p', q', m'] r := fun r hr => by
        rcases (show r = 0 ∨ r = 1 ∨ r = 2 by omega) with rfl | rfl | rfl
        · exact h0
        · exact h1
        · exact h2
      have hit : t ≤ i → t + e ≤ i := fun a => by
        rcases Nat.lt_or_ge t i with b | b
        · omega
        · obtain rfl : t = i := by omega
          rcases (show e = 0 ∨ e = 1 by omega) with rfl | rfl
          · omega
          · exact absurd (h0.symm.trans (hE.2.2.2 rfl)) hp
      by_cases a : i < t
      · have hb : i < putN n m e := by unfold putN; split <;> omega
        exact mk i hb (fun r hr => by rw [f.row i hb r hr, if_pos a]; exact hrow r hr)
      · have := hit (by omega)
        by_cases hm : m = 0
        · have hb : i - e < putN n m e := by unfold putN; rw [if_pos hm]; omega
          exact mk (i - e) hb (fun r hr => by rw [f.row _ hb r hr, if_neg (by omega), if_pos hm, show i - e + e = i by omega]; exact hrow r hr)
        · have hb : i + 1 - e < putN n m e := by unfold putN; rw [if_neg hm]; omega
          exact mk (i + 1 - e) hb (fun r hr => by rw [f.row _ hb r hr, if_neg (by omega), if_neg hm, if_neg (by omega), show i + 1 - e - 1 + e = i by omega]; exact hrow r hr)
/-- levels in order are told by which there are -/
theorem lv_ext {side : Int} {za zb : List Int} {n m : Nat} (hza : za.length = n * 3) (hzb : zb.length = m * 3) (ha : LvOrd side za n) (hb : LvOrd side zb m) (h : ∀ p q r, HasL za n p q r ↔ HasL zb m p q r) : za = zb ∧ n = m := by
  have key : ∀ i, i < n → i < m → ∀ r, r < 3 → num za (i * 3 + r) = num zb (i * 3 + r) := by
    intro i
    induction i using Nat.strongRecOn with
    | ind i ih =>
      intro hn hm
      obtain ⟨j, hj, j0, j1, j2⟩ := (h _ _ _).1 ⟨i, hn, rfl, rfl, rfl⟩
      obtain ⟨l, hl, l0, _, _⟩ := (h _ _ _).2 ⟨i, hm, rfl, rfl, rfl⟩
      have hji : j = i := by
        rcases Nat.lt_trichotomy j i with a | a | a
        · have := ih j a (by omega) hj 0 (by omega)
          simp only [Nat.add_zero] at this
          exact lv_uniq ha (by omega) hn (this.trans j0)
        · exact a
        · have x1 := hb i j a hj
          rw [j0] at x1
          rcases Nat.lt_trichotomy l i with b | b | b
          · have := ih l b hl (by omega) 0 (by omega)
            simp only [Nat.add_zero] at this
            have := lv_uniq hb (by omega) hm (this.symm.trans l0)
            omega
          · subst b
            exact absurd l0.symm (ahd_ne x1)
          · have x2 := ha i l b hl
            rw [l0] at x2
            exact (ahd_asym x1 x2).elim
      subst hji
      intro r hr
      rcases (show r = 0 ∨ r = 1 ∨ r = 2 by omega) with rfl | rfl | rfl
      · exact j0.symm
      · exact j1.symm
      · exact j2.symm
  have hnm : n = m := by
    rcases Nat.lt_trichotomy n m with a | a | a
    · obtain ⟨j, hj, j0, _, _⟩ := (h _ _ _).2 ⟨n, a, rfl, rfl, rfl⟩
      have := key j hj (by omega) 0 (by omega)
      simp only [Nat.add_zero] at this
      have := lv_uniq hb (by omega) a (this.symm.trans j0)
      omega
    · exact a
    · obtain ⟨j, hj, j0, _, _⟩ := (h _ _ _).1 ⟨m, a, rfl, rfl, rfl⟩
      have := key j (by omega) hj 0 (by omega)
      simp only [Nat.add_zero] at this
      have := lv_uniq ha (by omega) a (this.trans j0)
      omega
  subst hnm
  refine ⟨List.ext_getElem (by omega) (fun j h1 h2 => ?_), rfl⟩
  have := key (j / 3) (by omega) (by omega) (j % 3) (Nat.mod_lt _ (by omega))
  rw [show j / 3 * 3 + j % 3 = j by omega] at this
  simpa [num, List.getD_eq_getElem?_getD, h1, h2] using this
/-- one of the first updates is of this price -/
def hasU (zd : List Int) (k : Nat) (p : Int) : Prop := ∃ j, j < k ∧ num zd (j * 3) = p
theorem apl_step {side : Int} {za zd : List Int} {n : Nat} (hz : za.length = n * 3) (ho : LvOrd side za n) (k : Nat) (p q m : Int) :
    HasL (aplL side za zd (k + 1)) (cntL (aplL side za zd (k + 1))) p q m ↔ (p = num zd (k * 3) ∧ num zd (k * 3 + 2) ≠ 0 ∧ q = num zd (k * 3 + 1) ∧ m = num zd (k * 3 + 2)) ∨ (p ≠ num zd (k * 3) ∧ HasL (aplL side za zd k) (cntL (aplL side za zd k)) p q m) := by
  obtain ⟨⟨N, h1, h2⟩, h3⟩ := apl_ok (zd := zd) hz ho k
  have hc : cntL (aplL side za zd k) = N := by rw [cntL, h1, Nat.mul_div_cancel _ (by omega)]
  rw [aplL, hc]
  rw [hc] at h3
  obtain ⟨t, ht⟩ := putAt_ex side (aplL side za zd k) (num zd (k * 3)) N
  have f := put_rows (q := num zd (k * 3 + 1)) (m := num zd (k * 3 + 2)) h1 h3 ht
  rw [cntL, f.len, Nat.mul_div_cancel _ (by omega)]
  exact has_put h1 h3 ht p q m
theorem apl_two {side : Int} {za zb zd : List Int} {n m : Nat} (hza : za.length = n * 3) (hzb : zb.length = m * 3) (ha : LvOrd side za n) (hb : LvOrd side zb m) (p : Int) : ∀ k, (hasU zd k p → ∀ q r, HasL (aplL side za zd k) (cntL (aplL side za zd k)) p q r ↔ HasL (aplL side zb zd k) (cntL (aplL side zb zd k)) p q r) ∧ (¬ hasU zd k p → ∀ q r, HasL (aplL side za zd k) (cntL (aplL side za zd k)) p q r ↔ HasL za n p q r)
  | 0 => ⟨fun ⟨j, hj, _⟩ => absurd hj (Nat.not_lt_zero j), fun _ q r => by rw [aplL, cntL, hza, Nat.mul_div_cancel _ (by omega)]⟩
  | k + 1 => by
    obtain ⟨h1, h2⟩ := apl_two (zd := zd) hza hzb ha hb p k
    constructor
    · intro hu q r
      rw [apl_step hza ha, apl_step hzb hb]
      by_cases hp : p = num zd (k * 3)
      · simp [hp]
      · have hu' : hasU zd k p := by
          obtain ⟨j, hj, hjp⟩ := hu
          rcases Nat.lt_or_ge j k with a | a
          · exact ⟨j, a, hjp⟩
          · obtain rfl : j = k := by omega
            exact absurd hjp.symm hp
        have := h1 hu' q r
        simp [hp, this]
    · intro hu q r
      have hp : p ≠ num zd (k * 3) := fun e => hu ⟨k, by omega, e.symm⟩
      rw [apl_step hza ha, h2 (fun ⟨j, hj, e⟩ => hu ⟨j, by omega, e⟩) q r]
      simp [hp]
/-- updates applied twice are updates applied once -/
theorem apl_again {side : Int} {za zd : List Int} {n k : Nat} (hza : za.length = n * 3) (ha : LvOrd side za n) : aplL side (aplL side za zd k) zd k = aplL side za zd k := by
  obtain ⟨⟨N, h1, h2⟩, h3⟩ := apl_ok (zd := zd) hza ha k
  have hc : cntL (aplL side za zd k) = N := by rw [cntL, h1, Nat.mul_div_cancel _ (by omega)]
  rw [hc] at h3
  obtain ⟨⟨N', h1', h2'⟩, h3'⟩ := apl_ok (zd := zd) h1 h3 k
  have hc' : cntL (aplL side (aplL side za zd k) zd k) = N' := by rw [cntL, h1', Nat.mul_div_cancel _ (by omega)]
  rw [hc'] at h3'
  refine (lv_ext h1' h1 h3' h3 (fun p q r => ?_)).1
  obtain ⟨g1, g2⟩ := apl_two (zd := zd) h1 hza h3 ha p k
  rw [hc', hc] at g1
  rw [hc'] at g2
  by_cases hu : hasU zd k p
  · exact g1 hu q r
  · exact g2 hu q r
theorem apl_last {side : Int} {za zd : List Int} {n : Nat} (hza : za.length = n * 3) (ha : LvOrd side za n) (p q0 m0 : Int) : ∀ k, (∀ j, j < k → num zd (j * 3) = p → num zd (j * 3 + 1) = q0 ∧ num zd (j * 3 + 2) = m0) → hasU zd k p → ∀ q r, HasL (aplL side za zd k) (cntL (aplL side za zd k)) p q r ↔ (m0 ≠ 0 ∧ q = q0 ∧ r = m0)
  | 0, _, ⟨j, hj, _⟩ => absurd hj (Nat.not_lt_zero j)
  | k + 1, h, hu => by
    intro q r
    rw [apl_step hza ha]
    by_cases hp : p = num zd (k * 3)
    · obtain ⟨h1, h2⟩ := h k (by omega) hp.symm
      rw [h1, h2]
      simp [hp]
    · have hu' : hasU zd k p := by
        obtain ⟨j, hj, hjp⟩ := hu
        rcases Nat.lt_or_ge j k with a | a
        · exact ⟨j, a, hjp⟩
        · obtain rfl : j = k := by omega
          exact absurd hjp.symm hp
      rw [apl_last hza ha p q0 m0 k (fun j hj => h j (by omega)) hu' q r]
      simp [hp]
theorem has_app {za zb : List Int} {n m : Nat} (hza : za.length = n * 3) (p q r : Int) : HasL (za ++ zb) (n + m) p q r ↔ HasL za n p q r ∨ HasL zb m p q r := by
  have lo : ∀ i, i < n → ∀ x, x < 3 → num (za ++ zb) (i * 3 + x) = num za (i * 3 + x) := fun i hi x hx => num_app_lo (by omega)
  have hi_ : ∀ i x, num (za ++ zb) ((n + i) * 3 + x) = num zb (i * 3 + x) := fun i x => by
    rw [num_app_hi (by omega)]
    congr 1
    omega
  constructor
  · rintro ⟨i, hi, h0, h1, h2⟩
    rcases Nat.lt_or_ge i n with a | a
    · exact .inl ⟨i, a, by rw [← h0]; exact (lo i a 0 (by omega)).symm, by rw [← h1]; exact (lo i a 1 (by omega)).symm, by rw [← h2]; exact (lo i a 2 (by omega)).symm⟩
    · obtain ⟨j, rfl⟩ : ∃ j, i = n + j := ⟨i - n, by omega⟩
      exact .inr ⟨j, by omega, by rw [← h0]; exact (hi_ j 0).symm, by rw [← h1]; exact (hi_ j 1).symm, by rw [← h2]; exact (hi_ j 2).symm⟩
  · rintro (⟨i, hi, h0, h1, h2⟩ | ⟨i, hi, h0, h1, h2⟩)
    · exact ⟨i, by omega, by rw [← h0]; exact lo i hi 0 (by omega), by rw [← h1]; exact lo i hi 1 (by omega), by rw [← h2]; exact lo i hi 2 (by omega)⟩
    · exact ⟨n + i, by omega, by rw [← h0]; exact hi_ i 0, by rw [← h1]; exact hi_ i 1, by rw [← h2]; exact hi_ i 2⟩
theorem has_one (a b c p q r : Int) : HasL [a, b, c] 1 p q r ↔ a = p ∧ b = q ∧ c = r := by
  constructor
  · rintro ⟨i, hi, h0, h1, h2⟩
    obtain rfl : i = 0 := by omega
    exact ⟨h0, h1, h2⟩
  · rintro ⟨h0, h1, h2⟩
    exact ⟨0, by omega, h0, h1, h2⟩
theorem has_none (p q r : Int) : ¬ HasL [] 0 p q r := fun ⟨i, hi, _⟩ => absurd hi (Nat.not_lt_zero i)
theorem has_gone (za zb : List Int) (m : Nat) (p q r : Int) : ∀ k, ∃ c, (goneL za zb m k).length = c * 3 ∧ c ≤ k ∧ (HasL (goneL za zb m k) c p q r ↔ (∃ i, i < k ∧ num za (i * 3) = p) ∧ spotL zb p m = none ∧ q = 0 ∧ r = 0)
  | 0 => ⟨0, rfl, by omega, by constructor; exact fun h => absurd h (has_none _ _ _); exact fun ⟨⟨i, hi, _⟩, _⟩ => absurd hi (Nat.not_lt_zero i)⟩
  | k + 1 => by
    obtain ⟨c, h1, h2, h3⟩ := has_gone za zb m p q r k
    rw [goneL]
    by_cases hs : spotL zb (num za (k * 3)) m = none
    · rw [if_pos hs]
      refine ⟨c + 1, by rw [List.length_append, h1]; simp; omega, by omega, ?_⟩
      rw [has_app h1, h3, has_one]
      constructor
      · rintro (⟨⟨i, hi, e⟩, b⟩ | ⟨a, b, d⟩)
        · exact ⟨⟨i, by omega, e⟩, b⟩
        · exact ⟨⟨k, by omega, a⟩, by rw [← a]; exact hs, b.symm, d.symm⟩
      · rintro ⟨⟨i, hi, e⟩, b, d, f⟩
        rcases Nat.lt_or_ge i k with a | a
        · exact .inl ⟨⟨i, a, e⟩, b, d, f⟩
        · obtain rfl : i = k := by omega
          exact .inr ⟨e, d.symm, f.symm⟩
    · rw [if_neg hs]
      refine ⟨c, h1, by omega, ?_⟩
      rw [h3]
      constructor
      · rintro ⟨⟨i, hi, e⟩, b⟩
        exact ⟨⟨i, by omega, e⟩, b⟩
      · rintro ⟨⟨i, hi, e⟩, b⟩
        rcases Nat.lt_or_ge i k with a | a
        · exact ⟨⟨i, a, e⟩, b⟩
        · obtain rfl : i = k := by omega
          rw [e] at hs
          exact absurd b.1 hs
theorem has_come (za zb : List Int) (n : Nat) (p q r : Int) : ∀ k, ∃ c, (comeL za zb n k).length = c * 3 ∧ c ≤ k ∧ (HasL (comeL za zb n k) c p q r ↔ HasL zb k p q r ∧ newL za n p q r = true)
  | 0 => ⟨0, rfl, by omega, by constructor; exact fun h => absurd h (has_none _ _ _); exact fun ⟨⟨i, hi, _⟩, _⟩ => absurd hi (Nat.not_lt_zero i)⟩
  | k + 1 => by
    obtain ⟨c, h1, h2, h3⟩ := has_come za zb n p q r k
    rw [comeL]
    by_cases hs : newL za n (num zb (k * 3)) (num zb (k * 3 + 1)) (num zb (k * 3 + 2)) = true
    · rw [if_pos hs]
      refine ⟨c + 1, by rw [List.length_append, h1]; simp; omega, by omega, ?_⟩
      rw [has_app h1, h3, has_one]
      constructor
      · rintro (⟨⟨i, hi, e⟩, b⟩ | ⟨a, b, d⟩)
        · exact ⟨⟨i, by omega, e⟩, b⟩
        · exact ⟨⟨k, by omega, a, b, d⟩, by rw [← a, ← b, ← d]; exact hs⟩
      · rintro ⟨⟨i, hi, e⟩, b⟩
        rcases Nat.lt_or_ge i k with a | a
        · exact .inl ⟨⟨i, a, e⟩, b⟩
        · obtain rfl : i = k := by omega
          exact .inr e
    · rw [if_neg hs]
      refine ⟨c, h1, by omega, ?_⟩
      rw [h3]
      constructor
      · rintro ⟨⟨i, hi, e⟩, b⟩
        exact ⟨⟨i, by omega, e⟩, b⟩
      · rintro ⟨⟨i, hi, e⟩, b⟩
        rcases Nat.lt_or_ge i k with a | a
        · exact ⟨⟨i, a, e⟩, b⟩
        · obtain rfl : i = k := by omega
          rw [e.1, e.2.1, e.2.2] at hs
          exact absurd b hs
/-- one of the levels is not new -/
theorem new_not {side : Int} {za : List Int} {n : Nat} (ha : LvOrd side za n) (p q r : Int) : newL za n p q r = false ↔ HasL za n p q r := by
  unfold newL
  cases hs : spotL za p n with
  | none =>
    simp only [Bool.true_eq_false, false_iff]
    rintro ⟨i, hi, h0, _, _⟩
    exact (spotL_none n).1 hs i hi h0
  | some i =>
    obtain ⟨h1, h2, h3⟩ := spotL_some n hs
    simp only [Bool.not_eq_false', Bool.and_eq_true, beq_iff_eq]
    constructor
    · rintro ⟨a, b, d⟩
      exact ⟨i, h1, a, b, d⟩
    · rintro ⟨j, hj, a, b, d⟩
      obtain rfl := lv_uniq ha h1 hj (h2.trans a.symm)
      exact ⟨a, b, d⟩
/-- the update from levels to levels, applied, makes of the first the second -/
theorem apl_delta {side : Int} {za zb : List Int} {n m : Nat} (hza : za.length = n * 3) (hzb : zb.length = m * 3) (ha : LvOrd side za n) (hb : LvOrd side zb m) (hm : ∀ i, i < m → num zb (i * 3 + 2) ≠ 0) {M : Nat} (hM : (goneL za zb m n ++ comeL za zb n m).length = M * 3) :
    aplL side za (goneL za zb m n ++ comeL za zb n m) M = zb := by
  have hd : ∀ p q r, HasL (goneL za zb m n ++ comeL za zb n m) M p q r ↔ ((∃ i, i < n ∧ num za (i * 3) = p) ∧ spotL zb p m = none ∧ q = 0 ∧ r = 0) ∨ (HasL zb m p q r ∧ newL za n p q r = true) := fun p q r => by
    obtain ⟨c, c1, c2, c3⟩ := has_gone za zb m p q r n
    obtain ⟨d, d1, d2, d3⟩ := has_come za zb n p q r m
    obtain rfl : M = c + d := by rw [List.length_append, c1, d1] at hM; omega
    rw [has_app c1, c3, d3]
  generalize goneL za zb m n ++ comeL za zb n m = zd at *
  obtain ⟨⟨N, h1, h2⟩, h3⟩ := apl_ok (zd := zd) hza ha M
  have hc : cntL (aplL side za zd M) = N := by rw [cntL, h1, Nat.mul_div_cancel _ (by omega)]
  rw [hc] at h3
  refine (lv_ext h1 hzb h3 hb (fun p q r => ?_)).1
  cases hs : spotL zb p m with
  | none =>
    have hno : ¬ HasL zb m p q r := fun ⟨i, hi, e, _, _⟩ => (spotL_none m).1 hs i hi e
    have hno' : ∀ q r, ¬ HasL zb m p q r := fun q r ⟨i, hi, e, _, _⟩ => (spotL_none m).1 hs i hi e
    refine ⟨fun h => ?_, fun h => absurd h hno⟩
    by_cases hu : hasU zd M p
    · have hall : ∀ j, j < M → num zd (j * 3) = p → num zd (j * 3 + 1) = 0 ∧ num zd (j * 3 + 2) = 0 := fun j hj e => by
        rcases (hd p _ _).1 ⟨j, hj, e, rfl, rfl⟩ with ⟨_, _, a, b⟩ | ⟨a, _⟩
        · exact ⟨a, b⟩
        · exact absurd a (hno' _ _)
      have := (apl_last hza ha p 0 0 M hall hu q r).1 (by rw [hc]; exact h)
      exact absurd rfl this.1
    · have h4 := ((apl_two (zd := zd) hza hza ha ha p M).2 hu q r).1 (by rw [hc]; exact h)
      obtain ⟨i, hi, e, _, _⟩ := h4
      obtain ⟨j, hj, a, _, _⟩ := (hd p 0 0).2 (.inl ⟨⟨i, hi, e⟩, hs, rfl, rfl⟩)
      exact absurd ⟨j, hj, a⟩ hu
  | some i =>
    obtain ⟨hi, hp, _⟩ := spotL_some m hs
    have hw : ∀ q r, HasL zb m p q r ↔ q = num zb (i * 3 + 1) ∧ r = num zb (i * 3 + 2) := fun q r => by
      constructor
      · rintro ⟨j, hj, a, b, d⟩
        obtain rfl := lv_uniq hb hi hj (hp.trans a.symm)
        exact ⟨b.symm, d.symm⟩
      · rintro ⟨rfl, rfl⟩
        exact ⟨i, hi, hp, rfl, rfl⟩
    rw [hw]
    by_cases hu : hasU zd M p
    · have hall : ∀ j, j < M → num zd (j * 3) = p → num zd (j * 3 + 1) = num zb (i * 3 + 1) ∧ num zd (j * 3 + 2) = num zb (i * 3 + 2) := fun j hj e => by
        rcases (hd p _ _).1 ⟨j, hj, e, rfl, rfl⟩ with ⟨_, a, _, _⟩ | ⟨a, _⟩
        · rw [hs] at a; cases a
        · exact (hw _ _).1 a
      rw [← hc, apl_last hza ha p _ _ M hall hu q r]
      exact ⟨fun x => x.2, fun x => ⟨hm i hi, x⟩⟩
    · rw [← hc, (apl_two (zd := zd) hza hza ha ha p M).2 hu q r]
      have hnew : newL za n p (num zb (i * 3 + 1)) (num zb (i * 3 + 2)) = false := by
        cases hh : newL za n p (num zb (i * 3 + 1)) (num zb (i * 3 + 2)) with
        | false => rfl
        | true =>
          obtain ⟨j, hj, a, _, _⟩ := (hd p _ _).2 (.inr ⟨(hw _ _).2 ⟨rfl, rfl⟩, hh⟩)
          exact absurd ⟨j, hj, a⟩ hu
      obtain ⟨j, hj, a, b, d⟩ := (new_not ha _ _ _).1 hnew
      constructor
      · rintro ⟨j', hj', a', b', d'⟩
        obtain rfl := lv_uniq ha hj hj' (a.trans a'.symm)
        exact ⟨b'.symm.trans b, d'.symm.trans d⟩
      · rintro ⟨rfl, rfl⟩
        exact ⟨j, hj, a, b, d⟩
/-- from levels to themselves there is no update -/
theorem delta_self {side : Int} {za : List Int} {n : Nat} (ha : LvOrd side za n) : ∀ k, k ≤ n → goneL za za n k = [] ∧ comeL za za n k = []
  | 0, _ => ⟨rfl, rfl⟩
  | k + 1, hk => by
    obtain ⟨h1, h2⟩ := delta_self ha k (by omega)
    rw [goneL, comeL, h1, h2, if_neg (fun e => (spotL_none n).1 e k (by omega) rfl), if_neg]
    · exact ⟨rfl, rfl⟩
    · rw [(new_not ha _ _ _).2 ⟨k, by omega, rfl, rfl, rfl⟩]
      simp
theorem updTo_all {zd : List Int} : ∀ n, (∀ k, k < n → updI (num zd (k * 3)) (num zd (k * 3 + 1)) (num zd (k * 3 + 2)) = true) → updTo zd n = true
  | 0, _ => rfl
  | n + 1, h => by rw [updTo, updTo_all n (fun k hk => h k (by omega)), h n (by omega)]; rfl
theorem lvsB_parts {side : Int} {zs : List Int} {n : Nat} (h : lvsB side zs n = true) : n ≤ 40 ∧ lvTo side zs n = true := by
  simp [lvsB] at h
  exact ⟨h.2.1, h.2.2⟩
theorem lvI_parts {p q m : Int} (h : lvI p q m = true) : inB 1 p 1000000 = true ∧ 1 ≤ m := by
  simp only [lvI, Bool.and_eq_true] at h
  refine ⟨h.1, ?_⟩
  have := h.2.1
  simp [inB] at this
  exact this.1
theorem cntL_of {zs : List Int} {n : Nat} (h : zs.length = n * 3) : cntL zs = n := by rw [cntL, h, Nat.mul_div_cancel _ (by omega)]
theorem delta_applied {side : Int} {za zb : List Int} {n m N : Nat} (hd : dltB side za n zb m = true) (hza : za.length = n * 3) (hzb : zb.length = m * 3) (hN : (dltZ side za n zb m).length = N * 3) : aplB side za n (dltZ side za n zb m) N = true ∧ aplZ side za n (dltZ side za n zb m) N = zb := by
  have hab := hd
  simp only [dltB, Bool.and_eq_true] at hab
  obtain ⟨h1, h2⟩ := hab
  obtain ⟨a1, a2⟩ := lvsB_parts h1
  obtain ⟨b1, b2⟩ := lvsB_parts h2
  have hz : dltZ side za n zb m = goneL za zb m n ++ comeL za zb n m := by simp [dltZ, hd]
  rw [hz] at hN ⊢
  have hm : ∀ i, i < m → num zb (i * 3 + 2) ≠ 0 := fun i hi e => by
    have := (lvI_parts (lvTo_at m i b2 hi)).2
    omega
  have hap := apl_delta hza hzb (LvOrd.of_lvTo a2) (LvOrd.of_lvTo b2) hm hN
  have hup : updTo (goneL za zb m n ++ comeL za zb n m) N = true := updTo_all N fun k hk => by
    have hh : HasL (goneL za zb m n ++ comeL za zb n m) N (num (goneL za zb m n ++ comeL za zb n m) (k * 3)) (num (goneL za zb m n ++ comeL za zb n m) (k * 3 + 1)) (num (goneL za zb m n ++ comeL za zb n m) (k * 3 + 2)) := ⟨k, hk, rfl, rfl, rfl⟩
    generalize num (goneL za zb m n ++ comeL za zb n m) (k * 3) = p at *
    generalize num (goneL za zb m n ++ comeL za zb n m) (k * 3 + 1) = q at *
    generalize num (goneL za zb m n ++ comeL za zb n m) (k * 3 + 2) = r at *
    obtain ⟨c, c1, c2, c3⟩ := has_gone za zb m p q r n
    obtain ⟨d, d1, d2, d3⟩ := has_come za zb n p q r m
    obtain rfl : N = c + d := by rw [List.length_append, c1, d1] at hN; omega
    rw [has_app c1, c3, d3] at hh
    rcases hh with ⟨⟨i, hi, e⟩, _, rfl, rfl⟩ | ⟨⟨i, hi, e0, e1, e2⟩, _⟩
    · have := (lvI_parts (lvTo_at n i a2 hi)).1
      rw [e] at this
      rw [updI, this]
      rfl
    · have := lvTo_at m i b2 hi
      rw [lvAt, e0, e1, e2] at this
      rw [updI, this, Bool.or_true]
  have hN80 : N ≤ 80 := by
    obtain ⟨c, c1, c2⟩ := goneL_len za zb m n
    obtain ⟨d, d1, d2⟩ := comeL_len za zb n m
    rw [List.length_append, c1, d1] at hN
    omega
  have hB : aplB side za n (goneL za zb m n ++ comeL za zb n m) N = true := by
    rw [aplB, hap, h1, hup, cntL_of hzb, h2, decide_eq_true hN80]
    rfl
  exact ⟨hB, by rw [aplZ, hB, hap]; rfl⟩
theorem delta_none {side : Int} {za : List Int} {n : Nat} (h : lvsB side za n = true) : dltB side za n za n = true ∧ dltZ side za n za n = [] := by
  have hB : dltB side za n za n = true := by rw [dltB, h]; rfl
  obtain ⟨g1, g2⟩ := delta_self (LvOrd.of_lvTo (lvsB_parts h).2) n (Nat.le_refl _)
  exact ⟨hB, by rw [dltZ, hB, g1, g2]; rfl⟩
theorem applied_again {side : Int} {za zd : List Int} {n m N : Nat} (h : aplB side za n zd m = true) (hza : za.length = n * 3) (hN : (aplZ side za n zd m).length = N * 3) : lvsB side (aplZ side za n zd m) N = true ∧ aplB side (aplZ side za n zd m) N zd m = true ∧ aplZ side (aplZ side za n zd m) N zd m = aplZ side za n zd m := by
  have hz : aplZ side za n zd m = aplL side za zd m := by rw [aplZ, h]; rfl
  rw [hz] at hN ⊢
  have hc := cntL_of hN
  have hp := h
  simp only [aplB, Bool.and_eq_true] at hp
  obtain ⟨p1, p2, p3, p4⟩ := hp
  rw [hc] at p4
  have hag := apl_again (zd := zd) (k := m) hza (LvOrd.of_lvTo (lvsB_parts p1).2)
  have hB : aplB side (aplL side za zd m) N zd m = true := by
    rw [aplB, hag, hc, p4, p2, p3]
    rfl
  exact ⟨p4, hB, by rw [aplZ, hB, hag]; rfl⟩
end Go.Proofs.Ytfodkefaflpicaa
