/-
 RowN, InsR, ExI1, ExI2, ExI3, ExI4.
-/
import Derived.Test.YtgjjdnojiegidaaGreatDoorTak
import Derived.Test.YtgjjdnojiegidaaGreatDoorHA
import Derived.Shelf.Spec.SlicesInsertGrow
import Derived.Lib.LazyBuf
import Derived.Lib.SliceRun
import Derived.Test.YtgjjdnojiegidaaGreatDoorGI
import Derived.Deep.QuietTactic
import Derived.Test.YtgjjdnojiegidaaGreatDoorHErr
import Derived.Test.YtgjjdnojiegidaaGreatDoorHX
import Derived.Test.YtgjjdnojiegidaaGreatDoorGT
import Derived.Test.YtgjjdnojiegidaaGreatDoorGF
namespace Go.Proofs.YtgjjdnojiegidaaGreatDoor
open Go.RowKit Go.Lib
set_option maxHeartbeats 6400000
set_option maxRecDepth 100000
set_option linter.unusedSimpArgs false
set_option linter.unusedVariables false

theorem run_copy_cellsN {P : Program} (w : World) (dT sT ty elem : TypeId) (sz k : Nat) (b o dLen dCap : Nat) (a : Addr) (sLen sCap : Nat) (cs : List Value)
 (hu : P.underlying dT = some (.slice elem)) (hs : (P.info? elem).map (·.size) = some sz) (hk : Nat.min sLen dLen = k) (hn : cs.length = k * sz)
 (hsrc : ∀ j v, cs[j]? = some v → w.cell? (a.add j) = some v) (hc : ∀ j, j < cs.length → (w.cell? ⟨b, o + j, none⟩).isSome = true) (hf : ∀ j, j < cs.length → w.frozen? ⟨b, o + j, none⟩ = false) (h1 : ∀ v ∈ cs, v.oneCell' = true) :
 (Builtin.copy_ #[dT, sT] ty #[.slice (some ⟨b, o, none⟩) dLen dCap, .slice (some a) sLen sCap]).run P w = .ok (goInt k) (w.setCells b o cs) := by
 have hl := run_loadCells_list (P := P) w a cs hsrc
 have hst := run_storeCells_cells (P := P) b o cs 0 w (by simpa using hc) (by simpa using hf) h1
 cases hq : P.info? elem with
 | none => simp [hq] at hs
 | some i =>
  have hi : i.size = sz := by simpa [hq] using hs
  simp [Builtin.copy_, run_underlying hu, Builtin.lenOf, Builtin.firstCells, sizeOf, typeInfo, hq, hi, hk, ← hn, hl, hst]
theorem wAn {P : Program} (w : World) {ops : Array Oper} {rest : List Oper} {o : Oper} {a : Act} {Q : Exit → Act → World → Prop} (hgd : o.guard = none) (s x : Operand) (t : TypeId)
 (ho : o.op = .call { callee := .builtin .append, args := #[s, x], argTypes := #[t, t] })
 (base : Nat) (e : TypeId) (i : TypeInfo) (z : Value) (size bytes : Nat) (ht : P.underlying t = some (.slice e)) (hi : P.info? e = some i) (hz : i.zero = some z)
 (hsize : i.size = size) (hby : i.bytes = bytes) (hzs : z.cells.size = size) (hsz : 0 < size)
 (v : Value) (n : Nat) (xs : List Value) (hs : a.eval s = v) (hown : w.ownsRow base e size v n xs)
 (A : Option Addr) (m c : Nat) (hA : A = none → m = 0 ∧ c = 0) (news : List Value) (hx : a.eval x = .slice A m c) (hl : news.length = m * size) (hnews : ∀ ad, A = some ad → ∀ j u, news[j]? = some u → w.cell? (ad.add j) = some u) (h1 : ∀ u ∈ news, u.oneCell' = true)
 (h63 : n + m ≤ maxLen) (hbytes : (n + m) * bytes ≤ 140737488355328) (hbase : base ≤ w.heap.size)
 (h : ∀ v' w', w'.ownsRow base e size v' (n + m) (xs ++ news) → w.grownBy w' v.ownBlock → wpList P ops Q rest (a.put o.dst v') w') :
 wpList P ops Q (o :: rest) a w := by
 cases A with
 | some ad => exact wpList_append_own w hgd s x t ho base e i z size bytes ht hi hz hsize hby hzs hsz v n xs hs hown ad m c news hx hl (hnews ad rfl) h1 h63 hbytes hbase fun v' w' h2 h3 _ => h v' w' h2 h3
 | none =>
  obtain ⟨rfl, rfl⟩ := hA rfl
  have hr := run_append_owned_none (P := P) (w := w) base t o.type e i size ht hi v n xs hown
  have e0 : news = [] := List.eq_nil_of_length_eq_zero (by rw [hl]; omega)
  subst e0
  refine wpList_plain hgd fun K hK => ?_
  unfold Oper.wp execOp
  simp only [ho, resolve, invoke, builtin, Sem.run_bind, Sem.run_pure, Result.andThen_ok, List.map_toArray, List.map_cons, List.map_nil, hs, hx, hr]
  exact hK _ _ (h v w (by simpa using hown) (World.grownBy.refl _ _))
theorem Lst.newsN {w : World} {B sz n : Nat} {A : Option Addr} {zs : List Int} (h : Lst w B sz A n zs) : ∀ ad, A = some ad → ∀ j u, (nums zs)[j]? = some u → w.cell? (ad.add j) = some u := by
 intro ad hA j u hj
 have hlt : j < zs.length := by rw [← nums_length]; exact (List.getElem?_eq_some_iff.1 hj).1
 rw [nums_get hlt] at hj
 injection hj with hj
 have hn : 0 < n := by
  rcases Nat.eq_zero_or_pos n with h0 | h0
  · have h1 := h.1
    rw [h0, Nat.zero_mul] at h1
    omega
  · exact h0
 obtain ⟨b, o, e, hb, hc⟩ := h.2 hn
 rw [hA] at e
 injection e with e
 rw [e, show (⟨b, o, none⟩ : Addr).add j = ⟨b, o + j, none⟩ from by unfold Addr.add; split <;> simp_all, hc j (by rw [← h.1]; exact hlt), hj]
theorem setN_grown (w : World) (g i : Nat) (u : Value) : w.grownBy (w.setCell ⟨g, i, none⟩ u) (some g) :=
 ⟨rfl, rfl, rfl, by simp [World.setCell], fun k _ hne => Below.heap_setCell w _ u k (by
  rintro rfl
  exact hne rfl)⟩
theorem setsN_grown (g : Nat) : ∀ (vs : List Value) (o : Nat) (w : World), w.grownBy (w.setCells g o vs) (some g)
 | [], _, _ => World.grownBy.refl _ _
 | v :: vs, o, w => World.grownBy.trans (setN_grown w g o v) (setsN_grown g vs (o + 1) _)
theorem row_of_nums {w : World} {X n c g : Nat} {T : TypeId} {sz : Nat} {zs : List Int} (hown : w.ownsRow X T sz (.slice (some ⟨g, 0, none⟩) n c) n (nums zs)) : X ≤ g ∧ n ≤ c ∧ c ≤ maxLen ∧ ∃ F, w.rowIs g T (c * sz) F ∧ ∀ q, q < n * sz → F q = .int .i64 (num zs q) := by
 have hl : zs.length = n * sz := by rw [← nums_length]; exact hown.1
 rcases hown.2 with ⟨h0, _⟩ | ⟨g', cap', cur, e', hX, hheap, hnc, hcm, hcs, _⟩
 · cases h0
 · injection e' with e1 _ e3
   injection e1 with e1
   injection e1 with e1
   subst e1 e3
   have hr : w.rowIs g T (c * sz) (fun q => cur[q]?.getD (.pointer none)) := ⟨cur, hheap, by omega, fun i hi => by simp [show i < cur.size by omega]⟩
   refine ⟨hX, hnc, hcm, _, hr, fun q hq => ?_⟩
   have h1 := hown.cells (g := g) rfl q _ (nums_get (by omega))
   rw [show (⟨g, 0, none⟩ : Addr).add q = ⟨g, q, none⟩ from by unfold Addr.add; split <;> simp_all] at h1
   have h2 := hr.cell (i := q) (Nat.lt_of_lt_of_le hq (Nat.mul_le_mul_right _ hnc))
   rw [h1] at h2
   injection h2 with h2
   exact h2.symm
theorem own_of_rowN {w : World} {X g N cap sz : Nat} {e : TypeId} {F : Nat → Value} {zs : List Int} (h : w.rowIs g e (cap * sz) F) (hX : X ≤ g) (hN : N ≤ cap) (hc : cap ≤ maxLen) (hl : zs.length = N * sz) (hx : ∀ q, q < N * sz → F q = .int .i64 (num zs q)) : w.ownsRow X e sz (.slice (some ⟨g, 0, none⟩) N cap) N (nums zs) := by
 obtain ⟨c, h1, h2, h3⟩ := h
 refine ⟨by rw [nums_length, hl], .inr ⟨g, cap, c, rfl, hX, h1, hN, hc, by omega, ?_⟩⟩
 have hle : N * sz ≤ cap * sz := Nat.mul_le_mul_right _ hN
 apply List.ext_getElem?
 intro q
 by_cases hq : q < N * sz
 · rw [List.getElem?_take, if_pos hq, nums_get (by omega), Array.getElem?_toList, h3 q (by omega), hx q hq]
 · rw [List.getElem?_take, if_neg hq, List.getElem?_eq_none (by rw [nums_length]; omega)]
end Go.Proofs.YtgjjdnojiegidaaGreatDoor

namespace Go.Proofs.YtgjjdnojiegidaaGreatDoor
open Go.RowKit Go.Lib Wire
set_option maxHeartbeats 6400000
set_option maxRecDepth 100000
set_option linter.unusedSimpArgs false
set_option linter.unusedVariables false

theorem rnum_app_lo {a b : List Int} {j : Nat} (h : j < a.length) : num (a ++ b) j = num a j := by
 simp [num, List.getElem?_append, h]
theorem rnum_app_hi {a b : List Int} {j : Nat} (h : a.length ≤ j) : num (a ++ b) j = num b (j - a.length) := by
 simp [num, List.getElem?_append, show ¬ j < a.length by omega]
theorem rnum_takeL {a : List Int} {k j : Nat} (h : j < k) : num (a.take k) j = num a j := by
 simp [num, h]
theorem rnum_dropL (a : List Int) (k j : Nat) : num (a.drop k) j = num a (k + j) := by
 simp [num, List.getElem?_drop]
def insR (zs : List Int) (i : Nat) (p0 p1 p2 p3 p4 p5 p6 p7 : Int) : List Int := zs.take (i * 8) ++ [p0, p1, p2, p3, p4, p5, p6, p7] ++ zs.drop (i * 8)
theorem insR_len {zs : List Int} {n i : Nat} (h : zs.length = n * 8) (hi : i ≤ n) (p0 p1 p2 p3 p4 p5 p6 p7 : Int) : (insR zs i p0 p1 p2 p3 p4 p5 p6 p7).length = (n + 1) * 8 := by
 simp [insR, h]
 omega
theorem insR_lo {zs : List Int} {n i : Nat} (h : zs.length = n * 8) (hi : i ≤ n) (p0 p1 p2 p3 p4 p5 p6 p7 : Int) {j : Nat} (hj : j < i * 8) : num (insR zs i p0 p1 p2 p3 p4 p5 p6 p7) j = num zs j := by
 unfold insR
 rw [rnum_app_lo (by simp [h]; omega), rnum_app_lo (by simp [h]; omega), rnum_takeL hj]
theorem insR_at {zs : List Int} {n i : Nat} (h : zs.length = n * 8) (hi : i ≤ n) (p0 p1 p2 p3 p4 p5 p6 p7 : Int) {j : Nat} (hj : j < 8) : num (insR zs i p0 p1 p2 p3 p4 p5 p6 p7) (i * 8 + j) = num [p0, p1, p2, p3, p4, p5, p6, p7] j := by
 unfold insR
 rw [rnum_app_lo (by simp [h]; omega), rnum_app_hi (by simp [h]; omega), List.length_take, h, Nat.min_eq_left (by omega), Nat.add_sub_cancel_left]
theorem insR_hi {zs : List Int} {n i : Nat} (h : zs.length = n * 8) (hi : i ≤ n) (p0 p1 p2 p3 p4 p5 p6 p7 : Int) (j : Nat) : num (insR zs i p0 p1 p2 p3 p4 p5 p6 p7) (i * 8 + 8 + j) = num zs (i * 8 + j) := by
 unfold insR
 rw [rnum_app_hi (by simp [h]; omega), rnum_dropL]
 congr 1
 simp [h]
 omega
theorem impl_InsertR (X n i vb : Nat) (p0 p1 p2 p3 p4 p5 p6 p7 : Int) (v : Value) (zs : List Int) (w : World) (hown : w.ownsRow X 48 8 v n (nums zs)) (hX : X ≤ w.heap.size) (hn : n ≤ 1048576) (hi : i ≤ n) (hvb : w.heap[vb]? = some (.cells #[.int .i64 p0, .int .i64 p1, .int .i64 p2, .int .i64 p3, .int .i64 p4, .int .i64 p5, .int .i64 p6, .int .i64 p7] 48 (0, 0))) (hne : some vb ≠ v.ownBlock) :
 Calls Tryz.prog 90 #[v, .int .i64 (i : Int), .slice (some ⟨vb, 0, none⟩) 1 1] w fun e w' => (∃ v', e = .returned v' ∧ w'.ownsRow X 48 8 v' (n + 1) (nums (insR zs i p0 p1 p2 p3 p4 p5 p6 p7))) ∧ w.grownBy w' v.ownBlock := by
 obtain ⟨i0, hi0, hz0, hz1, hz2⟩ := info_parts rec_info
 obtain ⟨A, c, rfl, hnc, hcm⟩ := oSl hown
 unfold maxLen at hcm
 have mixed : Tryz.prog.follows .mixedOrders = true := by kernel_rfl
 have hzl : zs.length = n * 8 := by rw [← nums_length]; exact hown.1
 have hvc : ∀ j u, (#[Value.int .i64 p0, .int .i64 p1, .int .i64 p2, .int .i64 p3, .int .i64 p4, .int .i64 p5, .int .i64 p6, .int .i64 p7] : Array Value).toList[j]? = some u → w.cell? ⟨vb, j, none⟩ = some u := fun j u h => by
  simp only [World.cell?, hvb]
  rcases j with _ | _ | _ | _ | _ | _ | _ | _ | j <;> simp_all
 rcases Nat.lt_or_eq_of_le hi with hlt | rfl
 · obtain ⟨g, cap, hg, _, _⟩ := hown.form (by omega)
   injection hg with hg1 hg2 hg3
   subst hg1 hg3
   obtain ⟨hXg, _, _, F, hrow, hF⟩ := row_of_nums hown
   have hgw := hrow.lt
   have hgv : vb ≠ g := fun e => hne (by rw [e]; rfl)
   have hsz : (Tryz.prog.info? 48).map (·.size) = some 8 := by rw [hi0]; simp [hz1]
   have hone : ∀ u ∈ ((nums zs).drop (i * 8)), u.oneCell' = true := fun u hu => nums_one zs u (List.mem_of_mem_drop hu)
   have hdl : ((nums zs).drop (i * 8)).length = (n - i) * 8 := by rw [List.length_drop, nums_length, hzl]; omega
   have hwr : IntKind.i64.wrap ((i : Int) + 1) = (i : Int) + 1 := by rw [IntKind.wrap_i64]; omega
   have htn : ((i : Int) + 1).toNat = i + 1 := by omega
   have hz2' : ¬ ((i : Int) = (n : Int)) := by omega
   have hci : ¬ (c = i) := by omega
   rcases Nat.lt_or_ge n c with hroom | hfull
   · obtain ⟨cv, hhv, hcv, _⟩ := id hrow
     have hov : ∀ lb cb, (callFunc 104 #[.slice (some ⟨vb, 0, none⟩) 1 1, .slice (some ⟨g, (i + 1) * 8, none⟩) lb cb]).run Tryz.prog w = .ok (.value (.bool false)) w := fun lb cb => by
      rw [run_callFunc_extern Tryz.func104 (by kernel_rfl) (by kernel_rfl) (by kernel_rfl) (e := Extern.SlicesOverlaps.overlaps #[31, 31] #[4]) (by kernel_rfl),
       Lib.run_overlaps_apart w 31 4 48 Tryz.underlying31 8 Tryz.sizeOf48 ⟨vb, 0, none⟩ ⟨g, (i + 1) * 8, none⟩ 1 1 lb cb hgv 48 48 8 (c * 8) (by simp [World.shape?, hvb]) (by simp [World.shape?, hhv, hcv]) (by omega) (by simp [World.frozen?, hvb]) (by simp [World.frozen?, hvb])]
      rfl
     clear hhv hcv
     have hb1 : (0 : Int) ≤ (i : Int) + 1 := by omega
     have hb2 : ¬ (c = i + 1) := by omega
     have hb3 : (i : Int) ≤ (n : Int) + 1 := by omega
     have hcel : ∀ (W : World) (hr : W.rowIs g 48 (c * 8) F) (j : Nat) (u : Value), ((nums zs).drop (i * 8))[j]? = some u → W.cell? ⟨g, i * 8 + j, none⟩ = some u := fun W hr j u h => by
      rw [List.getElem?_drop] at h
      have hj := (List.getElem?_eq_some_iff.1 h).1
      rw [nums_length, hzl] at hj
      rw [nums_get (by omega)] at h
      rw [hr.cell (by omega), hF _ (by omega), h]
     have hcp1 : ∀ ty dc sc, (Builtin.copy_ #[31, 31] ty #[.slice (some ⟨g, (i + 1) * 8, none⟩) (n - i) dc, .slice (some ⟨g, i * 8, none⟩) (n + 1 - i) sc]).run Tryz.prog w.drew = .ok (goInt ((n - i : Nat) : Int)) (w.drew.setCells g ((i + 1) * 8) ((nums zs).drop (i * 8))) := fun ty dc sc =>
      run_copy_cellsN w.drew _ _ ty 48 8 (n - i) g ((i + 1) * 8) (n - i) dc ⟨g, i * 8, none⟩ (n + 1 - i) sc ((nums zs).drop (i * 8)) Tryz.underlying31 hsz (by simp only [Nat.min_def]; split <;> omega) hdl
       (fun j u hj => by rw [Addr.add_lit]; exact hcel w.drew hrow j u hj) (fun j hj => by rw [show w.drew.cell? ⟨g, (i + 1) * 8 + j, none⟩ = _ from hrow.cell (i := (i + 1) * 8 + j) (by omega)]; rfl) (fun j hj => hrow.frozen ((i + 1) * 8 + j)) hone
     have hrow1 := rowIs_setCells ((nums zs).drop (i * 8)) ((i + 1) * 8) w.drew F hrow
     have hg1 : w.grownBy (w.drew.setCells g ((i + 1) * 8) ((nums zs).drop (i * 8))) (some g) := (show w.grownBy w.drew (some g) from ⟨rfl, rfl, rfl, Nat.le_refl _, fun _ _ _ => rfl⟩).trans (setsN_grown g _ _ _)
     have hvc1 : ∀ j u, [.int .i64 p0, .int .i64 p1, .int .i64 p2, .int .i64 p3, .int .i64 p4, .int .i64 p5, .int .i64 p6, .int .i64 p7][j]? = some u → (w.drew.setCells g ((i + 1) * 8) ((nums zs).drop (i * 8))).cell? ⟨vb, j, none⟩ = some u := fun j u h => hg1.cell (hvc j u h) (fun e => hgv (by injection e))
     generalize w.drew.setCells g ((i + 1) * 8) ((nums zs).drop (i * 8)) = W1 at *
     have hcp2 : ∀ ty dc, (Builtin.copy_ #[31, 31] ty #[.slice (some ⟨g, i * 8, none⟩) (n + 1 - i) dc, .slice (some ⟨vb, 0, none⟩) 1 1]).run Tryz.prog W1 = .ok (goInt 1) (W1.setCells g (i * 8) [.int .i64 p0, .int .i64 p1, .int .i64 p2, .int .i64 p3, .int .i64 p4, .int .i64 p5, .int .i64 p6, .int .i64 p7]) := fun ty dc =>
      run_copy_cellsN W1 _ _ ty 48 8 1 g (i * 8) (n + 1 - i) dc ⟨vb, 0, none⟩ 1 1 [.int .i64 p0, .int .i64 p1, .int .i64 p2, .int .i64 p3, .int .i64 p4, .int .i64 p5, .int .i64 p6, .int .i64 p7] Tryz.underlying31 hsz (by simp only [Nat.min_def]; split <;> omega) rfl
       (fun j u hj => by rw [Addr.add_lit, Nat.zero_add]; exact hvc1 j u hj) (fun j hj => by simp at hj; rw [hrow1.cell (i := i * 8 + j) (by omega)]; rfl) (fun j hj => hrow1.frozen (i * 8 + j)) (by intro u hu; simp at hu; rcases hu with rfl | rfl | rfl | rfl | rfl | rfl | rfl | rfl <;> rfl)
     have hrow2 := rowIs_setCells [.int .i64 p0, .int .i64 p1, .int .i64 p2, .int .i64 p3, .int .i64 p4, .int .i64 p5, .int .i64 p6, .int .i64 p7] (i * 8) W1 _ hrow1
     have hg2 := hg1.trans (setsN_grown g [.int .i64 p0, .int .i64 p1, .int .i64 p2, .int .i64 p3, .int .i64 p4, .int .i64 p5, .int .i64 p6, .int .i64 p7] (i * 8) W1)
     have HF := Lib.hid (show (W1.setCells g (i * 8) [.int .i64 p0, .int .i64 p1, .int .i64 p2, .int .i64 p3, .int .i64 p4, .int .i64 p5, .int .i64 p6, .int .i64 p7]).ownsRow X 48 8 (.slice (some ⟨g, 0, none⟩) (n + 1) c) (n + 1) (nums (insR zs i p0 p1 p2 p3 p4 p5 p6 p7)) from own_of_rowN hrow2 hXg (by omega) (by unfold maxLen; omega) (insR_len hzl hi p0 p1 p2 p3 p4 p5 p6 p7) (fun x hx => by
      rcases (show x < i * 8 ∨ (∃ j, j < 8 ∧ x = i * 8 + j) ∨ ∃ j, j < (n - i) * 8 ∧ x = i * 8 + 8 + j from by
       rcases Nat.lt_or_ge x (i * 8) with a | a
       · exact .inl a
       · rcases Nat.lt_or_ge x (i * 8 + 8) with b | b
         · exact .inr (.inl ⟨x - i * 8, by omega, by omega⟩)
         · exact .inr (.inr ⟨x - (i * 8 + 8), by omega, by omega⟩)) with h1 | ⟨j, h1, rfl⟩ | ⟨j, h1, rfl⟩
      · rw [insR_lo hzl hi p0 p1 p2 p3 p4 p5 p6 p7 h1, if_neg (by omega), if_neg (by omega), hF x (by omega)]
      · rw [insR_at hzl hi p0 p1 p2 p3 p4 p5 p6 p7 h1, if_pos (by simp; omega), Nat.add_sub_cancel_left]
        rcases (show j = 0 ∨ j = 1 ∨ j = 2 ∨ j = 3 ∨ j = 4 ∨ j = 5 ∨ j = 6 ∨ j = 7 by omega) with rfl | rfl | rfl | rfl | rfl | rfl | rfl | rfl <;> rfl
      · rw [insR_hi hzl hi p0 p1 p2 p3 p4 p5 p6 p7 j, if_neg (by simp), if_pos (by rw [hdl]; omega), List.getElem?_drop, show i * 8 + (i * 8 + 8 + j - (i + 1) * 8) = i * 8 + j by omega, nums_get (by omega)]
        rfl))
     have HG := Lib.hid hg2
     clear hrow1 hrow2 hg1 hg2 hrow hcel hF hown hvc1 hvc hvb
     go_enter Tryz.func90, Tryz.ntmps90
     go_wp2_with (simp only [hov])
     go_region_law_o (refine step_copy_runI rfl _ _ 31 31 rfl _ _ (by simp [Act.eval, Act.put]) (by simp [Act.eval, Act.put]) (hcp1 _ _ _) ?_)
     go_wp2_with (at_builtin; refine wpList_copy_runI _ rfl _ _ 31 31 rfl _ _ rfl rfl (hcp2 _ _) ?_)
     go_ret
     exact ⟨⟨_, rfl, HF.out⟩, HG.out⟩
   · obtain rfl : c = n := by omega
     have hcel : ∀ (j : Nat) (u : Value), ((nums zs).drop (i * 8))[j]? = some u → w.cell? ⟨g, i * 8 + j, none⟩ = some u := fun j u h => by
      rw [List.getElem?_drop] at h
      have hj := (List.getElem?_eq_some_iff.1 h).1
      rw [nums_length, hzl] at hj
      rw [nums_get (by omega)] at h
      rw [hrow.cell (by omega), hF _ (by omega), h]
     have hold : (Builtin.firstCells i0.size i (.slice (some ⟨g, 0, none⟩) i c)).run Tryz.prog w.drew = .ok ((nums zs).take (i * 8)).toArray w.drew := by
      rw [hz1]
      exact run_firstCells_some w.drew 8 i ⟨g, 0, none⟩ i c ((nums zs).take (i * 8)) (by rw [List.length_take, nums_length]; omega) (fun j u hj => by
       rw [Addr.add_lit]
       rw [List.getElem?_take] at hj
       split at hj
       · rw [Nat.zero_add]
         rw [nums_get (by omega)] at hj
         show w.cell? _ = _
         rw [hrow.cell (by omega), hF _ (by omega), hj]
       · cases hj)
     have hik : i + (c + 1 - i) = c + 1 := by omega
     have hkk : (c : Int) + 1 - (i : Int) = ((c + 1 - i : Nat) : Int) := by omega
     obtain ⟨G, hG⟩ : ∃ G, G = grownCap w (c + 1) c 48 := ⟨_, rfl⟩
     obtain ⟨ZV, hZV⟩ : ∃ ZV, ZV = Value.agg #[.int .i64 0, .int .i64 0, .int .i64 0, .int .i64 0, .int .i64 0, .int .i64 0, .int .i64 0, .int .i64 0] := ⟨_, rfl⟩
     have hZs : ZV.cells.size = 8 := by rw [hZV]; rfl
     rw [← hZV] at hz0
     obtain ⟨ROW, hROW⟩ : ∃ ROW : Array Value, ROW = ((nums zs).take (i * 8)).toArray ++ Builtin.zeroCells ZV.cells (c + 1 - i) ++ Builtin.zeroCells ZV.cells (G - (c + 1)) := ⟨_, rfl⟩
     have hGn : c + 1 ≤ G := by rw [hG]; exact grownCap_ge w _ _ _
     have hGm : G ≤ maxLen := by rw [hG]; exact grownCap_le_maxLen w (c + 1) c 48 (by unfold maxLen; omega)
     have hRl : ROW.size = G * 8 := by
      rw [hROW]
      simp [Builtin.zeroCells, hZs, nums_length, hzl]
      omega
     have hRt : ∀ x, x < i * 8 → ROW[x]? = some (.int .i64 (num zs x)) := fun x hx => by
      rw [hROW, Array.append_assoc, Array.getElem?_append_left (by simp [nums_length]; omega)]
      simp only [List.getElem?_toArray]
      rw [List.getElem?_take, if_pos hx, nums_get (by omega)]
     have hrz : ∀ ty, (Builtin.append_ #[31, 3] ty #[.slice (some ⟨g, 0, none⟩) i c, .int .i64 ((c : Int) + 1 - (i : Int))]).run Tryz.prog w = .ok (.slice (some ⟨w.heap.size, 0, none⟩) (c + 1) G) (w.drew.alloc (.cells ROW 48)) := fun ty => by
      have h := Lib.run_append_grow_zeros w 31 3 ty 48 i0 _ .i64 .i64 Tryz.underlying31 Tryz.underlying3 hi0 hz0 (some ⟨g, 0, none⟩) i c ((nums zs).take (i * 8)) hold (c + 1 - i) (by omega) (by omega) (by omega) (by omega) (by rw [hz2]; omega) (by rw [hz2, hik]; exact growslice_fits (by omega) (by omega))
      rw [hik] at h
      rw [hkk, hROW, hG]
      exact h
     have hbN : g ≠ w.heap.size := by omega
     have hrow0 : (w.drew.alloc (.cells ROW 48)).rowIs w.heap.size 48 (G * 8) (fun q => ROW[q]?.getD (.pointer none)) := ⟨ROW, heap_alloc_new w.drew _, hRl, fun q hq => by simp [show q < ROW.size by omega]⟩
     have hb0 : Below w.heap.size w (w.drew.alloc (.cells ROW 48)) := (Below.refl _ w).drew.alloc (Nat.le_refl _) _
     have hvw : vb < w.heap.size := (Array.getElem?_eq_some_iff.1 hvb).1
     have hvc0 : ∀ j u, [.int .i64 p0, .int .i64 p1, .int .i64 p2, .int .i64 p3, .int .i64 p4, .int .i64 p5, .int .i64 p6, .int .i64 p7][j]? = some u → (w.drew.alloc (.cells ROW 48)).cell? ⟨vb, j, none⟩ = some u := fun j u h => (hb0.cell (p := ⟨vb, j, none⟩) hvw).trans (hvc j u h)
     have hbel := hb0
     generalize hW0 : w.drew.alloc (.cells ROW 48) = W0 at *
     have hcpA : ∀ ty dc, (Builtin.copy_ #[31, 31] ty #[.slice (some ⟨w.heap.size, i * 8, none⟩) (c + 1 - i) dc, .slice (some ⟨vb, 0, none⟩) 1 1]).run Tryz.prog W0 = .ok (goInt 1) (W0.setCells w.heap.size (i * 8) [.int .i64 p0, .int .i64 p1, .int .i64 p2, .int .i64 p3, .int .i64 p4, .int .i64 p5, .int .i64 p6, .int .i64 p7]) := fun ty dc =>
      run_copy_cellsN W0 _ _ ty 48 8 1 w.heap.size (i * 8) (c + 1 - i) dc ⟨vb, 0, none⟩ 1 1 [.int .i64 p0, .int .i64 p1, .int .i64 p2, .int .i64 p3, .int .i64 p4, .int .i64 p5, .int .i64 p6, .int .i64 p7] Tryz.underlying31 hsz (by simp only [Nat.min_def]; split <;> omega) rfl
       (fun j u hj => by rw [Addr.add_lit, Nat.zero_add]; exact hvc0 j u hj) (fun j hj => by simp at hj; rw [hrow0.cell (i := i * 8 + j) (by omega)]; rfl) (fun j hj => hrow0.frozen (i * 8 + j)) (by intro u hu; simp at hu; rcases hu with rfl | rfl | rfl | rfl | rfl | rfl | rfl | rfl <;> rfl)
     have hrow1 := rowIs_setCells [.int .i64 p0, .int .i64 p1, .int .i64 p2, .int .i64 p3, .int .i64 p4, .int .i64 p5, .int .i64 p6, .int .i64 p7] (i * 8) W0 _ hrow0
     have hbel1 := below_setCells (b := w.heap.size) (Nat.le_refl w.heap.size) [.int .i64 p0, .int .i64 p1, .int .i64 p2, .int .i64 p3, .int .i64 p4, .int .i64 p5, .int .i64 p6, .int .i64 p7] (i * 8) W0 hbel
     have hcel1 : ∀ (j : Nat) (u : Value), ((nums zs).drop (i * 8))[j]? = some u → (W0.setCells w.heap.size (i * 8) [.int .i64 p0, .int .i64 p1, .int .i64 p2, .int .i64 p3, .int .i64 p4, .int .i64 p5, .int .i64 p6, .int .i64 p7]).drew.cell? ⟨g, i * 8 + j, none⟩ = some u := fun j u h => (hbel1.drew.cell (p := ⟨g, i * 8 + j, none⟩) hgw).trans (hcel j u h)
     generalize W0.setCells w.heap.size (i * 8) [.int .i64 p0, .int .i64 p1, .int .i64 p2, .int .i64 p3, .int .i64 p4, .int .i64 p5, .int .i64 p6, .int .i64 p7] = W1 at *
     have hcpB : ∀ ty dc sc, (Builtin.copy_ #[31, 31] ty #[.slice (some ⟨w.heap.size, (i + 1) * 8, none⟩) (c - i) dc, .slice (some ⟨g, i * 8, none⟩) (c - i) sc]).run Tryz.prog W1.drew = .ok (goInt ((c - i : Nat) : Int)) (W1.drew.setCells w.heap.size ((i + 1) * 8) ((nums zs).drop (i * 8))) := fun ty dc sc =>
      run_copy_cellsN W1.drew _ _ ty 48 8 (c - i) w.heap.size ((i + 1) * 8) (c - i) dc ⟨g, i * 8, none⟩ (c - i) sc ((nums zs).drop (i * 8)) Tryz.underlying31 hsz (by simp only [Nat.min_def]; split <;> omega) hdl
       (fun j u hj => by rw [Addr.add_lit]; exact hcel1 j u hj) (fun j hj => by rw [show W1.drew.cell? ⟨w.heap.size, (i + 1) * 8 + j, none⟩ = _ from hrow1.cell (i := (i + 1) * 8 + j) (by omega)]; rfl) (fun j hj => hrow1.frozen ((i + 1) * 8 + j)) hone
     have hrow2 := rowIs_setCells ((nums zs).drop (i * 8)) ((i + 1) * 8) W1.drew _ hrow1
     have hbel2 := below_setCells (b := w.heap.size) (Nat.le_refl w.heap.size) ((nums zs).drop (i * 8)) ((i + 1) * 8) W1.drew hbel1.drew
     have HF := Lib.hid (show (W1.drew.setCells w.heap.size ((i + 1) * 8) ((nums zs).drop (i * 8))).ownsRow X 48 8 (.slice (some ⟨w.heap.size, 0, none⟩) (c + 1) G) (c + 1) (nums (insR zs i p0 p1 p2 p3 p4 p5 p6 p7)) from own_of_rowN hrow2 hX hGn hGm (insR_len hzl hi p0 p1 p2 p3 p4 p5 p6 p7) (fun x hx => by
      rcases (show x < i * 8 ∨ (∃ j, j < 8 ∧ x = i * 8 + j) ∨ ∃ j, j < (c - i) * 8 ∧ x = i * 8 + 8 + j from by
       rcases Nat.lt_or_ge x (i * 8) with a | a
       · exact .inl a
       · rcases Nat.lt_or_ge x (i * 8 + 8) with b | b
         · exact .inr (.inl ⟨x - i * 8, by omega, by omega⟩)
         · exact .inr (.inr ⟨x - (i * 8 + 8), by omega, by omega⟩)) with h1 | ⟨j, h1, rfl⟩ | ⟨j, h1, rfl⟩
      · rw [insR_lo hzl hi p0 p1 p2 p3 p4 p5 p6 p7 h1, if_neg (by omega), if_neg (by omega), hRt x h1]
        rfl
      · rw [insR_at hzl hi p0 p1 p2 p3 p4 p5 p6 p7 h1, if_neg (by omega), if_pos (by simp; omega), Nat.add_sub_cancel_left]
        rcases (show j = 0 ∨ j = 1 ∨ j = 2 ∨ j = 3 ∨ j = 4 ∨ j = 5 ∨ j = 6 ∨ j = 7 by omega) with rfl | rfl | rfl | rfl | rfl | rfl | rfl | rfl <;> rfl
      · rw [insR_hi hzl hi p0 p1 p2 p3 p4 p5 p6 p7 j, if_pos (by rw [hdl]; omega), List.getElem?_drop, show i * 8 + (i * 8 + 8 + j - (i + 1) * 8) = i * 8 + j by omega, nums_get (by omega)]
        rfl))
     have HG := Lib.hid (show w.grownBy (W1.drew.setCells w.heap.size ((i + 1) * 8) ((nums zs).drop (i * 8))) (Value.slice (some ⟨g, 0, none⟩) c c).ownBlock from ⟨hbel2.os, hbel2.tape, hbel2.output, hbel2.size, fun k hk _ => hbel2.block k hk⟩)
     have hGi : ¬ (G = i) := by omega
     have hGim : ¬ (G = i + 1) := by omega
     have hb1 : (0 : Int) ≤ (i : Int) + 1 := by omega
     have hb3 : (i : Int) ≤ (c : Int) := by omega
     have hGL := hGm
     unfold maxLen at hGL
     clear hrow1 hrow2 hrow0 hbel1 hbel2 hbel hcel hcel1 hF hown hrow hvc0 hb0 hold hROW hG hRt hRl hik hkk hGm hvc hvb hZs
     go_enter Tryz.func90, Tryz.ntmps90
     go_wp2_with (first
      | (at_builtin; refine Lib.wpList_append_run _ rfl _ _ _ _ rfl _ _ rfl rfl _ _ (hrz _) ?_)
      | (at_builtin; refine wpList_copy_runI _ rfl _ _ 31 31 rfl _ _ rfl rfl (hcpA _ _) ?_))
     go_region_law_o (refine step_copy_runI rfl _ _ 31 31 rfl _ _ (by simp [Act.eval, Act.put]) (by simp [Act.eval, Act.put]) (hcpB _ _ _) ?_)
     go_wp2
     go_ret
     exact ⟨⟨_, rfl, HF.out⟩, HG.out⟩
 · have hsp : c = i ∨ (i < c ∧ ¬ (c = i)) := by omega
   have hins : insR zs i p0 p1 p2 p3 p4 p5 p6 p7 = zs ++ [p0, p1, p2, p3, p4, p5, p6, p7] := by
    unfold insR
    rw [← hzl, List.take_length, List.drop_length, List.append_nil]
   have HI := Lib.hid hins
   clear hins
   have hw1 : ∀ j u, ([.int .i64 p0, .int .i64 p1, .int .i64 p2, .int .i64 p3, .int .i64 p4, .int .i64 p5, .int .i64 p6, .int .i64 p7] : List Value)[j]? = some u → w.cell? ((⟨vb, 0, none⟩ : Addr).add j) = some u := fun j u h => by rw [Addr.add_lit, Nat.zero_add]; exact hvc j u h
   have hw2 : ∀ u ∈ ([.int .i64 p0, .int .i64 p1, .int .i64 p2, .int .i64 p3, .int .i64 p4, .int .i64 p5, .int .i64 p6, .int .i64 p7] : List Value), u.oneCell' = true := by intro u hu; simp at hu; rcases hu with rfl | rfl | rfl | rfl | rfl | rfl | rfl | rfl <;> rfl
   have hw3 : i + 1 ≤ maxLen := by unfold maxLen; omega
   rcases hsp with rfl | ⟨hci, hci'⟩
   · go_enter Tryz.func90, Tryz.ntmps90
     go_wp2_with (at_builtin; refine wpList_append_own_at _ rfl _ _ 31 rfl X 48 i0 _ 8 64 Tryz.underlying31 hi0 hz0 hz1 hz2 rfl (by decide) _ _ _ rfl hown ⟨vb, 0, none⟩ 1 1 [.int .i64 p0, .int .i64 p1, .int .i64 p2, .int .i64 p3, .int .i64 p4, .int .i64 p5, .int .i64 p6, .int .i64 p7] rfl rfl hw1 hw2 hw3 (by omega) hX ?_)
     intro v' w2 hown2 hgrow2 _ _
     have HO := Lib.hid hown2
     obtain ⟨A2, d2, rfl, _, _⟩ := oSl hown2
     clear hown2
     go_wp2_with fail
     go_ret
     exact ⟨⟨_, rfl, by rw [HI.out, nums_append]; exact HO.out⟩, hgrow2⟩
   · go_enter Tryz.func90, Tryz.ntmps90
     go_wp2_with (at_builtin; refine wpList_append_own_at _ rfl _ _ 31 rfl X 48 i0 _ 8 64 Tryz.underlying31 hi0 hz0 hz1 hz2 rfl (by decide) _ _ _ rfl hown ⟨vb, 0, none⟩ 1 1 [.int .i64 p0, .int .i64 p1, .int .i64 p2, .int .i64 p3, .int .i64 p4, .int .i64 p5, .int .i64 p6, .int .i64 p7] rfl rfl hw1 hw2 hw3 (by omega) hX ?_)
     intro v' w2 hown2 hgrow2 _ _
     have HO := Lib.hid hown2
     obtain ⟨A2, d2, rfl, _, _⟩ := oSl hown2
     clear hown2
     go_wp2_with fail
     go_ret
     exact ⟨⟨_, rfl, by rw [HI.out, nums_append]; exact HO.out⟩, hgrow2⟩
end Go.Proofs.YtgjjdnojiegidaaGreatDoor

namespace Go.Proofs.YtgjjdnojiegidaaGreatDoor
open Go.RowKit Wire
set_option maxHeartbeats 6400000
set_option maxRecDepth 100000
set_option linter.unusedSimpArgs false
set_option linter.unusedVariables false

theorem cmd_cell {w : World} {S : Nat} {k0 k1 k2 k3 k4 k5 k6 k7 : Value} {T : TypeId} (h : w.heap[S]? = some (.cells #[k0, k1, k2, k3, k4, k5, k6, k7] T (0, 0))) : w.cell? ⟨S, 0, none⟩ = some k0 ∧ w.cell? ⟨S, 1, none⟩ = some k1 ∧ w.cell? ⟨S, 2, none⟩ = some k2 ∧ w.cell? ⟨S, 3, none⟩ = some k3 ∧ w.cell? ⟨S, 4, none⟩ = some k4 ∧ w.cell? ⟨S, 5, none⟩ = some k5 ∧ w.cell? ⟨S, 6, none⟩ = some k6 ∧ w.cell? ⟨S, 7, none⟩ = some k7 := by
 refine ⟨?_, ?_, ?_, ?_, ?_, ?_, ?_, ?_⟩ <;> simp [World.cell?, h]
theorem find_same {bk : Bool} {za zb : List Int} {n m : Nat} {id s t : Int} {f g : Nat → Int} {ok is : Bool} (h : FindRel bk za n zb m id s f ok) (k : FindRel bk za n zb m id t g is) : t = s ∧ is = ok ∧ g 0 = f 0 ∧ g 1 = f 1 ∧ g 2 = f 2 ∧ g 3 = f 3 := by
 obtain ⟨h1, h2, h3⟩ := k.one h
 exact ⟨h1, h2, h3 0 (by omega), h3 1 (by omega), h3 2 (by omega), h3 3 (by omega)⟩
def erV (Ad : Nat → Addr) (c : Nat) : Value := if c = 0 then .nilIface else .iface 164 (.pointer (some (Ad c)))
theorem erV_no (Ad : Nat → Addr) : erV Ad 0 = .nilIface := rfl
theorem erV_at (Ad : Nat → Addr) {c : Nat} (h : c ≠ 0) : erV Ad c = .iface 164 (.pointer (some (Ad c))) := if_neg h
theorem impl_reasonOld (A : Option Addr) (n c : Nat) (B : Option Addr) (m d : Nat) (za zb : List Int) (k sy ac id sd pr qt md : Int) (Ad : Nat → Addr) (w : World) (ha : Lst w w.heap.size 4 A n za) (hb : Lst w w.heap.size 4 B m zb) (hn : n ≤ 1048576) (hm : m ≤ 1048576) (hE : Errs w Ad) (s : Int) (f : Nat → Int) (ok : Bool) (HF : Hid (FindRel (bookB za n zb m) za n zb m id s f ok)) :
 Calls Tryz.prog 75 #[.agg #[.slice A n c, .slice B m d], .agg #[.int .i64 k, .int .i64 sy, .int .i64 ac, .int .i64 id, .int .i64 sd, .int .i64 pr, .int .i64 qt, .int .i64 md]] w fun e w' => e = .returned (erV Ad (whyO ok (f 1) ac)) ∧ Below w.heap.size w w' := by
 obtain ⟨kB, kC⟩ := two_blocks w (.cells #[.slice A n c, .slice B m d] 30) (.cells #[.int .i64 k, .int .i64 sy, .int .i64 ac, .int .i64 id, .int .i64 sd, .int .i64 pr, .int .i64 qt, .int .i64 md] 35)
 have D : Below w.heap.size w ((w.alloc (.cells #[.slice A n c, .slice B m d] 30)).alloc (.cells #[.int .i64 k, .int .i64 sy, .int .i64 ac, .int .i64 id, .int .i64 sd, .int .i64 pr, .int .i64 qt, .int .i64 md] 35)) := ((Below.refl _ _).alloc (Nat.le_refl _) _).alloc (by simp) _
 replace ha := ha.later D
 replace hb := hb.later D
 replace hE := hE.below D
 go_enter Tryz.func75, Tryz.ntmps75
 go_wp2_with fail
 generalize ((w.alloc (.cells #[.slice A n c, .slice B m d] 30)).alloc (.cells #[.int .i64 k, .int .i64 sy, .int .i64 ac, .int .i64 id, .int .i64 sd, .int .i64 pr, .int .i64 qt, .int .i64 md] 35)) = w0 at *
 refine (impl_Find A n c B m d za zb id w0 ha hb hn hm).mono ?_
 rintro e w1 ⟨⟨s', f', ok', hrel, rfl⟩, hb1⟩
 obtain ⟨rfl, rfl, e0, e1, e2, e3⟩ := find_same HF.out hrel
 rw [e0, e1, e2, e3]
 replace ha := ha.later hb1
 replace hb := hb.later hb1
 replace hE := hE.below hb1
 replace kB := bk1 hb1 kB
 replace kC := bk1 hb1 kC
 replace D := D.trans (hb1.mono D.size)
 clear hb1 e0 e1 e2 e3 hrel
 obtain ⟨f0, hf0⟩ : ∃ x, f 0 = x := ⟨_, rfl⟩
 obtain ⟨f1, hf1⟩ : ∃ x, f 1 = x := ⟨_, rfl⟩
 obtain ⟨f2, hf2⟩ : ∃ x, f 2 = x := ⟨_, rfl⟩
 obtain ⟨f3, hf3⟩ : ∃ x, f 3 = x := ⟨_, rfl⟩
 rw [hf0, hf1, hf2, hf3]
 have HF1 := Lib.hid hf1
 clear hf0 hf1 hf2 hf3
 go_upto_region 2 with fail
 have kO := heap_alloc_new w1 (.cells #[.int .i64 f0, .int .i64 f1, .int .i64 f2, .int .i64 f3] 65)
 have hba : Below w1.heap.size w1 (w1.alloc (.cells #[.int .i64 f0, .int .i64 f1, .int .i64 f2, .int .i64 f3] 65)) := (Below.refl _ _).alloc (Nat.le_refl _) _
 replace ha := ha.later hba
 replace hb := hb.later hba
 replace hE := hE.below hba
 replace kB := bk1 hba kB
 replace kC := bk1 hba kC
 replace D := D.trans (hba.mono D.size)
 clear hba
 generalize w1.alloc (.cells #[.int .i64 f0, .int .i64 f1, .int .i64 f2, .int .i64 f3] 65) = w2 at *
 generalize w1.heap.size = XO at *
 obtain ⟨o0, o1, o2, o3⟩ := rrcell4 kO
 obtain ⟨c0, c1, c2, c3, c4, c5, c6, c7⟩ := cmd_cell kC
 have v4 := hE.var 4 (by decide) (by decide)
 simp only [gE] at v4
 cases ok'
 · go_wp2_with fail
   go_ret
   exact ⟨by rw [whyO_no]; rfl, D⟩
 · by_cases hf : f1 = ac
   · have hff : (f1 != ac) = false := by simp [hf]
     have HW := Lib.hid (whyO_yes (HF1.out.trans hf))
     clear hf
     go_wp2_with fail
     go_ret
     exact ⟨by rw [HW.out]; rfl, D⟩
   · have hff : (f1 != ac) = true := by simp [hf]
     have HW := Lib.hid (whyO_not (fun e => hf (HF1.out.symm.trans e)))
     clear hf
     go_wp2_with fail
     go_ret
     exact ⟨by rw [HW.out]; rfl, D⟩
theorem impl_hasRoom (A : Option Addr) (n c : Nat) (B : Option Addr) (m d : Nat) (za zb : List Int) (sd : Int) (w : World) (ha : Lst w w.heap.size 4 A n za) (hb : Lst w w.heap.size 4 B m zb) (hn : n ≤ 1048576) (hm : m ≤ 1048576) :
 Calls Tryz.prog 93 #[.agg #[.slice A n c, .slice B m d], .int .i64 sd] w fun e w' => e = .returned (.bool (decide (sideN (bookB za n zb m) sd n m < 20))) ∧ Below w.heap.size w w' := by
 have hD : Below w.heap.size w (w.alloc (.cells #[.slice A n c, .slice B m d] 30)) := (Below.refl _ _).alloc (Nat.le_refl _) _
 go_enter Tryz.func93, Tryz.ntmps93
 go_wp2_with fail
 refine (impl_Side A n c B m d za zb sd _ (ha.later hD) (hb.later hD) hn hm).mono ?_
 rintro e w1 ⟨⟨r, rfl, hr⟩, hb1⟩
 obtain ⟨Ar, cr, rfl, hnc, hcm⟩ := oSl hr
 have HB := Lib.hid (ord_later hD hb1)
 clear hr hb1 hD hnc hcm
 generalize hN : sideN (bookB za n zb m) sd n m = N at *
 have HN := Lib.hid hN
 clear hN
 go_wp2_with fail
 go_ret
 exact ⟨congrArg (fun b => Ending.returned (.bool b)) (decide_eq_decide.2 (by rw [HN.out]; omega)), HB.out⟩
theorem impl_toRest (k : Int) (w : World) :
 Calls Tryz.prog 92 #[.int .i64 k] w fun e w' => e = .returned (.bool (decide (k = 1) || decide (k = 5))) ∧ w' = w := by
 go_enter Tryz.func92, Tryz.ntmps92
 by_cases h1 : k = 1
 · have e1 : (k == 1) = true := beq_iff_eq.2 h1
   have H := Lib.hid h1
   clear h1
   go_wp2_with fail
   go_ret
   exact ⟨by rw [decide_eq_true H.out]; rfl, rfl⟩
 · have e1 : (k == 1) = false := by simp [h1]
   have H := Lib.hid h1
   clear h1
   go_wp2_with fail
   go_ret
   exact ⟨by rw [decide_eq_false H.out]; rfl, rfl⟩
theorem impl_orderOf (k sy ac id sd pr qt md : Int) (w : World) :
 Calls Tryz.prog 89 #[.agg #[.int .i64 k, .int .i64 sy, .int .i64 ac, .int .i64 id, .int .i64 sd, .int .i64 pr, .int .i64 qt, .int .i64 md]] w fun e w' => e = .returned (.agg #[.int .i64 id, .int .i64 ac, .int .i64 pr, .int .i64 qt]) ∧ Below w.heap.size w w' := by
 go_enter Tryz.func89, Tryz.ntmps89
 go_wp2_with fail
 exact bodyPost_ret (v := .agg #[.int .i64 id, .int .i64 ac, .int .i64 pr, .int .i64 qt]) (by simp [results, Tryz.results89, go_sem]) rfl ⟨rfl, by go_grown⟩
end Go.Proofs.YtgjjdnojiegidaaGreatDoor

namespace Go.Proofs.YtgjjdnojiegidaaGreatDoor
open Go.RowKit Wire
set_option maxHeartbeats 6400000
set_option maxRecDepth 100000
set_option linter.unusedSimpArgs false
set_option linter.unusedVariables false

theorem impl_reasonNew (A : Option Addr) (n c : Nat) (B : Option Addr) (m d : Nat) (za zb : List Int) (k sy ac id sd pr qt md : Int) (Ad : Nat → Addr) (w : World) (ha : Lst w w.heap.size 4 A n za) (hb : Lst w w.heap.size 4 B m zb) (hn : n ≤ 1048576) (hm : m ≤ 1048576) (hE : Errs w Ad) (s : Int) (f : Nat → Int) (ok : Bool) (HF : Hid (FindRel (bookB za n zb m) za n zb m id s f ok)) (HBK : Hid (bookB za n zb m = true)) :
 Calls Tryz.prog 76 #[.agg #[.slice A n c, .slice B m d], .agg #[.int .i64 k, .int .i64 sy, .int .i64 ac, .int .i64 id, .int .i64 sd, .int .i64 pr, .int .i64 qt, .int .i64 md]] w fun e w' => e = .returned (erV Ad (whyN ok k ac id sd pr qt md za n zb m)) ∧ Below w.heap.size w w' := by
 obtain ⟨kB, kC⟩ := two_blocks w (.cells #[.slice A n c, .slice B m d] 30) (.cells #[.int .i64 k, .int .i64 sy, .int .i64 ac, .int .i64 id, .int .i64 sd, .int .i64 pr, .int .i64 qt, .int .i64 md] 35)
 have D : Below w.heap.size w ((w.alloc (.cells #[.slice A n c, .slice B m d] 30)).alloc (.cells #[.int .i64 k, .int .i64 sy, .int .i64 ac, .int .i64 id, .int .i64 sd, .int .i64 pr, .int .i64 qt, .int .i64 md] 35)) := ((Below.refl _ _).alloc (Nat.le_refl _) _).alloc (by simp) _
 replace ha := ha.later D
 replace hb := hb.later D
 replace hE := hE.below D
 go_enter Tryz.func76, Tryz.ntmps76
 go_wp2_with fail
 generalize ((w.alloc (.cells #[.slice A n c, .slice B m d] 30)).alloc (.cells #[.int .i64 k, .int .i64 sy, .int .i64 ac, .int .i64 id, .int .i64 sd, .int .i64 pr, .int .i64 qt, .int .i64 md] 35)) = w0 at *
 refine (impl_hasOrder A n c B m d za zb id w0 ha hb hn hm).mono ?_
 rintro e w1 ⟨⟨s', f', ok', hrel, rfl⟩, hb1⟩
 obtain ⟨rfl, rfl, -, -, -, -⟩ := find_same HF.out hrel
 replace ha := ha.later hb1
 replace hb := hb.later hb1
 replace hE := hE.below hb1
 replace kB := bk1 hb1 kB
 replace kC := bk1 hb1 kC
 replace D := D.trans (hb1.mono D.size)
 clear hb1 hrel
 obtain ⟨c0, c1, c2, c3, c4, c5, c6, c7⟩ := cmd_cell kC
 obtain ⟨p0, p1⟩ := rcell2 kB
 have hlB := hlT kB
 have hlC := hlT kC
 have v3 := hE.var 3 (by decide) (by decide)
 simp only [gE] at v3
 cases ok'
 rotate_left
 · go_wp2_with fail
   go_ret
   exact ⟨by rw [whyN, if_pos rfl]; rfl, D⟩
 clear v3
 by_cases h4 : k = 4
 · have H4 := Lib.hid h4
   have e4 : (k == 4) = true := by simp [h4]
   clear h4
   go_upto_region 3 with fail
   refine wp_region_held_drew (S := (fun w' => Below w1.heap.size w1 w')) (by kernel_rfl) ?hSm1 (fun zH => ?restm1)
   case hSm1 => exact (Below.refl _ _).drew
   refine tkV 0 ?_
   refine tkY 1 (hy := by ((intro wS hSw; have t0 := (hSw.cell (p := ⟨w.heap.size + 1, 0, none⟩) hlC).trans c0; go_simp) <;> with_reducible rfl)) (h := ?_)
   refine tkV 2 ?_
   refine tkV 3 ?_
   refine tkY 4 (hy := by ((intro wS hSw; have t0 := (hSw.cell (p := ⟨w.heap.size, 0, none⟩) hlB).trans p0; have t1 := (hSw.cell (p := ⟨w.heap.size, 1, none⟩) hlB).trans p1; go_simp) <;> with_reducible rfl)) (h := ?_)
   refine tkV 5 ?_
   refine tkY 6 (hy := by ((intro wS hSw; have t4 := (hSw.cell (p := ⟨w.heap.size + 1, 4, none⟩) hlC).trans c4; go_simp) <;> with_reducible rfl)) (h := ?_)
   refine tkY 7 (hy := by ((intro wS hSw; have t0 := (hSw.cell (p := ⟨w.heap.size + 1, 0, none⟩) hlC).trans c0; have t1 := (hSw.cell (p := ⟨w.heap.size + 1, 1, none⟩) hlC).trans c1; have t2 := (hSw.cell (p := ⟨w.heap.size + 1, 2, none⟩) hlC).trans c2; have t3 := (hSw.cell (p := ⟨w.heap.size + 1, 3, none⟩) hlC).trans c3; have t4 := (hSw.cell (p := ⟨w.heap.size + 1, 4, none⟩) hlC).trans c4; have t5 := (hSw.cell (p := ⟨w.heap.size + 1, 5, none⟩) hlC).trans c5; have t6 := (hSw.cell (p := ⟨w.heap.size + 1, 6, none⟩) hlC).trans c6; have t7 := (hSw.cell (p := ⟨w.heap.size + 1, 7, none⟩) hlC).trans c7; go_simp) <;> with_reducible rfl)) (h := ?_)
   refine tkV 9 ?_
   refine tkY 10 (hy := by ((intro wS hSw; have t7 := (hSw.cell (p := ⟨w.heap.size + 1, 7, none⟩) hlC).trans c7; go_simp) <;> with_reducible rfl)) (h := ?_)
   refine rd1 8 (fun K hK => ?_)
   go_simp
   refine (impl_orderOf k sy ac id sd pr qt md _).mono ?_
   rintro e v8 ⟨rfl, hbc⟩
   have hv8 := zH.trans (hbc.mono zH.size)
   refine hK.out _ _ (hv8) (fun zH => ?_)
   clear hK K
   try simp only [Act.put, sA, sB, sC]
   refine rd1 11 (fun K hK => ?_)
   go_simp
   refine (impl_CanFill A n c B m d za zb sd id ac pr qt md _ (ha.later zH) (hb.later zH) hn hm).mono ?_
   rintro e v11 ⟨rfl, hbc⟩
   have hv11 := zH.trans (hbc.mono zH.size)
   generalize hcb : canB (rgB za n zb m sd id ac pr qt md) sd id ac pr qt md za zb = cb at *
   refine hK.out _ _ (hv11) (fun zH => ?_)
   clear hK K
   try simp only [Act.put, sA, sB, sC]
   refine tkV 12 ?_
   refine tkV 13 ?_
   refine tkV 14 ?_
   refine dn1 ?_
   have hNx := zH
   clear c0 c1 c2 c3 c4 c5 c6 c7 p0 p1 hlB hlC
   replace ha := ha.later hNx
   replace hb := hb.later hNx
   replace hE := hE.below hNx
   replace kB := bk1 hNx kB
   replace kC := bk1 hNx kC
   replace D := D.trans (hNx.mono D.size)
   have HCB := Lib.hid hcb
   clear hcb hNx zH
   cases cb
   · have v6 := hE.var 6 (by decide) (by decide)
     simp only [gE] at v6
     go_wp2_with fail
     go_ret
     exact ⟨by rw [whyN, if_neg (by decide), if_pos ⟨H4.out, HCB.out⟩]; rfl, D⟩
   generalize v11 = wa at *
   obtain ⟨c0, c1, c2, c3, c4, c5, c6, c7⟩ := cmd_cell kC
   obtain ⟨p0, p1⟩ := rcell2 kB
   have hlB := hlT kB
   have hlC := hlT kC
   have e5 : (k == 5) = false := by simp [H4.out]
   go_wp2_with fail
   go_ret
   exact ⟨by rw [whyN, if_neg (by decide), if_neg (fun h => by rw [HCB.out] at h; exact absurd h.2 (by decide)), if_neg (fun h => by have := H4.out; omega), if_neg (fun h => by have := H4.out; omega)]; rfl, D⟩
 · have H4 := Lib.hid h4
   have e4 : (k == 4) = false := by simp [h4]
   clear h4
   go_upto_region 3 with fail
   refine wp_region_held_drew (S := (fun w' => Below w1.heap.size w1 w')) (by kernel_rfl) ?hSm17 (fun zH => ?restm17)
   case hSm17 => exact (Below.refl _ _).drew
   refine tkV 0 ?_
   refine tkY 1 (hy := by ((intro wS hSw; have t0 := (hSw.cell (p := ⟨w.heap.size + 1, 0, none⟩) hlC).trans c0; go_simp) <;> with_reducible rfl)) (h := ?_)
   refine tkV 2 ?_
   refine tkV 3 ?_
   refine hdN 4 ?_
   refine hdN 5 ?_
   refine hdN 6 ?_
   refine hdN 7 ?_
   refine hdN 9 ?_
   refine hdN 10 ?_
   refine rd1 8 (fun K hK => ?_)
   go_simp
   refine hK.out _ _ (zH) (fun zH => ?_)
   clear hK K
   try simp only [Act.put, sA, sB, sC]
   refine rd1 11 (fun K hK => ?_)
   go_simp
   refine hK.out _ _ (zH) (fun zH => ?_)
   clear hK K
   try simp only [Act.put, sA, sB, sC]
   refine hdN 12 ?_
   refine tkV 13 ?_
   refine tkV 14 ?_
   refine dn1 ?_
   have hNx := zH
   clear c0 c1 c2 c3 c4 c5 c6 c7 p0 p1 hlB hlC
   replace ha := ha.later hNx
   replace hb := hb.later hNx
   replace hE := hE.below hNx
   replace kB := bk1 hNx kB
   replace kC := bk1 hNx kC
   replace D := D.trans (hNx.mono D.size)
   clear hNx zH
   generalize w1.drew = wa at *
   obtain ⟨c0, c1, c2, c3, c4, c5, c6, c7⟩ := cmd_cell kC
   obtain ⟨p0, p1⟩ := rcell2 kB
   have hlB := hlT kB
   have hlC := hlT kC
   by_cases h5 : k = 5
   · have H5 := Lib.hid h5
     have e5 : (k == 5) = true := by simp [h5]
     clear h5
     go_wp2_with fail
     refine (impl_Crossing A n c B m d za zb sd pr wa ha hb hn hm).mono ?_
     rintro e w5 ⟨⟨r, rfl, hcr⟩, hb5⟩
     rw [HBK.out] at hcr
     clear c0 c1 c2 c3 c4 c5 c6 c7 p0 p1 hlB hlC
     replace ha := ha.later hb5
     replace hb := hb.later hb5
     replace hE := hE.below hb5
     replace kB := bk1 hb5 kB
     replace kC := bk1 hb5 kC
     replace D := D.trans (hb5.mono D.size)
     clear hb5
     obtain ⟨Ar, cr, rfl, -, -⟩ := oSl hcr
     clear hcr
     obtain ⟨cx, hcx⟩ : ∃ x, crN true sd pr za zb n m = x := ⟨_, rfl⟩
     have HCX := Lib.hid hcx
     rw [hcx]
     clear hcx
     obtain ⟨c0, c1, c2, c3, c4, c5, c6, c7⟩ := cmd_cell kC
     obtain ⟨p0, p1⟩ := rcell2 kB
     have hlB := hlT kB
     have hlC := hlT kC
     by_cases hp : 0 < cx
     · have hpc : decide ((0 : Int) < (cx : Int)) = true := decide_eq_true (by omega)
       have HP := Lib.hid hp
       have v5 := hE.var 5 (by decide) (by decide)
       simp only [gE] at v5
       go_wp2_with fail
       go_ret
       exact ⟨by rw [whyN, if_neg (by decide), if_neg (fun h => H4.out h.1), if_pos ⟨H5.out, by rw [HCX.out]; exact HP.out⟩]; rfl, D⟩
     have hpc : decide ((0 : Int) < (cx : Int)) = false := decide_eq_false (by omega)
     have HP := Lib.hid hp
     have hp0 : cx = 0 := by omega
     go_wp2_with fail
     refine (impl_hasRoom A n c B m d za zb sd w5 ha hb hn hm).mono ?_
     rintro e w7 ⟨rfl, hb7⟩
     rw [HBK.out]
     clear c0 c1 c2 c3 c4 c5 c6 c7 p0 p1 hlB hlC
     replace ha := ha.later hb7
     replace hb := hb.later hb7
     replace hE := hE.below hb7
     replace kB := bk1 hb7 kB
     replace kC := bk1 hb7 kC
     replace D := D.trans (hb7.mono D.size)
     clear hb7 hpc hp hp0
     obtain ⟨rm, hrm⟩ : ∃ x, sideN true sd n m = x := ⟨_, rfl⟩
     have HRM := Lib.hid hrm
     rw [hrm]
     clear hrm
     obtain ⟨c0, c1, c2, c3, c4, c5, c6, c7⟩ := cmd_cell kC
     obtain ⟨p0, p1⟩ := rcell2 kB
     have hlB := hlT kB
     have hlC := hlT kC
     by_cases hp : rm < 20
     · rw [decide_eq_true hp]
       have HQ := Lib.hid hp
       clear hp
       go_wp2_with fail
       go_ret
       exact ⟨by rw [whyN, if_neg (by decide), if_neg (fun h => H4.out h.1), if_neg (fun h => HP.out (by rw [← HCX.out]; exact h.2)), if_neg (fun h => h.2 (by rw [HRM.out]; exact HQ.out))]; rfl, D⟩
     · rw [decide_eq_false hp]
       have HQ := Lib.hid hp
       clear hp
       have v7 := hE.var 7 (by decide) (by decide)
       simp only [gE] at v7
       go_wp2_with fail
       go_ret
       exact ⟨by rw [whyN, if_neg (by decide), if_neg (fun h => H4.out h.1), if_neg (fun h => HP.out (by rw [← HCX.out]; exact h.2)), if_pos ⟨H5.out, by rw [HRM.out]; exact HQ.out⟩]; rfl, D⟩
   · have H5 := Lib.hid h5
     have e5 : (k == 5) = false := by simp [h5]
     clear h5
     go_wp2_with fail
     go_ret
     exact ⟨by rw [whyN, if_neg (by decide), if_neg (fun h => H4.out h.1), if_neg (fun h => H5.out h.1), if_neg (fun h => H5.out h.1)]; rfl, D⟩
end Go.Proofs.YtgjjdnojiegidaaGreatDoor

namespace Go.Proofs.YtgjjdnojiegidaaGreatDoor
open Go.RowKit Wire
set_option maxHeartbeats 6400000
set_option maxRecDepth 100000
set_option linter.unusedSimpArgs false
set_option linter.unusedVariables false

theorem rcell8 {w : World} {S : Nat} {k0 k1 k2 k3 k4 k5 k6 k7 : Value} {T : TypeId} (h : w.heap[S]? = some (.cells #[k0, k1, k2, k3, k4, k5, k6, k7] T (0, 0))) : w.cell? ⟨S, 0, none⟩ = some k0 ∧ w.cell? ⟨S, 1, none⟩ = some k1 ∧ w.cell? ⟨S, 2, none⟩ = some k2 ∧ w.cell? ⟨S, 3, none⟩ = some k3 ∧ w.cell? ⟨S, 4, none⟩ = some k4 ∧ w.cell? ⟨S, 5, none⟩ = some k5 ∧ w.cell? ⟨S, 6, none⟩ = some k6 ∧ w.cell? ⟨S, 7, none⟩ = some k7 ∧
 w.frozen? ⟨S, 0, none⟩ = false ∧ w.frozen? ⟨S, 1, none⟩ = false ∧ w.frozen? ⟨S, 2, none⟩ = false ∧ w.frozen? ⟨S, 3, none⟩ = false ∧ w.frozen? ⟨S, 4, none⟩ = false ∧ w.frozen? ⟨S, 5, none⟩ = false ∧ w.frozen? ⟨S, 6, none⟩ = false ∧ w.frozen? ⟨S, 7, none⟩ = false := by
 refine ⟨?_, ?_, ?_, ?_, ?_, ?_, ?_, ?_, ?_, ?_, ?_, ?_, ?_, ?_, ?_, ?_⟩ <;> simp [World.cell?, World.frozen?, h]
theorem rset8 {w : World} {S : Nat} {k0 k1 k2 k3 k4 k5 k6 k7 u0 u1 u2 u3 u4 u5 u6 u7 : Value} {T : TypeId} (h : w.heap[S]? = some (.cells #[k0, k1, k2, k3, k4, k5, k6, k7] T (0, 0))) :
 ((((((((w.setCell ⟨S, 0, none⟩ u0).setCell ⟨S, 1, none⟩ u1).setCell ⟨S, 2, none⟩ u2).setCell ⟨S, 3, none⟩ u3).setCell ⟨S, 4, none⟩ u4).setCell ⟨S, 5, none⟩ u5).setCell ⟨S, 6, none⟩ u6).setCell ⟨S, 7, none⟩ u7).heap[S]? = some (.cells #[u0, u1, u2, u3, u4, u5, u6, u7] T (0, 0)) := by
 simp [World.setCell, Array.getElem?_modify, h]
theorem rbelow8 {B S : Nat} {w w' : World} (h : Below B w w') (hS : B ≤ S) (u0 u1 u2 u3 u4 u5 u6 u7 : Value) :
 Below B w ((((((((w'.setCell ⟨S, 0, none⟩ u0).setCell ⟨S, 1, none⟩ u1).setCell ⟨S, 2, none⟩ u2).setCell ⟨S, 3, none⟩ u3).setCell ⟨S, 4, none⟩ u4).setCell ⟨S, 5, none⟩ u5).setCell ⟨S, 6, none⟩ u6).setCell ⟨S, 7, none⟩ u7) := by
 have h0 := h.setCell (p := ⟨S, 0, none⟩) hS u0
 have h1 := h0.setCell (p := ⟨S, 1, none⟩) hS u1
 have h2 := h1.setCell (p := ⟨S, 2, none⟩) hS u2
 have h3 := h2.setCell (p := ⟨S, 3, none⟩) hS u3
 have h4 := h3.setCell (p := ⟨S, 4, none⟩) hS u4
 have h5 := h4.setCell (p := ⟨S, 5, none⟩) hS u5
 have h6 := h5.setCell (p := ⟨S, 6, none⟩) hS u6
 exact h6.setCell (p := ⟨S, 7, none⟩) hS u7
theorem rset_at2 {w : World} {S : Nat} {k0 k1 k2 k3 k4 k5 k6 k7 u : Value} {T : TypeId} (h : w.heap[S]? = some (.cells #[k0, k1, k2, k3, k4, k5, k6, k7] T (0, 0))) : (w.setCell ⟨S, 2, none⟩ u).heap[S]? = some (.cells #[k0, k1, u, k3, k4, k5, k6, k7] T (0, 0)) := by
 simp [World.setCell, Array.getElem?_modify, h]
theorem rset1 {w : World} {S : Nat} {a u : Value} {T : TypeId} (h : w.heap[S]? = some (.cells #[a] T (0, 0))) : (w.setCell ⟨S, 0, none⟩ u).heap[S]? = some (.cells #[u] T (0, 0)) := by
 simp [World.setCell, Array.getElem?_modify, h]
theorem rset_other {w : World} {S g i : Nat} {o : Obj} {u : Value} (h : w.heap[S]? = some o) (hne : g ≠ S) : (w.setCell ⟨g, i, none⟩ u).heap[S]? = some o := by
 rw [← h]
 simp [World.setCell, Array.getElem?_modify, hne]
theorem impl_reasonAgainst (A : Option Addr) (n c : Nat) (B : Option Addr) (m d : Nat) (za zb : List Int) (k sy ac id sd pr qt md : Int) (Ad : Nat → Addr) (w : World) (ha : Lst w w.heap.size 4 A n za) (hb : Lst w w.heap.size 4 B m zb) (hn : n ≤ 1048576) (hm : m ≤ 1048576) (hE : Errs w Ad) (s : Int) (f : Nat → Int) (ok : Bool) (HF : Hid (FindRel (bookB za n zb m) za n zb m id s f ok)) (HBK : Hid (bookB za n zb m = true)) :
 Calls Tryz.prog 50 #[.agg #[.slice A n c, .slice B m d], .agg #[.int .i64 k, .int .i64 sy, .int .i64 ac, .int .i64 id, .int .i64 sd, .int .i64 pr, .int .i64 qt, .int .i64 md]] w fun e w' => e = .returned (erV Ad (whyA ok f k sy ac id sd pr qt md za n zb m)) ∧ Below w.heap.size w w' := by
 obtain ⟨kB, kC⟩ := two_blocks w (.cells #[.slice A n c, .slice B m d] 30) (.cells #[.int .i64 k, .int .i64 sy, .int .i64 ac, .int .i64 id, .int .i64 sd, .int .i64 pr, .int .i64 qt, .int .i64 md] 35)
 have D : Below w.heap.size w ((w.alloc (.cells #[.slice A n c, .slice B m d] 30)).alloc (.cells #[.int .i64 k, .int .i64 sy, .int .i64 ac, .int .i64 id, .int .i64 sd, .int .i64 pr, .int .i64 qt, .int .i64 md] 35)) := ((Below.refl _ _).alloc (Nat.le_refl _) _).alloc (by simp) _
 replace ha := ha.later D
 replace hb := hb.later D
 replace hE := hE.below D
 go_enter Tryz.func50, Tryz.ntmps50
 go_wp2_with fail
 generalize ((w.alloc (.cells #[.slice A n c, .slice B m d] 30)).alloc (.cells #[.int .i64 k, .int .i64 sy, .int .i64 ac, .int .i64 id, .int .i64 sd, .int .i64 pr, .int .i64 qt, .int .i64 md] 35)) = w0 at *
 refine (impl_CmdOk k sy ac id sd pr qt md w0).mono ?_
 rintro e w1 ⟨rfl, hb1⟩
 replace ha := ha.later hb1
 replace hb := hb.later hb1
 replace hE := hE.below hb1
 replace kB := bk1 hb1 kB
 replace kC := bk1 hb1 kC
 replace D := D.trans (hb1.mono D.size)
 clear hb1
 obtain ⟨c0, c1, c2, c3, c4, c5, c6, c7⟩ := cmd_cell kC
 obtain ⟨p0, p1⟩ := rcell2 kB
 have v1 := hE.var 1 (by decide) (by decide)
 simp only [gE] at v1
 obtain ⟨co, hco⟩ : ∃ x, cmdB k sy ac id sd pr qt md = x := ⟨_, rfl⟩
 have HCO := Lib.hid hco
 rw [hco]
 clear hco
 cases co
 · go_wp2_with fail
   go_ret
   exact ⟨by rw [whyA, if_neg (fun h => by rw [HCO.out] at h; exact absurd h.1 (by decide))]; rfl, D⟩
 by_cases h8 : k < 8
 rotate_left
 · have H8 := Lib.hid h8
   have e8 : decide (8 ≤ k) = true := decide_eq_true (by omega)
   clear h8
   go_wp2_with fail
   go_ret
   exact ⟨by rw [whyA, if_neg (fun h => by have := H8.out; omega)]; rfl, D⟩
 have H8 := Lib.hid h8
 have e8 : decide (8 ≤ k) = false := decide_eq_false (by omega)
 clear h8 v1
 by_cases h6 : k = 6
 · have H6 : Hid (k = 6 ∨ k = 7) := Lib.hid (.inl h6)
   have e6 : (k == 6) = true := by simp [h6]
   clear h6
   go_wp2_with fail
   refine (impl_reasonOld A n c B m d za zb k sy ac id sd pr qt md Ad w1 ha hb hn hm hE s f ok HF).mono ?_
   rintro e w2 ⟨rfl, hb2⟩
   have D2 := D.trans (hb2.mono D.size)
   generalize hx : erV Ad (whyO ok (f 1) ac) = x at *
   have HX := Lib.hid hx
   clear hx hb2
   go_wp2_with fail
   go_ret
   exact ⟨by rw [whyA, if_pos ⟨HCO.out, H8.out⟩, if_pos H6.out, HX.out]; rfl, D2⟩
 by_cases h7 : k = 7
 · have H6 : Hid (k = 6 ∨ k = 7) := Lib.hid (.inr h7)
   have e6 : (k == 6) = false := by simp [h6]
   have e7 : (k == 7) = true := by simp [h7]
   clear h6 h7
   go_wp2_with fail
   refine (impl_reasonOld A n c B m d za zb k sy ac id sd pr qt md Ad w1 ha hb hn hm hE s f ok HF).mono ?_
   rintro e w2 ⟨rfl, hb2⟩
   have D2 := D.trans (hb2.mono D.size)
   generalize hx : erV Ad (whyO ok (f 1) ac) = x at *
   have HX := Lib.hid hx
   clear hx hb2
   go_wp2_with fail
   go_ret
   exact ⟨by rw [whyA, if_pos ⟨HCO.out, H8.out⟩, if_pos H6.out, HX.out]; rfl, D2⟩
 have H6 : Hid (¬ (k = 6 ∨ k = 7)) := Lib.hid (fun h => h.elim h6 h7)
 have e6 : (k == 6) = false := by simp [h6]
 have e7 : (k == 7) = false := by simp [h7]
 clear h6 h7
 go_wp2_with fail
 refine (impl_reasonNew A n c B m d za zb k sy ac id sd pr qt md Ad w1 ha hb hn hm hE s f ok HF HBK).mono ?_
 rintro e w2 ⟨rfl, hb2⟩
 have D2 := D.trans (hb2.mono D.size)
 generalize hx : erV Ad (whyN ok k ac id sd pr qt md za n zb m) = x at *
 have HX := Lib.hid hx
 clear hx hb2
 go_wp2_with fail
 go_ret
 exact ⟨by rw [whyA, if_pos ⟨HCO.out, H8.out⟩, if_neg H6.out, HX.out]; rfl, D2⟩
theorem run_eql_nil_right {P : Program} (w : World) {ti : TypeId} {ms : Array (String × TypeId)} (tp : TypeId) (v : Value) (hi : P.underlying ti = some (.interface ms)) : (binOp .eql ti (.iface tp v) .nilIface).run P w = .ok (.bool false) w := by
 have h : ∀ d : Nat, (Op.equalIn (d + 1) ti (.iface tp v) .nilIface).run P w = .ok false w := fun d => by simp [Op.equalIn, run_underlying hi]
 simp only [binOp]
 simp [Op.equal, Op.maxDepth, h 9999]
theorem run_eql_nil_nil {P : Program} (w : World) {ti : TypeId} {ms : Array (String × TypeId)} (hi : P.underlying ti = some (.interface ms)) : (binOp .eql ti .nilIface .nilIface).run P w = .ok (.bool true) w := by
 have h : ∀ d : Nat, (Op.equalIn (d + 1) ti .nilIface .nilIface).run P w = .ok true w := fun d => by simp [Op.equalIn, run_underlying hi]
 simp only [binOp]
 simp [Op.equal, Op.maxDepth, h 9999]
theorem impl_checked (A : Option Addr) (n c : Nat) (B : Option Addr) (m d : Nat) (za zb : List Int) (k sy ac id sd pr qt md : Int) (Ad : Nat → Addr) (w : World) (ha : Lst w w.heap.size 4 A n za) (hb : Lst w w.heap.size 4 B m zb) (hn : n ≤ 1048576) (hm : m ≤ 1048576) (hE : Errs w Ad) (s : Int) (f : Nat → Int) (ok : Bool) (HF : Hid (FindRel (bookB za n zb m) za n zb m id s f ok)) (HBK : Hid (bookB za n zb m = true)) :
 Calls Tryz.prog 23 #[.agg #[.slice A n c, .slice B m d], .agg #[.int .i64 k, .int .i64 sy, .int .i64 ac, .int .i64 id, .int .i64 sd, .int .i64 pr, .int .i64 qt, .int .i64 md]] w fun e w' => ((whyA ok f k sy ac id sd pr qt md za n zb m = 0 ∧ e = .returned .nilIface) ∨ ∃ eb, whyA ok f k sy ac id sd pr qt md za n zb m ≠ 0 ∧ e = .returned (.iface 79 (.pointer (some ⟨eb, 0, none⟩))) ∧ w.heap.size ≤ eb ∧ w'.heap[eb]? = some (.cells #[.int .i64 k, .int .i64 sy, .int .i64 ac, .int .i64 id, .int .i64 sd, .int .i64 pr, .int .i64 qt, .int .i64 md, .iface 164 (.pointer (some (Ad (whyA ok f k sy ac id sd pr qt md za n zb m))))] 81)) ∧ Below w.heap.size w w' := by
 obtain ⟨kB, kC⟩ := two_blocks w (.cells #[.slice A n c, .slice B m d] 30) (.cells #[.int .i64 k, .int .i64 sy, .int .i64 ac, .int .i64 id, .int .i64 sd, .int .i64 pr, .int .i64 qt, .int .i64 md] 35)
 have D : Below w.heap.size w ((w.alloc (.cells #[.slice A n c, .slice B m d] 30)).alloc (.cells #[.int .i64 k, .int .i64 sy, .int .i64 ac, .int .i64 id, .int .i64 sd, .int .i64 pr, .int .i64 qt, .int .i64 md] 35)) := ((Below.refl _ _).alloc (Nat.le_refl _) _).alloc (by simp) _
 replace ha := ha.later D
 replace hb := hb.later D
 replace hE := hE.below D
 go_enter Tryz.func23, Tryz.ntmps23
 go_wp2_with fail
 generalize ((w.alloc (.cells #[.slice A n c, .slice B m d] 30)).alloc (.cells #[.int .i64 k, .int .i64 sy, .int .i64 ac, .int .i64 id, .int .i64 sd, .int .i64 pr, .int .i64 qt, .int .i64 md] 35)) = w0 at *
 refine (impl_reasonAgainst A n c B m d za zb k sy ac id sd pr qt md Ad w0 ha hb hn hm hE s f ok HF HBK).mono ?_
 rintro e w1 ⟨rfl, hb1⟩
 replace ha := ha.later hb1
 replace hb := hb.later hb1
 replace hE := hE.below hb1
 replace kB := bk1 hb1 kB
 replace kC := bk1 hb1 kC
 replace D := D.trans (hb1.mono D.size)
 clear hb1
 obtain ⟨c0, c1, c2, c3, c4, c5, c6, c7⟩ := cmd_cell kC
 generalize hcw : whyA ok f k sy ac id sd pr qt md za n zb m = cw at *
 have HCW := Lib.hid hcw
 clear hcw
 rcases Nat.eq_zero_or_pos cw with h0 | h0
 · subst h0
   rw [erV_no]
   have ht := run_eql_nil_nil (P := Tryz.prog) w1 Tryz.underlying51
   go_wp2_with fail
   go_ret
   exact ⟨.inl ⟨HCW.out, rfl⟩, D⟩
 · rw [erV_at Ad (by omega)]
   have ht := run_eql_nil_right (P := Tryz.prog) w1 164 (.pointer (some (Ad cw))) Tryz.underlying51
   have kR := heap_alloc_new w1 (.cells #[.int .i64 k, .int .i64 sy, .int .i64 ac, .int .i64 id, .int .i64 sd, .int .i64 pr, .int .i64 qt, .int .i64 md, .iface 164 (.pointer (some (Ad cw)))] 81)
   have HR := Lib.hid kR
   have DR := Lib.hid (D.alloc D.size (.cells #[.int .i64 k, .int .i64 sy, .int .i64 ac, .int .i64 id, .int .i64 sd, .int .i64 pr, .int .i64 qt, .int .i64 md, .iface 164 (.pointer (some (Ad cw)))] 81))
   have hsz := Lib.hid D.size
   clear kR
   go_wp2_with fail
   go_ret
   exact ⟨.inr ⟨w1.heap.size, by rw [HCW.out]; exact Nat.ne_of_gt h0, rfl, hsz.out, by rw [HCW.out]; exact HR.out⟩, DR.out⟩
end Go.Proofs.YtgjjdnojiegidaaGreatDoor

namespace Go.Proofs.YtgjjdnojiegidaaGreatDoor
open Go.RowKit Wire
set_option maxHeartbeats 6400000
set_option maxRecDepth 100000
set_option linter.unusedSimpArgs false
set_option linter.unusedVariables false

theorem impl_rejectRec (eb cw : Nat) (k sy ac id sd pr qt md : Int) (Ad : Nat → Addr) (w : World) (hE : Errs w Ad) (kR : w.heap[eb]? = some (.cells #[.int .i64 k, .int .i64 sy, .int .i64 ac, .int .i64 id, .int .i64 sd, .int .i64 pr, .int .i64 qt, .int .i64 md, .iface 164 (.pointer (some (Ad cw)))] 81 (0, 0))) (c1 : 1 ≤ cw) (c7 : cw ≤ 7) :
 Calls Tryz.prog 26 #[.iface 79 (.pointer (some ⟨eb, 0, none⟩))] w fun e w' => e = .returned (.agg #[.int .i64 0, .int .i64 2, .int .i64 (symN cw sy), .int .i64 ac, .int .i64 id, .int .i64 (cw : Int), .int .i64 0, .int .i64 0]) ∧ Below w.heap.size w w' := by
 have hE0 := hE
 have hlR0 := hlT kR
 obtain ⟨kZ, kX⟩ := two_blocks w (.cells #[.int .i64 0, .int .i64 0, .int .i64 0, .int .i64 0, .int .i64 0, .int .i64 0, .int .i64 0, .int .i64 0] 48) (.cells #[.pointer none] 79)
 have D : Below w.heap.size w ((w.alloc (.cells #[.int .i64 0, .int .i64 0, .int .i64 0, .int .i64 0, .int .i64 0, .int .i64 0, .int .i64 0, .int .i64 0] 48)).alloc (.cells #[.pointer none] 79)) := ((Below.refl _ _).alloc (Nat.le_refl _) _).alloc (by simp) _
 replace hE := hE.below D
 replace kR := (D.block _ hlR0).trans kR
 go_enter Tryz.func26, Tryz.ntmps26
 go_wp2_with fail
 generalize ((w.alloc (.cells #[.int .i64 0, .int .i64 0, .int .i64 0, .int .i64 0, .int .i64 0, .int .i64 0, .int .i64 0, .int .i64 0] 48)).alloc (.cells #[.pointer none] 79)) = w0 at *
 have x0 : w0.cell? ⟨w.heap.size + 1, 0, none⟩ = some (.pointer none) := by simp [World.cell?, kX]
 have xf : w0.frozen? ⟨w.heap.size + 1, 0, none⟩ = false := by simp [World.frozen?, kX]
 refine (as_rej ⟨eb, 0, none⟩ ⟨w.heap.size + 1, 0, none⟩ (.pointer none) w0 hE.hnd x0 xf).mono ?_
 rintro e _ ⟨rfl, W, hbW, rfl⟩
 clear x0 xf
 have D1 := (D.trans (hbW.mono D.size)).setCell (p := ⟨w.heap.size + 1, 0, none⟩) (by simp) (.pointer (some ⟨eb, 0, none⟩))
 have kX1 := rset1 (u := .pointer (some ⟨eb, 0, none⟩)) (bk1 hbW kX)
 have kZ1 := rset_other (g := w.heap.size + 1) (i := 0) (u := .pointer (some ⟨eb, 0, none⟩)) (bk1 hbW kZ) (by omega)
 have hgt : w.heap.size + 1 < W.heap.size := Nat.lt_of_lt_of_le (hlT kX) hbW.size
 have kR1 := rset_other (g := w.heap.size + 1) (i := 0) (u := .pointer (some ⟨eb, 0, none⟩)) (bk1 hbW kR) (by omega)
 have hE1 : Errs (W.setCell ⟨w.heap.size + 1, 0, none⟩ (.pointer (some ⟨eb, 0, none⟩))) Ad := hE0.below D1
 clear kX kZ kR hE hbW D hgt
 generalize W.setCell ⟨w.heap.size + 1, 0, none⟩ (.pointer (some ⟨eb, 0, none⟩)) = w1 at *
 go_upto_region 4 with fail
 have x0 : w1.cell? ⟨w.heap.size + 1, 0, none⟩ = some (.pointer (some ⟨eb, 0, none⟩)) := by simp [World.cell?, kX1]
 have hlX := hlT kX1
 have hlE := hlT kR1
 have hlZ := hlT kZ1
 have r1 : w1.cell? ⟨eb, 1, none⟩ = some (.int .i64 sy) := by simp [World.cell?, kR1]
 have r2 : w1.cell? ⟨eb, 2, none⟩ = some (.int .i64 ac) := by simp [World.cell?, kR1]
 have r3 : w1.cell? ⟨eb, 3, none⟩ = some (.int .i64 id) := by simp [World.cell?, kR1]
 have r8 : w1.cell? ⟨eb, 8, none⟩ = some (.iface 164 (.pointer (some (Ad cw)))) := by simp [World.cell?, kR1]
 refine wp_region_held_drew (S := (fun w' => Below w1.heap.size w1 w')) (by kernel_rfl) ?hSm33 (fun zH => ?restm33)
 case hSm33 => exact (Below.refl _ _).drew
 refine tkY 0 (hy := by ((intro wS hSw; have t0 := (hSw.cell (p := ⟨w.heap.size + 1, 0, none⟩) hlX).trans x0; go_simp) <;> with_reducible rfl)) (h := ?_)
 refine tkV 1 ?_
 refine tkV 2 ?_
 refine tkV 3 ?_
 refine tkY 4 (hy := by ((intro wS hSw; have t0 := (hSw.cell (p := ⟨eb, 1, none⟩) hlE).trans r1; go_simp) <;> with_reducible rfl)) (h := ?_)
 refine tkY 5 (hy := by ((intro wS hSw; have t0 := (hSw.cell (p := ⟨w.heap.size + 1, 0, none⟩) hlX).trans x0; go_simp) <;> with_reducible rfl)) (h := ?_)
 refine tkV 6 ?_
 refine tkV 7 ?_
 refine tkV 8 ?_
 refine tkY 9 (hy := by ((intro wS hSw; have t0 := (hSw.cell (p := ⟨eb, 2, none⟩) hlE).trans r2; go_simp) <;> with_reducible rfl)) (h := ?_)
 refine tkY 10 (hy := by ((intro wS hSw; have t0 := (hSw.cell (p := ⟨w.heap.size + 1, 0, none⟩) hlX).trans x0; go_simp) <;> with_reducible rfl)) (h := ?_)
 refine tkV 11 ?_
 refine tkV 12 ?_
 refine tkV 13 ?_
 refine tkY 14 (hy := by ((intro wS hSw; have t0 := (hSw.cell (p := ⟨eb, 3, none⟩) hlE).trans r3; go_simp) <;> with_reducible rfl)) (h := ?_)
 refine tkV 15 ?_
 refine wpAnyH_ready (rs := [16, 18]) (by kernel_rfl) (by simp) ?_
 refine AllReadyH.cons (o := ?or50_16) ?hor50_16 (fun K hK => ?stepr50_16) (AllReadyH.cons (o := ?or50_18) ?hor50_18 (fun K hK => ?stepr50_18) (AllReadyH.nil))
 case hor50_16 => simp only [gA, gB, gC]; exact rfl
 case hor50_18 => simp only [gA, gB, gC]; exact rfl
 case stepr50_16 =>
  go_simp
  refine (impl_codeOf eb cw Ad _ (hE1.below zH) ((zH.cell (p := ⟨eb, 8, none⟩) hlE).trans r8) c1 c7).mono ?_
  rintro e _ ⟨rfl, rfl⟩
  refine hK.out _ _ (zH) (fun zH => ?_)
  clear hK K
  try simp only [Act.put, sA, sB, sC]
  refine tkV 17 ?_
  refine rd1 18 (fun K hK => ?_)
  go_simp
  have kQ : (w1.drew.alloc (.cells #[.int .i64 0, .int .i64 0, .int .i64 0, .int .i64 0, .int .i64 0, .int .i64 0, .int .i64 0, .int .i64 0] 48)).heap[w1.heap.size]? = some (.cells #[.int .i64 0, .int .i64 0, .int .i64 0, .int .i64 0, .int .i64 0, .int .i64 0, .int .i64 0, .int .i64 0] 48) := heap_alloc_new w1.drew (.cells #[.int .i64 0, .int .i64 0, .int .i64 0, .int .i64 0, .int .i64 0, .int .i64 0, .int .i64 0, .int .i64 0] 48)
  have hC6 : w1.heap.size ≤ w1.heap.size := Nat.le_refl _
  have hB6 : Below w1.heap.size w1 (w1.drew.alloc (.cells #[.int .i64 0, .int .i64 0, .int .i64 0, .int .i64 0, .int .i64 0, .int .i64 0, .int .i64 0, .int .i64 0] 48)) := zH.alloc zH.size _
  refine hK.out _ _ (hB6) (fun zH => ?_)
  clear hK K
  try simp only [Act.put, sA, sB, sC]
  refine rd1 19 (fun K hK => ?_)
  have hHw := zH
  have HQ2 := Lib.hid (show (w1.alloc (.cells #[.int .i64 0, .int .i64 2, .int .i64 sy, .int .i64 ac, .int .i64 id, .int .i64 (cw : Int), .int .i64 0, .int .i64 0] 48)).drew.heap[w1.heap.size]? = some (.cells #[.int .i64 0, .int .i64 2, .int .i64 sy, .int .i64 ac, .int .i64 id, .int .i64 (cw : Int), .int .i64 0, .int .i64 0] 48 (0, 0)) from heap_alloc_new w1 _)
  have hBz : Below w1.heap.size w1 (w1.alloc (.cells #[.int .i64 0, .int .i64 2, .int .i64 sy, .int .i64 ac, .int .i64 id, .int .i64 (cw : Int), .int .i64 0, .int .i64 0] 48)).drew := ((Below.refl _ w1).alloc (Nat.le_refl _) _).drew
  clear kQ
  go_simp
  refine hK.out _ _ (hBz) (fun zH => ?_)
  clear hK K
  try simp only [Act.put, sA, sB, sC]
  refine dn1 ?_
  have kQ := HQ2.out
  have hBq := hBz
  clear zH hBz HQ2 hHw
  generalize (w1.alloc (.cells #[.int .i64 0, .int .i64 2, .int .i64 sy, .int .i64 ac, .int .i64 id, .int .i64 (cw : Int), .int .i64 0, .int .i64 0] 48)).drew = w2 at *
  have HC6 : w1.heap.size ≤ w1.heap.size := Nat.le_refl _
  generalize hzz : w1.heap.size = XQ at kQ HC6 ⊢
  have HC6 : w1.heap.size ≤ XQ := Nat.le_of_eq hzz
  have HXQ := Lib.hid hzz
  clear hzz hC6 hB6
  have D2 := D1.trans (hBq.mono D1.size)
  have kZ2 := (hBq.block _ hlZ).trans kZ1
  have hE2 := hE1.below hBq
  have r8' := (hBq.cell (p := ⟨eb, 8, none⟩) hlE).trans r8
  have hQZ : XQ ≠ w.heap.size := by omega
  have hQE : eb ≠ XQ := by omega
  have v1 := hE2.var 1 (by decide) (by decide)
  simp only [gE] at v1
  have hI := Lib.hid (is_rej eb cw 1 Ad w2 hE2 r8' c1 c7 (by decide) (by decide))
  clear kR1 kX1 kZ1 x0 hlX r1 r2 r3 r8 r8' hE1 hE2 hBq hlE hE0 hlR0
  have hgQ := Nat.le_trans D1.size HC6
  clear HC6 D1 hlZ
  go_wp2_with fail
  refine (hI.out.mono (fun e w' h => (⟨h.1, h.2.symm⟩ : _ ∧ _))).mono ?_
  rintro e _ ⟨rfl, rfl⟩
  clear hI v1
  by_cases h1 : cw = 1
  · have H1 := Lib.hid h1
    rw [decide_eq_true h1]
    clear h1
    have kQ' := rset_at2 (u := .int .i64 0) kQ
    have DQ := D2.setCell (p := ⟨XQ, 2, none⟩) hgQ (.int .i64 0)
    have kZ' := rset_other (g := XQ) (i := 2) (u := .int .i64 0) kZ2 hQZ
    have q2 : w2.cell? ⟨XQ, 2, none⟩ = some (.int .i64 sy) := by simp [World.cell?, kQ]
    have g2 : w2.frozen? ⟨XQ, 2, none⟩ = false := by simp [World.frozen?, kQ]
    clear kQ kZ2
    go_upto_region 7 with fail
    clear q2 g2
    generalize w2.setCell ⟨XQ, 2, none⟩ (.int .i64 0) = w3 at *
    clear D2
    obtain ⟨q0, q1, q2, q3, q4, q5, q6, q7, -⟩ := rcell8 kQ'
    obtain ⟨z0, z1, z2, z3, z4, z5, z6, z7, g0, g1, g2, g3, g4, g5, g6, g7⟩ := rcell8 kZ'
    have HZ := Lib.hid (show ((((((((w3.setCell ⟨w.heap.size, 0, none⟩ (.int .i64 0)).setCell ⟨w.heap.size, 1, none⟩ (.int .i64 2)).setCell ⟨w.heap.size, 2, none⟩ (.int .i64 0)).setCell ⟨w.heap.size, 3, none⟩ (.int .i64 ac)).setCell ⟨w.heap.size, 4, none⟩ (.int .i64 id)).setCell ⟨w.heap.size, 5, none⟩ (.int .i64 (cw : Int))).setCell ⟨w.heap.size, 6, none⟩ (.int .i64 0)).setCell ⟨w.heap.size, 7, none⟩ (.int .i64 0)).heap[w.heap.size]? = some (.cells #[.int .i64 0, .int .i64 2, .int .i64 0, .int .i64 ac, .int .i64 id, .int .i64 (cw : Int), .int .i64 0, .int .i64 0] 48 (0, 0)) from rset8 kZ')
    have HD := Lib.hid (show Below w.heap.size w ((((((((w3.setCell ⟨w.heap.size, 0, none⟩ (.int .i64 0)).setCell ⟨w.heap.size, 1, none⟩ (.int .i64 2)).setCell ⟨w.heap.size, 2, none⟩ (.int .i64 0)).setCell ⟨w.heap.size, 3, none⟩ (.int .i64 ac)).setCell ⟨w.heap.size, 4, none⟩ (.int .i64 id)).setCell ⟨w.heap.size, 5, none⟩ (.int .i64 (cw : Int))).setCell ⟨w.heap.size, 6, none⟩ (.int .i64 0)).setCell ⟨w.heap.size, 7, none⟩ (.int .i64 0)) from rbelow8 DQ (Nat.le_refl _) _ _ _ _ _ _ _ _)
    clear kQ' kZ' DQ
    go_wp2_with fail
    generalize ((((((((w3.setCell ⟨w.heap.size, 0, none⟩ (.int .i64 0)).setCell ⟨w.heap.size, 1, none⟩ (.int .i64 2)).setCell ⟨w.heap.size, 2, none⟩ (.int .i64 0)).setCell ⟨w.heap.size, 3, none⟩ (.int .i64 ac)).setCell ⟨w.heap.size, 4, none⟩ (.int .i64 id)).setCell ⟨w.heap.size, 5, none⟩ (.int .i64 (cw : Int))).setCell ⟨w.heap.size, 6, none⟩ (.int .i64 0)).setCell ⟨w.heap.size, 7, none⟩ (.int .i64 0)) = wf at *
    obtain ⟨e0, e1, e2, e3, e4, e5, e6, e7, -⟩ := rcell8 HZ.out
    refine bodyPost_ret (v := .agg #[.int .i64 0, .int .i64 2, .int .i64 0, .int .i64 ac, .int .i64 id, .int .i64 (cw : Int), .int .i64 0, .int .i64 0]) (by simp [results, Tryz.results26, go_sem, e0, e1, e2, e3, e4, e5, e6, e7]) rfl ⟨?_, HD.out⟩
    rw [symN, if_pos H1.out]
  · have H1 := Lib.hid h1
    rw [decide_eq_false h1]
    clear h1
    go_upto_region 7 with fail
    have kQ' := kQ
    have DQ := D2
    have kZ' := kZ2
    clear kQ kZ2 D2
    obtain ⟨q0, q1, q2, q3, q4, q5, q6, q7, -⟩ := rcell8 kQ'
    obtain ⟨z0, z1, z2, z3, z4, z5, z6, z7, g0, g1, g2, g3, g4, g5, g6, g7⟩ := rcell8 kZ'
    have HZ := Lib.hid (show ((((((((w2.setCell ⟨w.heap.size, 0, none⟩ (.int .i64 0)).setCell ⟨w.heap.size, 1, none⟩ (.int .i64 2)).setCell ⟨w.heap.size, 2, none⟩ (.int .i64 sy)).setCell ⟨w.heap.size, 3, none⟩ (.int .i64 ac)).setCell ⟨w.heap.size, 4, none⟩ (.int .i64 id)).setCell ⟨w.heap.size, 5, none⟩ (.int .i64 (cw : Int))).setCell ⟨w.heap.size, 6, none⟩ (.int .i64 0)).setCell ⟨w.heap.size, 7, none⟩ (.int .i64 0)).heap[w.heap.size]? = some (.cells #[.int .i64 0, .int .i64 2, .int .i64 sy, .int .i64 ac, .int .i64 id, .int .i64 (cw : Int), .int .i64 0, .int .i64 0] 48 (0, 0)) from rset8 kZ')
    have HD := Lib.hid (show Below w.heap.size w ((((((((w2.setCell ⟨w.heap.size, 0, none⟩ (.int .i64 0)).setCell ⟨w.heap.size, 1, none⟩ (.int .i64 2)).setCell ⟨w.heap.size, 2, none⟩ (.int .i64 sy)).setCell ⟨w.heap.size, 3, none⟩ (.int .i64 ac)).setCell ⟨w.heap.size, 4, none⟩ (.int .i64 id)).setCell ⟨w.heap.size, 5, none⟩ (.int .i64 (cw : Int))).setCell ⟨w.heap.size, 6, none⟩ (.int .i64 0)).setCell ⟨w.heap.size, 7, none⟩ (.int .i64 0)) from rbelow8 DQ (Nat.le_refl _) _ _ _ _ _ _ _ _)
    clear kQ' kZ' DQ
    go_wp2_with fail
    generalize ((((((((w2.setCell ⟨w.heap.size, 0, none⟩ (.int .i64 0)).setCell ⟨w.heap.size, 1, none⟩ (.int .i64 2)).setCell ⟨w.heap.size, 2, none⟩ (.int .i64 sy)).setCell ⟨w.heap.size, 3, none⟩ (.int .i64 ac)).setCell ⟨w.heap.size, 4, none⟩ (.int .i64 id)).setCell ⟨w.heap.size, 5, none⟩ (.int .i64 (cw : Int))).setCell ⟨w.heap.size, 6, none⟩ (.int .i64 0)).setCell ⟨w.heap.size, 7, none⟩ (.int .i64 0)) = wf at *
    obtain ⟨e0, e1, e2, e3, e4, e5, e6, e7, -⟩ := rcell8 HZ.out
    refine bodyPost_ret (v := .agg #[.int .i64 0, .int .i64 2, .int .i64 sy, .int .i64 ac, .int .i64 id, .int .i64 (cw : Int), .int .i64 0, .int .i64 0]) (by simp [results, Tryz.results26, go_sem, e0, e1, e2, e3, e4, e5, e6, e7]) rfl ⟨?_, HD.out⟩
    rw [symN, if_neg H1.out]
 case stepr50_18 =>
  go_simp
  have kQ : (w1.drew.alloc (.cells #[.int .i64 0, .int .i64 0, .int .i64 0, .int .i64 0, .int .i64 0, .int .i64 0, .int .i64 0, .int .i64 0] 48)).heap[w1.heap.size]? = some (.cells #[.int .i64 0, .int .i64 0, .int .i64 0, .int .i64 0, .int .i64 0, .int .i64 0, .int .i64 0, .int .i64 0] 48) := heap_alloc_new w1.drew (.cells #[.int .i64 0, .int .i64 0, .int .i64 0, .int .i64 0, .int .i64 0, .int .i64 0, .int .i64 0, .int .i64 0] 48)
  have hC6 : w1.heap.size ≤ w1.heap.size := Nat.le_refl _
  have hB6 : Below w1.heap.size w1 (w1.drew.alloc (.cells #[.int .i64 0, .int .i64 0, .int .i64 0, .int .i64 0, .int .i64 0, .int .i64 0, .int .i64 0, .int .i64 0] 48)) := zH.alloc zH.size _
  refine hK.out _ _ (hB6) (fun zH => ?_)
  clear hK K
  try simp only [Act.put, sA, sB, sC]
  refine rd1 16 (fun K hK => ?_)
  go_simp
  refine (impl_codeOf eb cw Ad _ (hE1.below zH) ((zH.cell (p := ⟨eb, 8, none⟩) hlE).trans r8) c1 c7).mono ?_
  rintro e _ ⟨rfl, rfl⟩
  refine hK.out _ _ (zH) (fun zH => ?_)
  clear hK K
  try simp only [Act.put, sA, sB, sC]
  refine tkV 17 ?_
  refine rd1 19 (fun K hK => ?_)
  have hHw := zH
  have HQ2 := Lib.hid (show (w1.alloc (.cells #[.int .i64 0, .int .i64 2, .int .i64 sy, .int .i64 ac, .int .i64 id, .int .i64 (cw : Int), .int .i64 0, .int .i64 0] 48)).drew.heap[w1.heap.size]? = some (.cells #[.int .i64 0, .int .i64 2, .int .i64 sy, .int .i64 ac, .int .i64 id, .int .i64 (cw : Int), .int .i64 0, .int .i64 0] 48 (0, 0)) from heap_alloc_new w1 _)
  have hBz : Below w1.heap.size w1 (w1.alloc (.cells #[.int .i64 0, .int .i64 2, .int .i64 sy, .int .i64 ac, .int .i64 id, .int .i64 (cw : Int), .int .i64 0, .int .i64 0] 48)).drew := ((Below.refl _ w1).alloc (Nat.le_refl _) _).drew
  clear kQ
  go_simp
  refine hK.out _ _ (hBz) (fun zH => ?_)
  clear hK K
  try simp only [Act.put, sA, sB, sC]
  refine dn1 ?_
  have kQ := HQ2.out
  have hBq := hBz
  clear zH hBz HQ2 hHw
  generalize (w1.alloc (.cells #[.int .i64 0, .int .i64 2, .int .i64 sy, .int .i64 ac, .int .i64 id, .int .i64 (cw : Int), .int .i64 0, .int .i64 0] 48)).drew = w2 at *
  have HC6 : w1.heap.size ≤ w1.heap.size := Nat.le_refl _
  generalize hzz : w1.heap.size = XQ at kQ HC6 ⊢
  have HC6 : w1.heap.size ≤ XQ := Nat.le_of_eq hzz
  have HXQ := Lib.hid hzz
  clear hzz hC6 hB6
  have D2 := D1.trans (hBq.mono D1.size)
  have kZ2 := (hBq.block _ hlZ).trans kZ1
  have hE2 := hE1.below hBq
  have r8' := (hBq.cell (p := ⟨eb, 8, none⟩) hlE).trans r8
  have hQZ : XQ ≠ w.heap.size := by omega
  have hQE : eb ≠ XQ := by omega
  have v1 := hE2.var 1 (by decide) (by decide)
  simp only [gE] at v1
  have hI := Lib.hid (is_rej eb cw 1 Ad w2 hE2 r8' c1 c7 (by decide) (by decide))
  clear kR1 kX1 kZ1 x0 hlX r1 r2 r3 r8 r8' hE1 hE2 hBq hlE hE0 hlR0
  have hgQ := Nat.le_trans D1.size HC6
  clear HC6 D1 hlZ
  go_wp2_with fail
  refine (hI.out.mono (fun e w' h => (⟨h.1, h.2.symm⟩ : _ ∧ _))).mono ?_
  rintro e _ ⟨rfl, rfl⟩
  clear hI v1
  by_cases h1 : cw = 1
  · have H1 := Lib.hid h1
    rw [decide_eq_true h1]
    clear h1
    have kQ' := rset_at2 (u := .int .i64 0) kQ
    have DQ := D2.setCell (p := ⟨XQ, 2, none⟩) hgQ (.int .i64 0)
    have kZ' := rset_other (g := XQ) (i := 2) (u := .int .i64 0) kZ2 hQZ
    have q2 : w2.cell? ⟨XQ, 2, none⟩ = some (.int .i64 sy) := by simp [World.cell?, kQ]
    have g2 : w2.frozen? ⟨XQ, 2, none⟩ = false := by simp [World.frozen?, kQ]
    clear kQ kZ2
    go_upto_region 7 with fail
    clear q2 g2
    generalize w2.setCell ⟨XQ, 2, none⟩ (.int .i64 0) = w3 at *
    clear D2
    obtain ⟨q0, q1, q2, q3, q4, q5, q6, q7, -⟩ := rcell8 kQ'
    obtain ⟨z0, z1, z2, z3, z4, z5, z6, z7, g0, g1, g2, g3, g4, g5, g6, g7⟩ := rcell8 kZ'
    have HZ := Lib.hid (show ((((((((w3.setCell ⟨w.heap.size, 0, none⟩ (.int .i64 0)).setCell ⟨w.heap.size, 1, none⟩ (.int .i64 2)).setCell ⟨w.heap.size, 2, none⟩ (.int .i64 0)).setCell ⟨w.heap.size, 3, none⟩ (.int .i64 ac)).setCell ⟨w.heap.size, 4, none⟩ (.int .i64 id)).setCell ⟨w.heap.size, 5, none⟩ (.int .i64 (cw : Int))).setCell ⟨w.heap.size, 6, none⟩ (.int .i64 0)).setCell ⟨w.heap.size, 7, none⟩ (.int .i64 0)).heap[w.heap.size]? = some (.cells #[.int .i64 0, .int .i64 2, .int .i64 0, .int .i64 ac, .int .i64 id, .int .i64 (cw : Int), .int .i64 0, .int .i64 0] 48 (0, 0)) from rset8 kZ')
    have HD := Lib.hid (show Below w.heap.size w ((((((((w3.setCell ⟨w.heap.size, 0, none⟩ (.int .i64 0)).setCell ⟨w.heap.size, 1, none⟩ (.int .i64 2)).setCell ⟨w.heap.size, 2, none⟩ (.int .i64 0)).setCell ⟨w.heap.size, 3, none⟩ (.int .i64 ac)).setCell ⟨w.heap.size, 4, none⟩ (.int .i64 id)).setCell ⟨w.heap.size, 5, none⟩ (.int .i64 (cw : Int))).setCell ⟨w.heap.size, 6, none⟩ (.int .i64 0)).setCell ⟨w.heap.size, 7, none⟩ (.int .i64 0)) from rbelow8 DQ (Nat.le_refl _) _ _ _ _ _ _ _ _)
    clear kQ' kZ' DQ
    go_wp2_with fail
    generalize ((((((((w3.setCell ⟨w.heap.size, 0, none⟩ (.int .i64 0)).setCell ⟨w.heap.size, 1, none⟩ (.int .i64 2)).setCell ⟨w.heap.size, 2, none⟩ (.int .i64 0)).setCell ⟨w.heap.size, 3, none⟩ (.int .i64 ac)).setCell ⟨w.heap.size, 4, none⟩ (.int .i64 id)).setCell ⟨w.heap.size, 5, none⟩ (.int .i64 (cw : Int))).setCell ⟨w.heap.size, 6, none⟩ (.int .i64 0)).setCell ⟨w.heap.size, 7, none⟩ (.int .i64 0)) = wf at *
    obtain ⟨e0, e1, e2, e3, e4, e5, e6, e7, -⟩ := rcell8 HZ.out
    refine bodyPost_ret (v := .agg #[.int .i64 0, .int .i64 2, .int .i64 0, .int .i64 ac, .int .i64 id, .int .i64 (cw : Int), .int .i64 0, .int .i64 0]) (by simp [results, Tryz.results26, go_sem, e0, e1, e2, e3, e4, e5, e6, e7]) rfl ⟨?_, HD.out⟩
    rw [symN, if_pos H1.out]
  · have H1 := Lib.hid h1
    rw [decide_eq_false h1]
    clear h1
    go_upto_region 7 with fail
    have kQ' := kQ
    have DQ := D2
    have kZ' := kZ2
    clear kQ kZ2 D2
    obtain ⟨q0, q1, q2, q3, q4, q5, q6, q7, -⟩ := rcell8 kQ'
    obtain ⟨z0, z1, z2, z3, z4, z5, z6, z7, g0, g1, g2, g3, g4, g5, g6, g7⟩ := rcell8 kZ'
    have HZ := Lib.hid (show ((((((((w2.setCell ⟨w.heap.size, 0, none⟩ (.int .i64 0)).setCell ⟨w.heap.size, 1, none⟩ (.int .i64 2)).setCell ⟨w.heap.size, 2, none⟩ (.int .i64 sy)).setCell ⟨w.heap.size, 3, none⟩ (.int .i64 ac)).setCell ⟨w.heap.size, 4, none⟩ (.int .i64 id)).setCell ⟨w.heap.size, 5, none⟩ (.int .i64 (cw : Int))).setCell ⟨w.heap.size, 6, none⟩ (.int .i64 0)).setCell ⟨w.heap.size, 7, none⟩ (.int .i64 0)).heap[w.heap.size]? = some (.cells #[.int .i64 0, .int .i64 2, .int .i64 sy, .int .i64 ac, .int .i64 id, .int .i64 (cw : Int), .int .i64 0, .int .i64 0] 48 (0, 0)) from rset8 kZ')
    have HD := Lib.hid (show Below w.heap.size w ((((((((w2.setCell ⟨w.heap.size, 0, none⟩ (.int .i64 0)).setCell ⟨w.heap.size, 1, none⟩ (.int .i64 2)).setCell ⟨w.heap.size, 2, none⟩ (.int .i64 sy)).setCell ⟨w.heap.size, 3, none⟩ (.int .i64 ac)).setCell ⟨w.heap.size, 4, none⟩ (.int .i64 id)).setCell ⟨w.heap.size, 5, none⟩ (.int .i64 (cw : Int))).setCell ⟨w.heap.size, 6, none⟩ (.int .i64 0)).setCell ⟨w.heap.size, 7, none⟩ (.int .i64 0)) from rbelow8 DQ (Nat.le_refl _) _ _ _ _ _ _ _ _)
    clear kQ' kZ' DQ
    go_wp2_with fail
    generalize ((((((((w2.setCell ⟨w.heap.size, 0, none⟩ (.int .i64 0)).setCell ⟨w.heap.size, 1, none⟩ (.int .i64 2)).setCell ⟨w.heap.size, 2, none⟩ (.int .i64 sy)).setCell ⟨w.heap.size, 3, none⟩ (.int .i64 ac)).setCell ⟨w.heap.size, 4, none⟩ (.int .i64 id)).setCell ⟨w.heap.size, 5, none⟩ (.int .i64 (cw : Int))).setCell ⟨w.heap.size, 6, none⟩ (.int .i64 0)).setCell ⟨w.heap.size, 7, none⟩ (.int .i64 0)) = wf at *
    obtain ⟨e0, e1, e2, e3, e4, e5, e6, e7, -⟩ := rcell8 HZ.out
    refine bodyPost_ret (v := .agg #[.int .i64 0, .int .i64 2, .int .i64 sy, .int .i64 ac, .int .i64 id, .int .i64 (cw : Int), .int .i64 0, .int .i64 0]) (by simp [results, Tryz.results26, go_sem, e0, e1, e2, e3, e4, e5, e6, e7]) rfl ⟨?_, HD.out⟩
    rw [symN, if_neg H1.out]
end Go.Proofs.YtgjjdnojiegidaaGreatDoor
