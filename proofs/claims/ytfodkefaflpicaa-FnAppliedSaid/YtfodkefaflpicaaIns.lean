/-
  slices.Insert at the pointers of a side: one pointer put in at a place.
-/
import Derived.Test.YtfodkefaflpicaaBookW
import Derived.Shelf.Spec.SlicesInsertGrow
import Derived.Lib.LazyBuf
namespace Go.Proofs.Ytfodkefaflpicaa
open Go.RowKit Go.Lib

/-- the blocks with p put in at place i -/
def insP (gs : Nat → Nat) (i p : Nat) (q : Nat) : Nat := if q < i then gs q else if q = i then p else gs (q - 1)
theorem insP_end (gs : Nat → Nat) (n p : Nat) : ptrs (insP gs n p) (n + 1) = ptrs gs n ++ [.pointer (some ⟨p, 0, none⟩)] := by
  rw [ptrs, show insP gs n p n = p by simp [insP], ptrs_congr n (f := insP gs n p) (g := gs) (fun k hk => by simp [insP, hk])]
theorem row_of_ptrs {w : World} {X n c g : Nat} {T : TypeId} {gs : Nat → Nat} (hown : w.ownsRow X T 1 (.slice (some ⟨g, 0, none⟩) n c) n (ptrs gs n)) : X ≤ g ∧ ∃ F, w.rowIs g T c F ∧ ∀ q, q < n → F q = .pointer (some ⟨gs q, 0, none⟩) := by
  rcases hown.2 with ⟨h0, _⟩ | ⟨g', cap', cur, e', hX, hheap, _, _, hcs, _⟩
  · cases h0
  · injection e' with e1 _ e3
    injection e1 with e1
    injection e1 with e1
    subst e1 e3
    have hr : w.rowIs g T c (fun q => cur[q]?.getD (.pointer none)) := ⟨cur, hheap, by omega, fun i hi => by simp [show i < cur.size by omega]⟩
    refine ⟨hX, _, hr, fun q hq => ?_⟩
    have h1 := hown.cells (g := g) rfl q _ (ptrs_at gs n q hq)
    rw [show (⟨g, 0, none⟩ : Addr).add q = ⟨g, q, none⟩ from by unfold Addr.add; split <;> simp_all] at h1
    have h2 := hr.cell (i := q) (by omega)
    rw [h1] at h2
    injection h2 with h2
    exact h2.symm
theorem cell_of_ptr {w : World} {g c n : Nat} {T : TypeId} {F : Nat → Value} {gs : Nat → Nat} (hrow : w.rowIs g T c F) (hF : ∀ q, q < n → F q = .pointer (some ⟨gs q, 0, none⟩)) (hnc : n ≤ c) (i : Nat) : ∀ (j : Nat) (u : Value), ((ptrs gs n).drop i)[j]? = some u → w.cell? ⟨g, i + j, none⟩ = some u := fun j u h => by
  rw [List.getElem?_drop] at h
  have hj : i + j < n := by
    have := (List.getElem?_eq_some_iff.1 h).1
    rwa [ptrs_len] at this
  rw [ptrs_at gs n (i + j) hj] at h
  injection h with h
  rw [hrow.cell (by omega), hF _ hj, h]
theorem setsP_grown (g : Nat) : ∀ (vs : List Value) (o : Nat) (w : World), w.grownBy (w.setCells g o vs) (some g)
  | [], _, _ => World.grownBy.refl _ _
  | v :: vs, o, w => World.grownBy.trans (set_grown w g o v) (setsP_grown g vs (o + 1) _)
theorem ownP_of_row {w : World} {X g N cap : Nat} {e : TypeId} {F : Nat → Value} {xs : List Value} (h : w.rowIs g e cap F) (hX : X ≤ g) (hN : N ≤ cap) (hc : cap ≤ maxLen) (hl : xs.length = N) (hx : ∀ q, q < N → xs[q]? = some (F q)) : w.ownsRow X e 1 (.slice (some ⟨g, 0, none⟩) N cap) N xs := by
  obtain ⟨c, h1, h2, h3⟩ := h
  refine ⟨by omega, .inr ⟨g, cap, c, rfl, hX, h1, hN, hc, by omega, ?_⟩⟩
  apply List.ext_getElem?
  intro q
  rw [Nat.mul_one]
  by_cases hq : q < N
  · rw [List.getElem?_take, if_pos hq, hx q hq, Array.getElem?_toList, h3 q (by omega)]
  · rw [List.getElem?_take, if_neg hq, List.getElem?_eq_none (by omega)]
theorem drop_at (gs : Nat → Nat) (n i j : Nat) (h : i + j < n) : ((ptrs gs n).drop i)[j]? = some (.pointer (some ⟨gs (i + j), 0, none⟩)) := by
  rw [List.getElem?_drop, ptrs_at gs n (i + j) h]
set_option linter.unusedSimpArgs false in
set_option maxHeartbeats 3200000 in
set_option maxRecDepth 100000 in
theorem impl_Insert (X n i vb p : Nat) (v : Value) (gs : Nat → Nat) (w : World) (hown : w.ownsRow X 85 1 v n (ptrs gs n)) (hX : X ≤ w.heap.size) (hn : n ≤ 1048576) (hi : i ≤ n) (hvb : w.heap[vb]? = some (.cells #[.pointer (some ⟨p, 0, none⟩)] 85 (0, 0))) (hne : some vb ≠ v.ownBlock) :
    Calls Try.prog 149 #[v, .int .i64 (i : Int), .slice (some ⟨vb, 0, none⟩) 1 1] w fun e w' => (∃ v', e = .returned v' ∧ w'.ownsRow X 85 1 v' (n + 1) (ptrs (insP gs i p) (n + 1)) ∧ (v'.ownBlock = v.ownBlock ∨ ∃ q, v'.ownBlock = some q ∧ w.heap.size ≤ q)) ∧ w.grownBy w' v.ownBlock := by
  obtain ⟨i0, hi0, hz0, hz1, hz2⟩ := info_parts ptr_info
  obtain ⟨A, c, rfl, hnc, hcm⟩ := own_slice hown
  unfold maxLen at hcm
  have mixed : Try.prog.follows .mixedOrders = true := by kernel_rfl
  have hvc : w.cell? ⟨vb, 0, none⟩ = some (.pointer (some ⟨p, 0, none⟩)) := by simp [World.cell?, hvb]
  rcases Nat.lt_or_eq_of_le hi with hlt | rfl
  · obtain ⟨g, cap, hg, _, _⟩ := hown.form (by omega)
    injection hg with hg1 hg2 hg3
    subst hg1 hg3
    obtain ⟨hXg, F, hrow, hF⟩ := row_of_ptrs hown
    have hgw := hrow.lt
    have hgv : vb ≠ g := fun e => hne (by rw [e]; rfl)
    have hsz : (Try.prog.info? 85).map (·.size) = some 1 := by rw [hi0]; simp [hz1]
    have hone : ∀ u ∈ ((ptrs gs n).drop i), u.oneCell' = true := fun u hu => ptrs_one gs n u (List.mem_of_mem_drop hu)
    have hdl : ((ptrs gs n).drop i).length = n - i := by rw [List.length_drop, ptrs_len]
    have hwr : IntKind.i64.wrap ((i : Int) + 1) = (i : Int) + 1 := by rw [IntKind.wrap_i64]; omega
    have htn : ((i : Int) + 1).toNat = i + 1 := by omega
    have hz2' : ¬ ((i : Int) = (n : Int)) := by omega
    have hci : ¬ (c = i) := by omega
    rcases Nat.lt_or_ge n c with hroom | hfull
    · obtain ⟨cv, hhv, hcv, _⟩ := id hrow
      have hov : ∀ lb cb, (callFunc 153 #[.slice (some ⟨vb, 0, none⟩) 1 1, .slice (some ⟨g, i + 1, none⟩) lb cb]).run Try.prog w = .ok (.value (.bool false)) w := fun lb cb => by
        rw [run_callFunc_extern Try.func153 (by kernel_rfl) (by kernel_rfl) (by kernel_rfl) (e := Extern.SlicesOverlaps.overlaps #[114, 114] #[4]) (by kernel_rfl),
          Lib.run_overlaps_apart w 114 4 85 Try.underlying114 1 Try.sizeOf85 ⟨vb, 0, none⟩ ⟨g, i + 1, none⟩ 1 1 lb cb hgv 85 85 1 c (by simp [World.shape?, hvb]) (by simp [World.shape?, hhv, hcv]) (by omega) (by simp [World.frozen?, hvb]) (by simp [World.frozen?, hvb])]
        rfl
      clear hhv hcv
      have hcel := cell_of_ptr hrow hF (Nat.le_of_lt hroom) i
      have hb1 : (0 : Int) ≤ (i : Int) + 1 := by omega
      have hb2 : ¬ (c = i + 1) := by omega
      have hb3 : (i : Int) ≤ (n : Int) + 1 := by omega
      have hcp1 : ∀ ty dc sc, (Builtin.copy_ #[114, 114] ty #[.slice (some ⟨g, i + 1, none⟩) (n - i) dc, .slice (some ⟨g, i, none⟩) (n + 1 - i) sc]).run Try.prog w.drew = .ok (goInt ((ptrs gs n).drop i).length) (w.drew.setCells g (i + 1) ((ptrs gs n).drop i)) := fun ty dc sc =>
        run_copy_cells w.drew _ _ ty 85 g (i + 1) (n - i) dc ⟨g, i, none⟩ (n + 1 - i) sc ((ptrs gs n).drop i) Try.underlying114 hsz (by rw [hdl]; simp only [Nat.min_def]; split <;> omega)
          (fun j u hj => by rw [Addr.add_lit]; exact hcel j u hj) (fun j hj => by rw [show w.drew.cell? ⟨g, i + 1 + j, none⟩ = _ from hrow.cell (i := i + 1 + j) (by omega)]; rfl) (fun j hj => hrow.frozen (i + 1 + j)) hone
      have hrow1 := rowIs_setCells ((ptrs gs n).drop i) (i + 1) w.drew F hrow
      have hg1 : w.grownBy (w.drew.setCells g (i + 1) ((ptrs gs n).drop i)) (some g) := (show w.grownBy w.drew (some g) from ⟨rfl, rfl, rfl, Nat.le_refl _, fun _ _ _ => rfl⟩).trans (setsP_grown g _ _ _)
      have hvc1 : (w.drew.setCells g (i + 1) ((ptrs gs n).drop i)).cell? ⟨vb, 0, none⟩ = some (.pointer (some ⟨p, 0, none⟩)) := hg1.cell hvc (fun e => hgv (by injection e))
      generalize w.drew.setCells g (i + 1) ((ptrs gs n).drop i) = W1 at *
      have hcp2 : ∀ ty dc, (Builtin.copy_ #[114, 114] ty #[.slice (some ⟨g, i, none⟩) (n + 1 - i) dc, .slice (some ⟨vb, 0, none⟩) 1 1]).run Try.prog W1 = .ok (goInt 1) (W1.setCells g i [.pointer (some ⟨p, 0, none⟩)]) := fun ty dc =>
        run_copy_cells W1 _ _ ty 85 g i (n + 1 - i) dc ⟨vb, 0, none⟩ 1 1 [.pointer (some ⟨p, 0, none⟩)] Try.underlying114 hsz (by simp only [List.length_cons, List.length_nil, Nat.min_def]; split <;> omega)
          (fun j u hj => by
            cases j with
            | zero => simp at hj; subst hj; exact hvc1
            | succ j => simp at hj) (fun j hj => by simp at hj; subst hj; rw [hrow1.cell (i := i + 0) (by omega)]; rfl) (fun j hj => hrow1.frozen (i + j)) (fun u hu => by simp at hu; subst hu; rfl)
      have hrow2 := rowIs_setCells [.pointer (some ⟨p, 0, none⟩)] i W1 _ hrow1
      have hg2 := hg1.trans (setsP_grown g [.pointer (some ⟨p, 0, none⟩)] i W1)
      have HF := Lib.hid (show (W1.setCells g i [.pointer (some ⟨p, 0, none⟩)]).ownsRow X 85 1 (.slice (some ⟨g, 0, none⟩) (n + 1) c) (n + 1) (ptrs (insP gs i p) (n + 1)) from ownP_of_row hrow2 hXg (by omega) (by unfold maxLen; omega) (ptrs_len _ _) (fun q hq => by
        rw [ptrs_at _ _ q hq]
        by_cases h1 : i ≤ q ∧ q < i + 1
        · obtain rfl : q = i := by omega
          simp [insP]
        · rw [if_neg (by simpa using h1)]
          by_cases h2 : i + 1 ≤ q ∧ q < i + 1 + ((ptrs gs n).drop i).length
          · rw [if_pos h2, drop_at gs n i (q - (i + 1)) (by omega)]
            have e1 : i + (q - (i + 1)) = q - 1 := by omega
            simp [insP, e1, show ¬ q < i by omega, show ¬ q = i by omega]
          · rw [if_neg h2, hF q (by rw [hdl] at h2; omega)]
            simp [insP, show q < i by rw [hdl] at h2; omega]))
      have HG := Lib.hid hg2
      clear hrow1 hrow2 hg1 hg2 hrow hcel hF hown hvc1
      go_enter Try.func149, Try.ntmps149
      go_wp2_with (simp only [hov])
      go_region_law_o (refine step_copy_runI rfl _ _ 114 114 rfl _ _ (by simp [Act.eval, Act.put]) (by simp [Act.eval, Act.put]) (hcp1 _ _ _) ?_)
      go_wp2_with (at_builtin; refine wpList_copy_runI _ rfl _ _ 114 114 rfl _ _ rfl rfl (hcp2 _ _) ?_)
      go_ret
      exact ⟨⟨_, rfl, HF.out, .inl rfl⟩, HG.out⟩
    · obtain rfl : c = n := by omega
      have hcs : ∀ (j : Nat) (u : Value), (ptrs gs c)[j]? = some u → w.cell? ⟨g, j, none⟩ = some u := fun j u h => by
        have := cell_of_ptr hrow hF (Nat.le_refl _) 0 j u (by simpa using h)
        simpa using this
      have hcel := cell_of_ptr hrow hF (Nat.le_refl _) i
      have hold : (Builtin.firstCells i0.size i (.slice (some ⟨g, 0, none⟩) i c)).run Try.prog w.drew = .ok ((ptrs gs c).take i).toArray w.drew := by
        rw [hz1]
        exact run_firstCells_some w.drew 1 i ⟨g, 0, none⟩ i c ((ptrs gs c).take i) (by rw [List.length_take, ptrs_len]; omega) (fun j u hj => by
          rw [Addr.add_lit]
          rw [List.getElem?_take] at hj
          split at hj
          · rw [Nat.zero_add]; exact hcs j u hj
          · cases hj)
      have hik : i + (c + 1 - i) = c + 1 := by omega
      have hkk : (c : Int) + 1 - (i : Int) = ((c + 1 - i : Nat) : Int) := by omega
      obtain ⟨G, hG⟩ : ∃ G, G = grownCap w (c + 1) c 85 := ⟨_, rfl⟩
      obtain ⟨ROW, hROW⟩ : ∃ ROW : Array Value, ROW = ((ptrs gs c).take i).toArray ++ Builtin.zeroCells (Value.pointer none).cells (c + 1 - i) ++ Builtin.zeroCells (Value.pointer none).cells (G - (c + 1)) := ⟨_, rfl⟩
      have hGn : c + 1 ≤ G := by rw [hG]; exact grownCap_ge w _ _ _
      have hGm : G ≤ maxLen := by rw [hG]; exact grownCap_le_maxLen w (c + 1) c 85 (by unfold maxLen; omega)
      have hRl : ROW.size = G := by
        rw [hROW]
        simp [Builtin.zeroCells, Value.cells, ptrs_len]
        omega
      have hRt : ∀ q, q < i → ROW[q]? = some (.pointer (some ⟨gs q, 0, none⟩)) := fun q hq => by
        rw [hROW, Array.append_assoc, Array.getElem?_append_left (by simp [ptrs_len]; omega)]
        simp only [List.getElem?_toArray]
        rw [List.getElem?_take, if_pos hq, ptrs_at gs c q (by omega)]
      have hrz : ∀ ty, (Builtin.append_ #[114, 3] ty #[.slice (some ⟨g, 0, none⟩) i c, .int .i64 ((c : Int) + 1 - (i : Int))]).run Try.prog w = .ok (.slice (some ⟨w.heap.size, 0, none⟩) (c + 1) G) (w.drew.alloc (.cells ROW 85)) := fun ty => by
        have h := Lib.run_append_grow_zeros w 114 3 ty 85 i0 _ .i64 .i64 Try.underlying114 Try.underlying3 hi0 hz0 (some ⟨g, 0, none⟩) i c ((ptrs gs c).take i) hold (c + 1 - i) (by omega) (by omega) (by omega) (by omega) (by rw [hz2]; omega) (by rw [hz2, hik]; exact growslice_fits (by omega) (by omega))
        rw [hik] at h
        rw [hkk, hROW, hG]
        exact h
      have hbN : g ≠ w.heap.size := by omega
      have hrow0 : (w.drew.alloc (.cells ROW 85)).rowIs w.heap.size 85 G (fun q => ROW[q]?.getD (.pointer none)) := ⟨ROW, heap_alloc_new w.drew _, hRl, fun q hq => by simp [show q < ROW.size by omega]⟩
      have hg0 : w.grownBy (w.drew.alloc (.cells ROW 85)) none := (show w.grownBy w.drew none from ⟨rfl, rfl, rfl, Nat.le_refl _, fun _ _ _ => rfl⟩).trans (World.grownBy_alloc w.drew _ none)
      have hb0 : Below w.heap.size w (w.drew.alloc (.cells ROW 85)) := (Below.refl _ w).drew.alloc (Nat.le_refl _) _
      have hvw : vb < w.heap.size := heap_lt hvb
      have hvc0 : (w.drew.alloc (.cells ROW 85)).cell? ⟨vb, 0, none⟩ = some (.pointer (some ⟨p, 0, none⟩)) := (hb0.cell (p := ⟨vb, 0, none⟩) hvw).trans hvc
      have hcel0 : ∀ (j : Nat) (u : Value), ((ptrs gs c).drop i)[j]? = some u → (w.drew.alloc (.cells ROW 85)).cell? ⟨g, i + j, none⟩ = some u := fun j u h => (hb0.cell (p := ⟨g, i + j, none⟩) hgw).trans (hcel j u h)
      have hbel := hb0
      generalize hW0 : w.drew.alloc (.cells ROW 85) = W0 at *
      have hcpA : ∀ ty dc, (Builtin.copy_ #[114, 114] ty #[.slice (some ⟨w.heap.size, i, none⟩) (c + 1 - i) dc, .slice (some ⟨vb, 0, none⟩) 1 1]).run Try.prog W0 = .ok (goInt 1) (W0.setCells w.heap.size i [.pointer (some ⟨p, 0, none⟩)]) := fun ty dc =>
        run_copy_cells W0 _ _ ty 85 w.heap.size i (c + 1 - i) dc ⟨vb, 0, none⟩ 1 1 [.pointer (some ⟨p, 0, none⟩)] Try.underlying114 hsz (by simp only [List.length_cons, List.length_nil, Nat.min_def]; split <;> omega)
          (fun j u hj => by
            cases j with
            | zero => simp at hj; subst hj; exact hvc0
            | succ j => simp at hj) (fun j hj => by simp at hj; subst hj; rw [hrow0.cell (i := i + 0) (by omega)]; rfl) (fun j hj => hrow0.frozen (i + j)) (fun u hu => by simp at hu; subst hu; rfl)
      have hrow1 := rowIs_setCells [.pointer (some ⟨p, 0, none⟩)] i W0 _ hrow0
      have hbel1 := below_setCells (b := w.heap.size) (Nat.le_refl w.heap.size) [.pointer (some ⟨p, 0, none⟩)] i W0 hbel
      have hcel1 : ∀ (j : Nat) (u : Value), ((ptrs gs c).drop i)[j]? = some u → (W0.setCells w.heap.size i [.pointer (some ⟨p, 0, none⟩)]).drew.cell? ⟨g, i + j, none⟩ = some u := fun j u h => (hbel1.cell (p := ⟨g, i + j, none⟩) hgw).trans (hcel j u h)
      generalize W0.setCells w.heap.size i [.pointer (some ⟨p, 0, none⟩)] = W1 at *
      have hcpB : ∀ ty dc sc, (Builtin.copy_ #[114, 114] ty #[.slice (some ⟨w.heap.size, i + 1, none⟩) (c - i) dc, .slice (some ⟨g, i, none⟩) (c - i) sc]).run Try.prog W1.drew = .ok (goInt ((ptrs gs c).drop i).length) (W1.drew.setCells w.heap.size (i + 1) ((ptrs gs c).drop i)) := fun ty dc sc =>
        run_copy_cells W1.drew _ _ ty 85 w.heap.size (i + 1) (c - i) dc ⟨g, i, none⟩ (c - i) sc ((ptrs gs c).drop i) Try.underlying114 hsz (by rw [hdl]; simp only [Nat.min_def]; split <;> omega)
          (fun j u hj => by rw [Addr.add_lit]; exact hcel1 j u hj) (fun j hj => by rw [show W1.drew.cell? ⟨w.heap.size, i + 1 + j, none⟩ = _ from hrow1.cell (i := i + 1 + j) (by omega)]; rfl) (fun j hj => hrow1.frozen (i + 1 + j)) hone
      have hrow2 := rowIs_setCells ((ptrs gs c).drop i) (i + 1) W1.drew _ hrow1
      have hbel2 := below_setCells (b := w.heap.size) (Nat.le_refl w.heap.size) ((ptrs gs c).drop i) (i + 1) W1.drew hbel1.drew
      have HF := Lib.hid (show (W1.drew.setCells w.heap.size (i + 1) ((ptrs gs c).drop i)).ownsRow X 85 1 (.slice (some ⟨w.heap.size, 0, none⟩) (c + 1) G) (c + 1) (ptrs (insP gs i p) (c + 1)) from ownP_of_row hrow2 hX hGn hGm (ptrs_len _ _) (fun q hq => by
        rw [ptrs_at _ _ q hq]
        by_cases h2 : i + 1 ≤ q ∧ q < i + 1 + ((ptrs gs c).drop i).length
        · rw [if_pos h2, drop_at gs c i (q - (i + 1)) (by omega)]
          have e1 : i + (q - (i + 1)) = q - 1 := by omega
          simp [insP, e1, show ¬ q < i by omega, show ¬ q = i by omega]
        · rw [if_neg h2]
          by_cases h1 : i ≤ q ∧ q < i + 1
          · obtain rfl : q = i := by omega
            simp [insP]
          · rw [if_neg (by simpa using h1), hRt q (by rw [hdl] at h2; omega)]
            simp [insP, show q < i by rw [hdl] at h2; omega]))
      have HG := Lib.hid (show w.grownBy (W1.drew.setCells w.heap.size (i + 1) ((ptrs gs c).drop i)) (Value.slice (some ⟨g, 0, none⟩) c c).ownBlock from ⟨hbel2.os, hbel2.tape, hbel2.output, hbel2.size, fun k hk _ => hbel2.block k hk⟩)
      have hGi : ¬ (G = i) := by omega
      have hGim : ¬ (G = i + 1) := by omega
      have hb1 : (0 : Int) ≤ (i : Int) + 1 := by omega
      have hb3 : (i : Int) ≤ (c : Int) := by omega
      have hGL := hGm
      unfold maxLen at hGL
      clear hrow1 hrow2 hrow0 hbel1 hbel2 hbel hcel hcel0 hcel1 hF hown hrow hvc0 hg0 hb0 hold hROW hG hRt hRl hcs hkk hik hGm
      go_enter Try.func149, Try.ntmps149
      go_wp2_with (first
        | (at_builtin; refine Lib.wpList_append_run _ rfl _ _ _ _ rfl _ _ rfl rfl _ _ (hrz _) ?_)
        | (at_builtin; refine wpList_copy_runI _ rfl _ _ 114 114 rfl _ _ rfl rfl (hcpA _ _) ?_))
      go_region_law_o (refine step_copy_runI rfl _ _ 114 114 rfl _ _ (by simp [Act.eval, Act.put]) (by simp [Act.eval, Act.put]) (hcpB _ _ _) ?_)
      go_wp2
      go_ret
      exact ⟨⟨_, rfl, HF.out, .inr ⟨_, rfl, Nat.le_refl _⟩⟩, HG.out⟩
  · have hsp : c = i ∨ (i < c ∧ ¬ (c = i)) := by omega
    rcases hsp with rfl | ⟨hci, hci'⟩
    · go_enter Try.func149, Try.ntmps149
      go_wp2_with (at_builtin; refine wpList_append_own_at _ rfl _ _ 114 rfl X 85 i0 _ 1 8 Try.underlying114 hi0 hz0 hz1 hz2 rfl (by decide) _ _ _ rfl hown ⟨vb, 0, none⟩ 1 1 [.pointer (some ⟨p, 0, none⟩)] rfl rfl ?c1 ?c2 ?c3 ?c4 ?c5 ?_)
      case c1 => exact World.news_of_block hvb
      case c2 => intro u hu; simp at hu; subst hu; rfl
      case c3 => unfold maxLen; omega
      case c4 => omega
      case c5 => exact hX
      intro v' w2 hown2 hgrow2 _ hat2
      have HO := Lib.hid hown2
      have HA := Lib.hid hat2
      obtain ⟨A2, d2, rfl, _, _⟩ := own_slice hown2
      clear hown2 hat2
      go_wp2_with fail
      go_ret
      exact ⟨⟨_, rfl, by rw [insP_end]; exact HO.out, by rcases HA.out with h | h; exact .inl h; exact .inr ⟨_, h, Nat.le_refl _⟩⟩, hgrow2⟩
    · go_enter Try.func149, Try.ntmps149
      go_wp2_with (at_builtin; refine wpList_append_own_at _ rfl _ _ 114 rfl X 85 i0 _ 1 8 Try.underlying114 hi0 hz0 hz1 hz2 rfl (by decide) _ _ _ rfl hown ⟨vb, 0, none⟩ 1 1 [.pointer (some ⟨p, 0, none⟩)] rfl rfl ?c1 ?c2 ?c3 ?c4 ?c5 ?_)
      case c1 => exact World.news_of_block hvb
      case c2 => intro u hu; simp at hu; subst hu; rfl
      case c3 => unfold maxLen; omega
      case c4 => omega
      case c5 => exact hX
      intro v' w2 hown2 hgrow2 _ hat2
      have HO := Lib.hid hown2
      have HA := Lib.hid hat2
      obtain ⟨A2, d2, rfl, _, _⟩ := own_slice hown2
      clear hown2 hat2
      go_wp2_with fail
      go_ret
      exact ⟨⟨_, rfl, by rw [insP_end]; exact HO.out, by rcases HA.out with h | h; exact .inl h; exact .inr ⟨_, h, Nat.le_refl _⟩⟩, hgrow2⟩
end Go.Proofs.Ytfodkefaflpicaa
