/-
  slices.Insert at the pointers of a side: one pointer put in at a place.
-/
import Derived.Test.YtdjmejjponlfoabBookW
import Derived.Shelf.Spec.SlicesInsertGrow
import Derived.Lib.LazyBuf
namespace Go.Proofs.Ytdjmejjponlfoab
open Go.RowKit Go.Lib

/-- the blocks with p put in at place i -/
def insP (gs : Nat → Nat) (i p : Nat) (q : Nat) : Nat := if q < i then gs q else if q = i then p else gs (q - 1)
theorem insP_end (gs : Nat → Nat) (n p : Nat) : ptrs (insP gs n p) (n + 1) = ptrs gs n ++ [.pointer (some ⟨p, 0, none⟩)] := by
  rw [ptrs, show insP gs n p n = p by simp [insP], ptrs_congr n (f := insP gs n p) (g := gs) (fun k hk => by simp [insP, hk])]
theorem row_of_ptrs {w : World} {X n c g : Nat} {T : TypeId} {gs : Nat → Nat} (hown : w.ownsRow X T 1 (.slice (some ⟨g, 0, none⟩) n c) n (ptrs gs n)) : X ≤ g ∧ ∃ F, w.rowIs g T c F ∧ ∀ q, q < n → F q = .pointer (some ⟨gs q, 0, none⟩) := by
  rcases hown.2 with ⟨h0, _⟩ | ⟨g', cap', cur, e', hX, hheap, _, _, hcs, _⟩
  · cases h0
  · injection e' with e1 _ e3
    injection e1 with e1
    injection e1 with e1
    subst e1 e3
    have hr : w.rowIs g T c (fun q => cur[q]?.getD (.pointer none)) := ⟨cur, hheap, by omega, fun i hi => by simp [show i < cur.size by omega]⟩
    refine ⟨hX, _, hr, fun q hq => ?_⟩
    have h1 := hown.cells (g := g) rfl q _ (ptrs_at gs n q hq)
    rw [show (⟨g, 0, none⟩ : Addr).add q = ⟨g, q, none⟩ from by unfold Addr.add; split <;> simp_all] at h1
    have h2 := hr.cell (i := q) (by omega)
    rw [h1] at h2
    injection h2 with h2
    exact h2.symm
theorem cell_of_ptr {w : World} {g c n : Nat} {T : TypeId} {F : Nat → Value} {gs : Nat → Nat} (hrow : w.rowIs g T c F) (hF : ∀ q, q < n → F q = .pointer (some ⟨gs q, 0, none⟩)) (hnc : n ≤ c) (i : Nat) : ∀ (j : Nat) (u : Value), ((ptrs gs n).drop i)[j]? = some u → w.cell? ⟨g, i + j, none⟩ = some u := fun j u h => by
  rw [List.getElem?_drop] at h
  have hj : i + j < n := by
    have := (List.getElem?_eq_some_iff.1 h).1
    rwa [ptrs_len] at this
  rw [ptrs_at gs n (i + j) hj] at h
  injection h with h
  rw [hrow.cell (by omega), hF _ hj, h]
theorem setsP_grown (g : Nat) : ∀ (vs : List Value) (o : Nat) (w : World), w.grownBy (w.setCells g o vs) (some g)
  | [], _, _ => World.grownBy.refl _ _
  | v :: vs, o, w => World.grownBy.trans (set_grown w g o v) (setsP_grown g vs (o + 1) _)
theorem ownP_of_row {w : World} {X g N cap : Nat} {e : TypeId} {F : Nat → Value} {xs : List Value} (h : w.rowIs g e cap F) (hX : X ≤ g) (hN : N ≤ cap) (hc : cap ≤ maxLen) (hl : xs.length = N) (hx : ∀ q, q < N → xs[q]? = some (F q)) : w.ownsRow X e 1 (.slice (some ⟨g, 0, none⟩) N cap) N xs := by
  obtain ⟨c, h1, h2, h3⟩ := h
  refine ⟨by omega, .inr ⟨g, cap, c, rfl, hX, h1, hN, hc, by omega, ?_⟩⟩
  apply List.ext_getElem?
  intro q
  rw [Nat.mul_one]
  by_cases hq : q < N
  · rw [List.getElem?_take, if_pos hq, hx q hq, Array.getElem?_toList, h3 q (by omega)]
  · rw [List.getElem?_take, if_neg hq, List.getElem?_eq_none (by omega)]
theorem drop_at (gs : Nat → Nat) (n i j : Nat) (h : i + j < n) : ((ptrs gs n).drop i)[j]? = some (.pointer (some ⟨gs (i + j), 0, none⟩)) := by
  rw [List.getElem?_drop, ptrs_at gs n (i + j) h]
end Go.Proofs.Ytdjmejjponlfoab
