/-
 What is carried through a region that draws its order: the world has only grown, and some blocks lie as they lay.
-/
import Derived.Test.YtgjjdnojiegidaaGreatDoorHA
import Derived.Deep.RegionHeld3
import Derived.Deep.Cut
import Derived.Deep.CutBlock
import Derived.Deep.DeepCutAuto
namespace Go.Proofs.YtgjjdnojiegidaaGreatDoor
open Go.RowKit Wire

theorem heap_lt' {w : World} {g : Nat} {o : Obj} (h : w.heap[g]? = some o) : g < w.heap.size := by
 rcases Nat.lt_or_ge g w.heap.size with h' | h'
 · exact h'
 · simp [Array.getElem?_eq_none h'] at h
structure Keeps (X : Nat) (w0 : World) (L : List (Nat × Obj)) (v : World) : Prop where
 bel : Below X w0 v
 low : X ≤ v.heap.size
 at_ : ∀ p ∈ L, v.heap[p.1]? = some p.2
structure Keeps.Lo (X : Nat) (L : List (Nat × Obj)) (Y : Nat) : Prop where
 low : X ≤ Y
 lt : ∀ p ∈ L, p.1 < Y
section
variable {X Y : Nat} {w0 v v1 : World} {L : List (Nat × Obj)}
theorem Keeps.lo (h : Keeps X w0 L v) : Keeps.Lo X L v.heap.size := ⟨h.low, fun p hp => heap_lt' (h.at_ p hp)⟩
theorem Keeps.upto' (h : Keeps X w0 L v) (hY : Keeps.Lo X L Y) (hb : Below Y v v1) : Keeps X w0 L v1 :=
 ⟨h.bel.trans (hb.mono hY.low), Nat.le_trans h.low hb.size, fun p hp => (hb.block p.1 (hY.lt p hp)).trans (h.at_ p hp)⟩
theorem Keeps.upto (h : Keeps X w0 L v) (hY : v.heap.size ≤ Y) (hb : Below Y v v1) : Keeps X w0 L v1 :=
 h.upto' ⟨Nat.le_trans h.low hY, fun p hp => Nat.lt_of_lt_of_le (heap_lt' (h.at_ p hp)) hY⟩ hb
theorem Keeps.drew (h : Keeps X w0 L v) : Keeps X w0 L v.drew := h.upto (Nat.le_refl _) (Below.refl _ _).drew
theorem Keeps.more (h : Keeps X w0 L v) {g : Nat} {o : Obj} (hg : v.heap[g]? = some o) : Keeps X w0 ((g, o) :: L) v :=
 ⟨h.bel, h.low, fun p hp => by
  rcases List.mem_cons.1 hp with rfl | hp
  · exact hg
  · exact h.at_ p hp⟩
theorem Keeps.one {g : Nat} {o : Obj} (h : Keeps X w0 ((g, o) :: L) v) : v.heap[g]? = some o := h.at_ _ (List.mem_cons_self ..)
theorem Keeps.two {g g' : Nat} {o o' : Obj} (h : Keeps X w0 ((g, o) :: (g', o') :: L) v) : v.heap[g']? = some o' := h.at_ _ (List.mem_cons_of_mem _ (List.mem_cons_self ..))
theorem Keeps.three {g g' g2 : Nat} {o o' o2 : Obj} (h : Keeps X w0 ((g, o) :: (g', o') :: (g2, o2) :: L) v) : v.heap[g2]? = some o2 := h.at_ _ (List.mem_cons_of_mem _ (List.mem_cons_of_mem _ (List.mem_cons_self ..)))
theorem Keeps.four {g g' g2 g3 : Nat} {o o' o2 o3 : Obj} (h : Keeps X w0 ((g, o) :: (g', o') :: (g2, o2) :: (g3, o3) :: L) v) : v.heap[g3]? = some o3 := h.at_ _ (List.mem_cons_of_mem _ (List.mem_cons_of_mem _ (List.mem_cons_of_mem _ (List.mem_cons_self ..))))
end
end Go.Proofs.YtgjjdnojiegidaaGreatDoor
