/-
  Round, Met, Taken, CrossI, TakenI.
-/
import Derived.Test.YtdjmejjponlfoabKit
import Derived.RangeFuncNested
import Derived.RangeFuncBound
import Derived.RangeFuncCalls
import Derived.RangeFuncLeaves
import Derived.RangeFuncBox
import Derived.Shelf.Abstract
import Derived.OwnWalkIn
import Derived.TacticsInMore
import Derived.LoopNIn
import Derived.LoopIn
import Derived.Deep.RegionHeld
import Derived.Test.YtdjmejjponlfoabCross
import Derived.Test.YtdjmejjponlfoabTake
import Derived.Test.YtdjmejjponlfoabDrop
import Derived.Test.YtdjmejjponlfoabGH
import Derived.Test.YtdjmejjponlfoabOpened
namespace Go.Proofs.Ytdjmejjponlfoab
open Go.RowKit Go.Shelf

section
variable {P : Program} {ops : Array Oper} {Q : Exit → Act → World → Prop} {md : Region.Mode}
end
end Go.Proofs.Ytdjmejjponlfoab

namespace Go.Proofs.Ytdjmejjponlfoab
open Go.RowKit Go.Shelf Wire

/-- what the walk over the met orders reads lies as it lay -/
structure MetKeeps (b2 b3 : Nat) (r : Option Nat) (gs : Nat → Nat) (n : Nat) (w w' : World) : Prop where
  size : w.heap.size ≤ w'.heap.size
  block : ∀ b, b = b2 ∨ b = b3 ∨ r = some b → w'.heap[b]? = w.heap[b]?
  cell : ∀ k, k < n → ∀ j, j < 3 → w'.cell? ⟨gs k, j, none⟩ = w.cell? ⟨gs k, j, none⟩
theorem MetKeeps.refl (b2 b3 : Nat) (r : Option Nat) (gs : Nat → Nat) (n : Nat) (w : World) : MetKeeps b2 b3 r gs n w w := ⟨Nat.le_refl _, fun _ _ => rfl, fun _ _ _ _ => rfl⟩
theorem MetKeeps.trans {b2 b3 : Nat} {r : Option Nat} {gs : Nat → Nat} {n : Nat} {a b c : World} (h : MetKeeps b2 b3 r gs n a b) (k : MetKeeps b2 b3 r gs n b c) : MetKeeps b2 b3 r gs n a c :=
  ⟨Nat.le_trans h.size k.size, fun i hi => (k.block i hi).trans (h.block i hi), fun i hi j hj => (k.cell i hi j hj).trans (h.cell i hi j hj)⟩
theorem MetKeeps.drew {b2 b3 : Nat} {r : Option Nat} {gs : Nat → Nat} {n : Nat} {a b : World} (h : MetKeeps b2 b3 r gs n a b) : MetKeeps b2 b3 r gs n a b.drew := ⟨h.size, h.block, h.cell⟩
attribute [local go_sem] Oper.semAt_some
end Go.Proofs.Ytdjmejjponlfoab

namespace Go.Proofs.Ytdjmejjponlfoab
open Go.RowKit Wire

end Go.Proofs.Ytdjmejjponlfoab

namespace Go.Proofs.Ytdjmejjponlfoab
open Go.RowKit Go.Shelf Wire

end Go.Proofs.Ytdjmejjponlfoab

namespace Go.Proofs.Ytdjmejjponlfoab
open Go.RowKit Wire

end Go.Proofs.Ytdjmejjponlfoab
