/-
  The two cells of a boxed book.
-/
import Derived.Test.YtempggikcpminaaOwn
namespace Go.Proofs.Ytempggikcpminaa
open Go.RowKit

theorem cell2 {w : World} {S : Nat} {a b : Value} {T : TypeId} (h : w.heap[S]? = some (.cells #[a, b] T (0, 0))) : w.cell? ⟨S, 0, none⟩ = some a ∧ w.cell? ⟨S, 1, none⟩ = some b := by
  refine ⟨?_, ?_⟩ <;> simp [World.cell?, h]
end Go.Proofs.Ytempggikcpminaa
