/-
  A drawn list of records.
-/
import Derived.Test.YthmoddohkchhfaaDrawRec
import Derived.Test.YthmoddohkchhfaaListRec
namespace Go.Proofs.Ythmoddohkchhfaa
open Go.RowKit Wire

/-- a slice of n rows, with room for c -/
def Has (w : World) (sz : Nat) (A : Option Addr) (n c : Nat) (zs : List Int) : Prop := n ≤ c ∧ c ≤ maxLen ∧ (0 < n → A ≠ none) ∧ Lst w w.heap.size sz A n zs
theorem Has.later {w w' : World} {sz n c : Nat} {A : Option Addr} {zs : List Int} (h : Has w sz A n c zs) (hb : Below w.heap.size w w') : Has w' sz A n c zs := ⟨h.1, h.2.1, h.2.2.1, h.2.2.2.later hb⟩
theorem Has.of_own {w : World} {base sz n : Nat} {e : TypeId} {v : Value} {zs : List Int} (h : w.ownsRow base e sz v n (nums zs)) : ∃ (A : Option Addr) (c : Nat), v = .slice A n c ∧ Has w sz A n c zs := by
  rcases id h.2 with ⟨rfl, rfl⟩ | ⟨g, cap, cur, rfl, _, _, h1, h2, _⟩
  · exact ⟨none, 0, rfl, Nat.le_refl _, Nat.zero_le _, fun hn => by omega, Lst.of_own h⟩
  · exact ⟨_, cap, rfl, h1, h2, fun _ => by simp, Lst.of_own h⟩
/-- some list of at most so many rows -/
def SomeRows (sz most : Nat) (w : World) (e : Ending) (w' : World) : Prop := ∃ (A : Option Addr) (n c : Nat) (zs : List Int), n ≤ most ∧ e = .returned (.slice A n c) ∧ Has w' sz A n c zs ∧ Below w.heap.size w w' ∧ ∀ a, A = some a → w.heap.size ≤ a.block
end Go.Proofs.Ythmoddohkchhfaa
