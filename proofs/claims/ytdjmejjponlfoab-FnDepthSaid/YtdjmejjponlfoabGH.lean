/-
  Held, HeldBook, Two.
-/
import Derived.Test.YtdjmejjponlfoabOrd
import Derived.Test.YtdjmejjponlfoabTake
import Derived.Test.YtdjmejjponlfoabBookClosed
namespace Go.Proofs.Ytdjmejjponlfoab
open Go.RowKit Wire

end Go.Proofs.Ytdjmejjponlfoab

namespace Go.Proofs.Ytdjmejjponlfoab
open Go.RowKit Wire

end Go.Proofs.Ytdjmejjponlfoab

namespace Go.Proofs.Ytdjmejjponlfoab
open Go.RowKit Wire

/-- two rows of orders, each of its own memory -/
structure TwoRows (w : World) (base : Nat) (r1 : Value) (n1 : Nat) (z1 : List Int) (r2 : Value) (n2 : Nat) (z2 : List Int) : Prop where
  one : w.ownsRow base 28 4 r1 n1 (nums z1)
  two : w.ownsRow base 28 4 r2 n2 (nums z2)
  apart : ∀ q, r1.ownBlock = some q → r2.ownBlock ≠ some q
theorem TwoRows.below {w w' : World} {base : Nat} {r1 r2 : Value} {n1 n2 : Nat} {z1 z2 : List Int} (h : TwoRows w base r1 n1 z1 r2 n2 z2) (hb : Below w.heap.size w w') : TwoRows w' base r1 n1 z1 r2 n2 z2 :=
  ⟨own_below h.one hb, own_below h.two hb, h.apart⟩
theorem TwoRows.mono {w : World} {base base' : Nat} {r1 r2 : Value} {n1 n2 : Nat} {z1 z2 : List Int} (h : TwoRows w base r1 n1 z1 r2 n2 z2) (hb : base' ≤ base) : TwoRows w base' r1 n1 z1 r2 n2 z2 :=
  ⟨own_mono h.one hb, own_mono h.two hb, h.apart⟩
theorem TwoRows.kept {w w' : World} {base g : Nat} {r1 r2 : Value} {n1 n2 : Nat} {z1 z2 : List Int} (h : TwoRows w base r1 n1 z1 r2 n2 z2) (hg : w.grownBy w' (some g)) (hlt : g < base) : TwoRows w' base r1 n1 z1 r2 n2 z2 :=
  ⟨h.one.kept hg (.inr (fun e => absurd (h.one.lt g e).1 (Nat.not_le_of_lt hlt))), h.two.kept hg (.inr (fun e => absurd (h.two.lt g e).1 (Nat.not_le_of_lt hlt))), h.apart⟩
theorem TwoRows.alloc {w : World} {base : Nat} {r1 r2 : Value} {n1 n2 : Nat} {z1 z2 : List Int} (h : TwoRows w base r1 n1 z1 r2 n2 z2) (o : Obj) : TwoRows (w.alloc o) base r1 n1 z1 r2 n2 z2 := ⟨h.one.alloc o, h.two.alloc o, h.apart⟩
theorem TwoRows.nil (w : World) (base : Nat) : TwoRows w base (.slice none 0 0) 0 [] (.slice none 0 0) 0 [] := ⟨World.ownsRow_nil _ _ _ _, World.ownsRow_nil _ _ _ _, fun q hq => by simp [Value.ownBlock] at hq⟩
theorem TwoRows.slices {w : World} {base : Nat} {r1 r2 : Value} {n1 n2 : Nat} {z1 z2 : List Int} (h : TwoRows w base r1 n1 z1 r2 n2 z2) : ∃ A1 c1 A2 c2, r1 = .slice A1 n1 c1 ∧ r2 = .slice A2 n2 c2 := by
  obtain ⟨A1, c1, h1, _, _⟩ := own_slice h.one
  obtain ⟨A2, c2, h2, _, _⟩ := own_slice h.two
  exact ⟨A1, c1, A2, c2, h1, h2⟩
theorem TwoRows.bookIn {w : World} {base : Nat} {A1 A2 : Option Addr} {c1 c2 n1 n2 : Nat} {z1 z2 : List Int} (h : TwoRows w base (.slice A1 n1 c1) n1 z1 (.slice A2 n2 c2) n2 z2) : BookIn w w.heap.size A1 n1 A2 n2 z1 z2 := ⟨Lst.of_own h.one, Lst.of_own h.two⟩
end Go.Proofs.Ytdjmejjponlfoab
