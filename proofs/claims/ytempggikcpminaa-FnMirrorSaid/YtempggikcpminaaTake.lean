/-
  The document's book without an order.
-/
import Derived.Test.YtempggikcpminaaFindS
import Derived.Test.YtempggikcpminaaOpened
import Derived.Test.YtempggikcpminaaSides
namespace Go.Proofs.Ytempggikcpminaa
open Go.RowKit Wire

def tkZ (zs : List Int) (id : Int) : Nat → List Int
  | 0 => []
  | k + 1 => if num zs (k * 4) = id then tkZ zs id k else tkZ zs id k ++ [num zs (k * 4), num zs (k * 4 + 1), num zs (k * 4 + 2), num zs (k * 4 + 3)]
def tkN (zs : List Int) (id : Int) : Nat → Nat
  | 0 => 0
  | k + 1 => if num zs (k * 4) = id then tkN zs id k else tkN zs id k + 1
theorem own_apart {w w' : World} {B n sz : Nat} {e : TypeId} {v : Value} {xs : List Value} {row : Option Nat} (h : w.ownsRow B e sz v n xs) (hg : w.grownBy w' row) (hr : ∀ q, v.ownBlock = some q → row ≠ some q) : w'.ownsRow B e sz v n xs :=
  h.kept hg (by
    rcases h.2 with ⟨rfl, _⟩ | ⟨g, cap, cur, rfl, _⟩
    · exact .inl rfl
    · exact .inr (fun e => hr g rfl (e.symm.trans rfl)))
theorem tkN_le (zs : List Int) (id : Int) : ∀ k, tkN zs id k ≤ k
  | 0 => Nat.le_refl _
  | k + 1 => by
    have := tkN_le zs id k
    rw [tkN]
    split <;> omega
/-- what holds all through the copying of one order -/
def TkS (w w' : World) (A1 A2 : Option Addr) (n c m d b o k : Nat) (z0 z1 z2 z3 : Int) : Prop := Below w.heap.size w w' ∧ w'.cell? ⟨w.heap.size, 0, none⟩ = some (.slice A1 n c) ∧ w'.cell? ⟨w.heap.size, 1, none⟩ = some (.slice A2 m d) ∧ w'.cell? ⟨b, o + k * 4, none⟩ = some (.int .i64 z0) ∧ w'.cell? ⟨b, o + k * 4 + 1, none⟩ = some (.int .i64 z1) ∧ w'.cell? ⟨b, o + k * 4 + 2, none⟩ = some (.int .i64 z2) ∧ w'.cell? ⟨b, o + k * 4 + 3, none⟩ = some (.int .i64 z3) ∧ w'.heap[w.heap.size]? = some (.cells #[.slice A1 n c, .slice A2 m d] 26 (0, 0)) ∧ w'.heap[w.heap.size + 1]? = some (.cells #[.slice none 0 0, .slice none 0 0] 26 (0, 0)) ∧ w.heap.size + 2 < w'.heap.size ∧ ∃ x y, w'.heap[w.heap.size + 2]? = some (.cells #[x, y] 26 (0, 0))
theorem TkS.keep {w w' w'' : World} {A1 A2 : Option Addr} {n c m d b o k : Nat} {z0 z1 z2 z3 : Int} (h : TkS w w' A1 A2 n c m d b o k z0 z1 z2 z3) (hb : b < w.heap.size) (hbel : Below w.heap.size w w'') (e : ∀ q, q < w.heap.size + 2 → w''.heap[q]? = w'.heap[q]?) (hs : w.heap.size + 2 < w''.heap.size) (h2 : ∃ x y, w''.heap[w.heap.size + 2]? = some (.cells #[x, y] 26 (0, 0))) : TkS w w'' A1 A2 n c m d b o k z0 z1 z2 z3 := by
  have g : ∀ p : Addr, p.block < w.heap.size + 2 → w''.cell? p = w'.cell? p := fun p hp => by unfold World.cell?; rw [e _ hp]
  exact ⟨hbel, (g _ (by show w.heap.size < _; omega)).trans h.2.1, (g _ (by show w.heap.size < _; omega)).trans h.2.2.1, (g _ (by show b < _; omega)).trans h.2.2.2.1, (g _ (by show b < _; omega)).trans h.2.2.2.2.1, (g _ (by show b < _; omega)).trans h.2.2.2.2.2.1, (g _ (by show b < _; omega)).trans h.2.2.2.2.2.2.1, (e _ (by omega)).trans h.2.2.2.2.2.2.2.1, (e _ (by omega)).trans h.2.2.2.2.2.2.2.2.1, hs, h2⟩
end Go.Proofs.Ytempggikcpminaa
