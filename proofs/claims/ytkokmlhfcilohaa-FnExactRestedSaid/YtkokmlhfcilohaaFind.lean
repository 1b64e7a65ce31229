/-
  Finding an order in a book, in both programs.
-/
import Derived.Test.YtkokmlhfcilohaaBookT
import Derived.Test.YtkokmlhfcilohaaBookZ
namespace Go.Proofs.Ytkokmlhfcilohaa
open Go.RowKit Wire

/-- what finding an id comes to -/
def FindRel (bk : Bool) (za : List Int) (n : Nat) (zb : List Int) (m : Nat) (id s : Int) (f : Nat → Int) (ok : Bool) : Prop :=
  (bk = true ∧ ∃ k : Nat, k < n ∧ (∀ j, j < k → idN za j ≠ id) ∧ idN za k = id ∧ s = 1 ∧ ok = true ∧ ∀ j, j < 4 → f j = num za (k * 4 + j)) ∨
  (bk = true ∧ (∀ j, j < n → idN za j ≠ id) ∧ ∃ k : Nat, k < m ∧ (∀ j, j < k → idN zb j ≠ id) ∧ idN zb k = id ∧ s = 2 ∧ ok = true ∧ ∀ j, j < 4 → f j = num zb (k * 4 + j)) ∨
  ((bk = false ∨ ((∀ j, j < n → idN za j ≠ id) ∧ ∀ j, j < m → idN zb j ≠ id)) ∧ s = 0 ∧ ok = false ∧ ∀ j, j < 4 → f j = 0)
theorem first_one {f : Nat → Int} {x : Int} {k l : Nat} (h1 : ∀ j, j < k → f j ≠ x) (h2 : f k = x) (h3 : ∀ j, j < l → f j ≠ x) (h4 : f l = x) : k = l := by
  rcases Nat.lt_trichotomy k l with h | h | h
  · exact absurd h2 (h3 k h)
  · exact h
  · exact absurd h4 (h1 l h)
theorem FindRel.one {bk : Bool} {za zb : List Int} {n m : Nat} {id s t : Int} {f g : Nat → Int} {ok is : Bool} (h : FindRel bk za n zb m id s f ok) (k : FindRel bk za n zb m id t g is) : s = t ∧ ok = is ∧ ∀ j, j < 4 → f j = g j := by
  rcases h with ⟨h0, K, h1, h2, h3, h4, h5, h6⟩ | ⟨h0, hn, K, h1, h2, h3, h4, h5, h6⟩ | ⟨h0, h4, h5, h6⟩ <;> rcases k with ⟨k0, L, k1, k2, k3, k4, k5, k6⟩ | ⟨k0, kn, L, k1, k2, k3, k4, k5, k6⟩ | ⟨k0, k4, k5, k6⟩
  · obtain rfl := first_one h2 h3 k2 k3
    exact ⟨by omega, by rw [h5, k5], fun j hj => (h6 j hj).trans (k6 j hj).symm⟩
  · exact absurd h3 (kn K h1)
  · rcases k0 with k0 | ⟨k0, _⟩
    · rw [h0] at k0; cases k0
    · exact absurd h3 (k0 K h1)
  · exact absurd k3 (hn L k1)
  · obtain rfl := first_one h2 h3 k2 k3
    exact ⟨by omega, by rw [h5, k5], fun j hj => (h6 j hj).trans (k6 j hj).symm⟩
  · rcases k0 with k0 | ⟨_, k0⟩
    · rw [h0] at k0; cases k0
    · exact absurd h3 (k0 K h1)
  · rcases h0 with h0 | ⟨h0, _⟩
    · rw [k0] at h0; cases h0
    · exact absurd k3 (h0 L k1)
  · rcases h0 with h0 | ⟨_, h0⟩
    · rw [k0] at h0; cases h0
    · exact absurd k3 (h0 L k1)
  · exact ⟨by omega, by rw [h5, k5], fun j hj => (h6 j hj).trans (k6 j hj).symm⟩
end Go.Proofs.Ytkokmlhfcilohaa
