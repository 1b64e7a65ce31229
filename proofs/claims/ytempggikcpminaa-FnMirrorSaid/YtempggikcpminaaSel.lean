/-
  The orders that are left: where each was.
-/
import Derived.Test.YtempggikcpminaaDelFunc
namespace Go.Proofs.Ytempggikcpminaa
open Go.RowKit Wire

theorem tkZ_len (zs : List Int) (id : Int) : ∀ n, (tkZ zs id n).length = tkN zs id n * 4
  | 0 => rfl
  | n + 1 => by
    have ih := tkZ_len zs id n
    rw [tkZ, tkN]
    split
    · exact ih
    · rw [List.length_append, ih]
      simp
      omega
theorem tk_at (zs : List Int) (id : Int) (gs : Nat → Nat) : ∀ n q, q < tkN zs id n → ∃ k, k < n ∧ sel zs id gs n q = gs k ∧ ∀ j, j < 4 → num (tkZ zs id n) (q * 4 + j) = num zs (k * 4 + j)
  | 0, q, h => absurd h (Nat.not_lt_zero q)
  | n + 1, q, h => by
    have hl := tkZ_len zs id n
    by_cases hid : num zs (n * 4) = id
    · rw [tkN, if_pos hid] at h
      obtain ⟨k, h1, h2, h3⟩ := tk_at zs id gs n q h
      rw [sel, if_pos hid, tkZ, if_pos hid]
      exact ⟨k, by omega, h2, h3⟩
    · rw [tkN, if_neg hid] at h
      rw [sel, if_neg hid, tkZ, if_neg hid]
      by_cases hq : q = tkN zs id n
      · subst hq
        refine ⟨n, by omega, if_pos rfl, fun j hj => ?_⟩
        unfold num
        rw [List.getD_eq_getElem?_getD, List.getElem?_append_right (by omega), hl, Nat.add_sub_cancel_left]
        rcases (show j = 0 ∨ j = 1 ∨ j = 2 ∨ j = 3 from by omega) with rfl | rfl | rfl | rfl <;> rfl
      · obtain ⟨k, h1, h2, h3⟩ := tk_at zs id gs n q (by omega)
        refine ⟨k, by omega, (if_neg hq).trans h2, fun j hj => ?_⟩
        rw [← h3 j hj]
        unfold num
        rw [List.getD_eq_getElem?_getD, List.getElem?_append_left (by omega), ← List.getD_eq_getElem?_getD]
theorem Copies.left {w : World} {X S L : Nat} {T : TypeId} {zs : List Int} {n : Nat} {v v' : Value} {gs : Nat → Nat} (h : Copies w X S L T zs n v gs) (id : Int) (hv : v'.ownBlock = v.ownBlock) : Copies w X S L T (tkZ zs id n) (tkN zs id n) v' (sel zs id gs n) := fun q hq => by
  obtain ⟨k, h1, h2, h3⟩ := tk_at zs id gs n q hq
  obtain ⟨c1, c2, c3, c4, c5⟩ := h k h1
  rw [h2, hv]
  exact ⟨c1, c2, c3, c4, c5.congr (fun j hj => by simp only [numAt]; rw [h3 j hj])⟩
end Go.Proofs.Ytempggikcpminaa
