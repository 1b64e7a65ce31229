/-
  Orders dropped from the opened book, by their number.
-/
import Derived.Test.YtempggikcpminaaSel
import Derived.Test.YtempggikcpminaaBookClosed
namespace Go.Proofs.Ytempggikcpminaa
open Go.RowKit Wire

theorem Opened.drew {w : World} {X S L : Nat} {T0 T1 T2 : TypeId} {F : Value} {side : Int} {zs : List Int} {n : Nat} {v : Value} {gs : Nat → Nat} (h : Opened w X S L T0 T1 T2 F side zs n v gs) : Opened w.drew X S L T0 T1 T2 F side zs n v gs := h.below (Below.refl _ _).drew
theorem Copies.drew {w : World} {X S L : Nat} {T : TypeId} {zs : List Int} {n : Nat} {v : Value} {gs : Nat → Nat} (h : Copies w X S L T zs n v gs) : Copies w.drew X S L T zs n v gs := h.below (Below.refl _ _).drew
theorem Opened.kept {w w' : World} {X S L : Nat} {T0 T1 T2 : TypeId} {F : Value} {side : Int} {zs : List Int} {n : Nat} {v : Value} {gs : Nat → Nat} {row : Option Nat} (h : Opened w X S L T0 T1 T2 F side zs n v gs) (hg : w.grownBy w' row) (hr : ∀ q, row = some q → q ≠ S ∧ q ≠ L ∧ v.ownBlock ≠ some q) : Opened w' X S L T0 T1 T2 F side zs n v gs :=
  ⟨h.low, (hg.block S (heap_lt h.side) (fun e => (hr S e.symm).1 rfl)).trans h.side, (hg.block L (heap_lt h.list) (fun e => (hr L e.symm).2.1 rfl)).trans h.list, own_apart h.own hg (fun q hq e => (hr q e).2.2 hq), h.far⟩
theorem Copies.kept {w w' : World} {X S L : Nat} {T : TypeId} {zs : List Int} {n : Nat} {v : Value} {gs : Nat → Nat} {row : Option Nat} (h : Copies w X S L T zs n v gs) (hg : w.grownBy w' row) (hr : ∀ q, row = some q → ∀ k, k < n → gs k ≠ q) : Copies w' X S L T zs n v gs := fun k hk => by
  obtain ⟨h1, h2, h3, h4, h5⟩ := h k hk
  exact ⟨h1, h2, h3, h4, h5.of_block (hg.block _ h5.lt (fun e => hr _ e.symm k hk rfl))⟩
theorem drop_far {w : World} {X S L : Nat} {T0 T1 T2 : TypeId} {F : Value} {side : Int} {zs : List Int} {n : Nat} {v : Value} {gs : Nat → Nat} (h : Opened w X S L T0 T1 T2 F side zs n v gs) {q : Nat} (hq : q < X) : q ≠ S ∧ q ≠ L ∧ v.ownBlock ≠ some q := by
  obtain ⟨h1, h2, _⟩ := h.low
  exact ⟨by omega, by omega, fun e => by have := (h.own.lt q e).1; omega⟩
/-- one side's list, filtered in place and stored -/
theorem drop_one {u u1 : World} {X S L : Nat} {T T0 T1 T2 : TypeId} {F : Value} {side : Int} {zs zs' : List Int} {n N : Nat} {v v' : Value} {gs g' : Nat → Nat} (hop : Opened u X S L T0 T1 T2 F side zs n v gs) (_ : Copies u X S L T zs n v gs) (hg : u.grownBy u1 v.ownBlock) (hv : v'.ownBlock = v.ownBlock) (hown : u1.ownsRow X T2 1 v' N (ptrs g' N)) (hcp : Copies u X S L T zs' N v' g') :
    Opened (u1.setCell ⟨L, 0, none⟩ v') X S L T0 T1 T2 F side zs' N v' g' ∧ Copies (u1.setCell ⟨L, 0, none⟩ v') X S L T zs' N v' g' := by
  refine ⟨⟨hop.low, (Below.heap_setCell u1 _ _ S hop.low.2.2).trans ((hg.block S (heap_lt hop.side) (fun e => hop.far.2 e.symm)).trans hop.side), heap_set0 ((hg.block L (heap_lt hop.list) (fun e => hop.far.1 e.symm)).trans hop.list), hown.kept (set_grown u1 L 0 v') (.inr (fun e => hop.far.1 (hv.symm.trans e))), by rw [hv]; exact hop.far⟩, fun k hk => ?_⟩
  obtain ⟨h1, h2, h3, h4, h5⟩ := hcp k hk
  exact ⟨h1, h2, h3, h4, (h5.of_block (hg.block _ h5.lt (by rw [← hv]; exact h4))).setOther (a := ⟨L, 0, none⟩) h3 _⟩
end Go.Proofs.Ytempggikcpminaa
