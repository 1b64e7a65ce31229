/-
  The bytes of a list of records.
-/
import Derived.Test.YthmoddohkchhfaaFilled
import Derived.Test.YthmoddohkchhfaaBuilder
import Derived.Test.YthmoddohkchhfaaBack
import Derived.Test.YthmoddohkchhfaaStream
namespace Go.Proofs.Ythmoddohkchhfaa
open Go.RowKit Wire

/-- the bytes of record k -/
def recAt (zs : List Int) (k : Nat) : ByteArray := recBytesB (num zs (k * 8)) (num zs (k * 8 + 1)) (num zs (k * 8 + 2)) (num zs (k * 8 + 3)) (num zs (k * 8 + 4)) (num zs (k * 8 + 5)) (num zs (k * 8 + 6)) (num zs (k * 8 + 7))
/-- the bytes of the first k records -/
def tapeL (zs : List Int) : Nat → List UInt8
  | 0 => []
  | k + 1 => tapeL zs k ++ (recAt zs k).data.toList
/-- the bytes of n records, none if there are more than a thousand or one is not right -/
def tapeB (zs : List Int) (n : Nat) : ByteArray := if n ≤ 1000 ∧ okTo zs n = true then ⟨(tapeL zs n).toArray⟩ else ⟨#[]⟩
theorem recAt_len {zs : List Int} {k : Nat} (h : okAt zs k = true) : (recAt zs k).size = 21 := recBytesB_len _ _ _ _ _ _ _ _ h
theorem recAt_no {zs : List Int} {k : Nat} (h : okAt zs k = false) : recAt zs k = ⟨#[]⟩ := recBytesB_nil _ _ _ _ _ _ _ _ h
theorem tapeL_len {zs : List Int} : ∀ k, okTo zs k = true → (tapeL zs k).length = 21 * k
  | 0, _ => rfl
  | k + 1, h => by
    have h1 := okTo_at (k + 1) k h (by omega)
    have h2 : okTo zs k = true := by simp only [okTo, Bool.and_eq_true] at h; exact h.1
    rw [tapeL, List.length_append, tapeL_len k h2, Array.length_toList]
    have := recAt_len h1
    have h3 : (recAt zs k).data.size = (recAt zs k).size := rfl
    omega
theorem tapeB_yes {zs : List Int} {n : Nat} (h : okTo zs n = true) (hn : n ≤ 1000) : tapeB zs n = ⟨(tapeL zs n).toArray⟩ := by unfold tapeB; rw [if_pos ⟨hn, h⟩]
theorem tapeB_no {zs : List Int} {n k : Nat} (h : okAt zs k = false) (hk : k < n) : tapeB zs n = ⟨#[]⟩ := by
  unfold tapeB; rw [if_neg (fun h1 => by rw [okTo_no h n hk] at h1; cases h1.2)]
theorem tapeB_long {zs : List Int} {n : Nat} (hn : 1000 < n) : tapeB zs n = ⟨#[]⟩ := by
  unfold tapeB; rw [if_neg (fun h1 => by omega)]
theorem bld_below {T e : TypeId} {B b : Nat} {bs : List Value} {w w' : World} (h : Lib.IsBuilder T e B b bs w) (hb : Below w.heap.size w w') : Lib.IsBuilder T e B b bs w' := by
  have key : ∀ p, Lib.BuilderAt T e B b p bs w → Lib.BuilderAt T e B b p bs w' := fun p ⟨h1, v, h2, h3, h4⟩ =>
    ⟨h1, v, (hb.block b (by
      rcases Nat.lt_or_ge b w.heap.size with h' | h'
      · exact h'
      · simp [Array.getElem?_eq_none h'] at h2)).trans h2, own_below h3 hb, h4⟩
  rcases h with h | h
  · exact .inl (key _ h)
  · exact .inr (key _ h)
end Go.Proofs.Ythmoddohkchhfaa
