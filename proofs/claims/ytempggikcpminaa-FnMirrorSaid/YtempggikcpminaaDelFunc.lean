/-
  slices.DeleteFunc at the pointers of a side, by the order's number.
-/
import Derived.Test.YtempggikcpminaaDel
import Derived.Test.YtempggikcpminaaTake
import Derived.Lib.SliceRun
import Derived.Lib.LazyBuf
namespace Go.Proofs.Ytempggikcpminaa
open Go.RowKit Wire

/-- the block of the q-th order that is left among the first k -/
def sel (zs : List Int) (id : Int) (gs : Nat → Nat) : Nat → Nat → Nat
  | 0 => fun _ => 0
  | k + 1 => if num zs (k * 4) = id then sel zs id gs k else fun q => if q = tkN zs id k then gs k else sel zs id gs k q
theorem tk_all {zs : List Int} {id : Int} {gs : Nat → Nat} : ∀ k, (∀ j, j < k → idN zs j ≠ id) → tkN zs id k = k ∧ ∀ q, q < k → sel zs id gs k q = gs q
  | 0, _ => ⟨rfl, fun q h => absurd h (Nat.not_lt_zero q)⟩
  | k + 1, h => by
    obtain ⟨h1, h2⟩ := tk_all (gs := gs) k (fun j hj => h j (by omega))
    have hk : ¬ num zs (k * 4) = id := h k (by omega)
    refine ⟨by rw [tkN, if_neg hk, h1], fun q hq => ?_⟩
    rw [sel, if_neg hk]
    by_cases hqk : q = tkN zs id k
    · rw [if_pos hqk, hqk, h1]
    · rw [if_neg hqk]
      exact h2 q (by omega)
theorem grown_below {w w' : World} {row : Option Nat} (hb : Below w.heap.size w w') : w.grownBy w' row := ⟨hb.os, hb.tape, hb.output, hb.size, fun i hi _ => hb.block i hi⟩
theorem sets_grown (g : Nat) : ∀ (vs : List Value) (o : Nat) (w : World), w.grownBy (w.setCells g o vs) (some g)
  | [], _, _ => World.grownBy.refl _ _
  | v :: vs, o, w => World.grownBy.trans (set_grown w g o v) (sets_grown g vs (o + 1) _)
theorem own_of_row {w : World} {X g N cap : Nat} {e : TypeId} {F : Nat → Value} {xs : List Value} (h : w.rowIs g e cap F) (hX : X ≤ g) (hN : N ≤ cap) (hc : cap ≤ maxLen) (hl : xs.length = N) (hx : ∀ q, q < N → xs[q]? = some (F q)) : w.ownsRow X e 1 (.slice (some ⟨g, 0, none⟩) N cap) N xs := by
  obtain ⟨c, h1, h2, h3⟩ := h
  refine ⟨by omega, .inr ⟨g, cap, c, rfl, hX, h1, hN, hc, by omega, ?_⟩⟩
  apply List.ext_getElem?
  intro q
  rw [Nat.mul_one]
  by_cases hq : q < N
  · rw [List.getElem?_take, if_pos hq, hx q hq, Array.getElem?_toList, h3 q (by omega)]
  · rw [List.getElem?_take, if_neg hq, List.getElem?_eq_none (by omega)]
theorem ptr_zero (w : World) : (zeroValue 76).run Try.prog w = .ok (.pointer none) w := by kernel_rfl
end Go.Proofs.Ytempggikcpminaa
