/-
  The law on what is filled in drawn records.
-/
import Derived.Test.YthmoddohkchhfaaDrawTape
import Derived.Test.YthmoddohkchhfaaFilled
import Derived.Test.YthmoddohkchhfaaLawInts
namespace Go.Proofs.Ythmoddohkchhfaa
open Go.RowKit Wire

theorem RdAt.below {w w1 : World} {g B : Nat} {A : Option Addr} {len cap p : Nat} (h : RdAt w g A len cap p) (hb : Below B w w1) (hg : g < B) : RdAt w1 g A len cap p := ⟨h.1, (hb.block g hg).trans h.2⟩
theorem Src.later {w w1 : World} {A : Option Addr} {len : Nat} (h : Src w w.heap.size A len) (hb : Below w.heap.size w w1) : Src w1 w1.heap.size A len := fun i hi => by
  obtain ⟨b, o, n, h1, h2, h3, h4, h5⟩ := h i hi
  exact ⟨b, o, n, h1, Nat.lt_of_lt_of_le h2 hb.size, h3, h4, (hb.cell (p := ⟨b, o + i, none⟩) h2).trans h5⟩
theorem num_drop (zs : List Int) (a j : Nat) : num (zs.drop a) j = num zs (a + j) := by
  unfold num; rw [List.getD_eq_getElem?_getD, List.getD_eq_getElem?_getD, List.getElem?_drop]
theorem num_take (zs : List Int) (a j : Nat) (h : j < a) : num (zs.take a) j = num zs j := by
  unfold num; rw [List.getD_eq_getElem?_getD, List.getD_eq_getElem?_getD, List.getElem?_take_of_lt h]
theorem fillAt_drop (zs : List Int) (id : Int) (a k : Nat) : fillAt (zs.drop (a * 8)) id k = fillAt zs id (a + k) := by
  unfold fillAt
  simp only [num_drop, show ∀ j, a * 8 + (k * 8 + j) = (a + k) * 8 + j from fun j => by omega]
theorem okAt_drop (zs : List Int) (a k : Nat) : okAt (zs.drop (a * 8)) k = okAt zs (a + k) := by
  unfold okAt
  simp only [num_drop, show ∀ j, a * 8 + (k * 8 + j) = (a + k) * 8 + j from fun j => by omega, show a * 8 + k * 8 = (a + k) * 8 from by omega]
theorem okAt_take (zs : List Int) {a k : Nat} (h : k < a) : okAt (zs.take (a * 8)) k = okAt zs k := by
  unfold okAt
  rw [num_take _ _ _ (by omega), num_take _ _ _ (by omega), num_take _ _ _ (by omega), num_take _ _ _ (by omega), num_take _ _ _ (by omega), num_take _ _ _ (by omega), num_take _ _ _ (by omega), num_take _ _ _ (by omega)]
theorem fillAt_take (zs : List Int) (id : Int) {a k : Nat} (h : k < a) : fillAt (zs.take (a * 8)) id k = fillAt zs id k := by
  unfold fillAt
  rw [num_take _ _ _ (by omega), num_take _ _ _ (by omega), num_take _ _ _ (by omega)]
theorem okTo_of {zs : List Int} : ∀ n, (∀ k, k < n → okAt zs k = true) → okTo zs n = true
  | 0, _ => rfl
  | n + 1, h => okTo_step (okTo_of n fun k hk => h k (by omega)) (h n (by omega))
theorem sumTo_take (zs : List Int) (id : Int) (a : Nat) : ∀ k, k ≤ a → sumTo (zs.take (a * 8)) id k = sumTo zs id k
  | 0, _ => rfl
  | k + 1, h => by
    simp only [sumTo]
    rw [sumTo_take zs id a k (by omega), fillAt_take zs id (by omega), num_take _ _ _ (by omega)]
theorem sumTo_drop (zs : List Int) (id : Int) (a : Nat) : ∀ k, sumTo zs id a + sumTo (zs.drop (a * 8)) id k = sumTo zs id (a + k)
  | 0 => by simp [sumTo]
  | k + 1 => by
    have := sumTo_drop zs id a k
    rw [show a + (k + 1) = (a + k) + 1 from rfl]
    simp only [sumTo]
    rw [fillAt_drop, num_drop, show a * 8 + (k * 8 + 7) = (a + k) * 8 + 7 from by omega]
    omega
theorem filled_take {zs : List Int} {n : Nat} {id : Int} (h : okTo zs n = true) {a : Nat} (ha : a ≤ n) : filledI (zs.take (a * 8)) a id = sumTo zs id a := by
  rw [filledI_yes (okTo_of a fun k hk => by rw [okAt_take zs hk]; exact okTo_at n k h (by omega)), sumTo_take _ _ _ _ (Nat.le_refl _)]
theorem filled_drop {zs : List Int} {n : Nat} {id : Int} (h : okTo zs n = true) {a : Nat} (ha : a ≤ n) : filledI (zs.drop (a * 8)) (n - a) id = sumTo zs id n - sumTo zs id a := by
  rw [filledI_yes (okTo_of (n - a) fun k hk => by rw [okAt_drop]; exact okTo_at n _ h (by omega))]
  have := sumTo_drop zs id a (n - a)
  rw [show a + (n - a) = n from by omega] at this
  omega
theorem Has.take {w : World} {sz n c k : Nat} {A : Option Addr} {zs : List Int} (h : Has w sz A n c zs) (hk : k ≤ n) : Lst w w.heap.size sz A k (zs.take (k * sz)) := by
  have hl := h.2.2.2
  have hkn : k * sz ≤ n * sz := Nat.mul_le_mul_right _ hk
  refine ⟨by rw [List.length_take, hl.1]; omega, fun h0 => ?_⟩
  obtain ⟨b, o, e, hb, hc⟩ := hl.2 (by omega)
  exact ⟨b, o, e, hb, fun j hj => by rw [num_take _ _ _ hj]; exact hc j (by omega)⟩
theorem Has.drop {w : World} {sz n c k : Nat} {A : Option Addr} {zs : List Int} (h : Has w sz A n c zs) (hk : k ≤ n) : Lst w w.heap.size sz (if c = k then A else A.map (·.add (k * sz))) (n - k) (zs.drop (k * sz)) := by
  have hl := h.2.2.2
  have hc := h.1
  refine ⟨by rw [List.length_drop, hl.1, Nat.sub_mul], fun h0 => ?_⟩
  obtain ⟨b, o, e, hb, hcell⟩ := hl.2 (by omega)
  rw [if_neg (by omega), e]
  refine ⟨b, o + k * sz, by unfold Addr.add; simp, hb, fun j hj => ?_⟩
  rw [num_drop, Nat.add_assoc]
  refine hcell _ ?_
  have : (n - k) * sz + k * sz = n * sz := by rw [← Nat.add_mul]; congr 1; omega
  omega
end Go.Proofs.Ythmoddohkchhfaa
