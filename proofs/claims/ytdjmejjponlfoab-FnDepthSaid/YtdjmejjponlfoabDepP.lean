/-
  The levels of a side's orders, plainly.
-/
import Derived.Test.YtdjmejjponlfoabBookP
namespace Go.Proofs.Ytdjmejjponlfoab
open Go.RowKit Wire

/-- one more order -/
def dpS (L : List Int) (p q : Int) : List Int := if 0 < L.length ∧ num L (L.length - 3) = p then (L.set (L.length - 2) (num L (L.length - 2) + q)).set (L.length - 1) (num L (L.length - 1) + 1) else L ++ [p, q, 1]
/-- the levels of the first orders -/
def dpL (zs : List Int) : Nat → List Int
  | 0 => []
  | k + 1 => dpS (dpL zs k) (price zs k) (num zs (k * 4 + 3))
theorem num_lt {L M : List Int} {i : Nat} (h : i < L.length) : num (L ++ M) i = num L i := by
  unfold num
  rw [List.getD_eq_getElem?_getD, List.getD_eq_getElem?_getD, List.getElem?_append_left h]
theorem num_ge {L M : List Int} {i : Nat} : num (L ++ M) (L.length + i) = num M i := by
  unfold num
  rw [List.getD_eq_getElem?_getD, List.getD_eq_getElem?_getD, List.getElem?_append_right (by omega)]
  congr 2
  omega
theorem num_set_ne {L : List Int} {i j : Nat} {x : Int} (h : i ≠ j) : num (L.set i x) j = num L j := by
  unfold num
  rw [List.getD_eq_getElem?_getD, List.getD_eq_getElem?_getD, List.getElem?_set_ne h]
theorem num_set_eq {L : List Int} {i : Nat} {x : Int} (h : i < L.length) : num (L.set i x) i = x := by
  unfold num
  rw [List.getD_eq_getElem?_getD, List.getElem?_set_self h]
  rfl
/-- what holds of the levels of the first k orders: j levels -/
structure DpOk (side : Int) (zs : List Int) (k j : Nat) (L : List Int) : Prop where
  len : L.length = j * 3
  le : j ≤ k
  pos : 0 < k → 0 < j
  last : 0 < k → num L ((j - 1) * 3) = price zs (k - 1)
  ord : ∀ i, i + 1 < j → betB side (num L (i * 3)) (num L ((j - 1) * 3)) = true
  lo : ∀ i, i < j → 0 ≤ num L (i * 3 + 1) ∧ 0 ≤ num L (i * 3 + 2)
  hi : ∀ i, i < j → num L (i * 3 + 1) ≤ (k : Int) * 1000000 ∧ num L (i * 3 + 2) ≤ (k : Int)
theorem betB_trans {side a b c : Int} (h1 : betB side a b = true) (h2 : betB side b c = true) : betB side a c = true := by
  unfold betB at *
  split at h1 <;> simp_all <;> omega
theorem betB_ne {side a b : Int} (h : betB side a b = true) : a ≠ b := by
  unfold betB at h
  split at h <;> simp at h <;> omega
theorem betB_or {side a b : Int} (h : betB side b a = false) (hn : a ≠ b) : betB side a b = true := by
  unfold betB at *
  split at h <;> simp_all <;> omega
theorem srtO_at {side : Int} {zs : List Int} : ∀ n k, srtO side zs n = true → 0 < k → k < n → betB side (price zs k) (price zs (k - 1)) = false
  | 0, k, _, _, hk => absurd hk (Nat.not_lt_zero k)
  | n + 1, k, h, h0, hk => by
    simp only [srtO, Bool.and_eq_true] at h
    rcases Nat.lt_or_ge k n with hlt | hge
    · exact srtO_at n k h.1 h0 hlt
    · obtain rfl : k = n := by omega
      have := h.2
      rw [show decide (k = 0) = false from decide_eq_false (by omega)] at this
      simpa using this
/-- the level at which the next order is found: the last one, or none -/
theorem DpOk.only {side : Int} {zs : List Int} {k j n : Nat} {L : List Int} (h : DpOk side zs k j L) (hs : srtO side zs n = true) (hk : k < n) : ∀ i, i + 1 < j → num L (i * 3) ≠ price zs k := by
  intro i hi
  have h0 : 0 < k := by have := h.le; omega
  have h1 := h.ord i hi
  rw [h.last h0] at h1
  have h2 := srtO_at n k hs h0 hk
  intro e
  rw [e] at h1
  rw [h1] at h2
  cases h2
theorem dpL_hit {L : List Int} {j : Nat} {p q : Int} (hl : L.length = j * 3) (hj : 0 < j) (he : num L ((j - 1) * 3) = p) : dpS L p q = (L.set ((j - 1) * 3 + 1) (num L ((j - 1) * 3 + 1) + q)).set ((j - 1) * 3 + 2) (num L ((j - 1) * 3 + 2) + 1) := by
  unfold dpS
  have e1 : L.length - 3 = (j - 1) * 3 := by omega
  have e2 : L.length - 2 = (j - 1) * 3 + 1 := by omega
  have e3 : L.length - 1 = (j - 1) * 3 + 2 := by omega
  rw [e1, e2, e3, if_pos ⟨by omega, he⟩]
theorem dpL_miss {L : List Int} {j : Nat} {p q : Int} (hl : L.length = j * 3) (he : 0 < j → num L ((j - 1) * 3) ≠ p) : dpS L p q = L ++ [p, q, 1] := by
  unfold dpS
  rw [if_neg]
  rintro ⟨h1, h2⟩
  have e1 : L.length - 3 = (j - 1) * 3 := by omega
  rw [e1] at h2
  exact he (by omega) h2
theorem DpOk.zero (side : Int) (zs : List Int) : DpOk side zs 0 0 (dpL zs 0) :=
  ⟨rfl, Nat.le_refl _, fun h => absurd h (Nat.lt_irrefl _), fun h => absurd h (Nat.lt_irrefl _), fun i h => by omega, fun i h => by omega, fun i h => by omega⟩
theorem DpOk.hit {side : Int} {zs : List Int} {k j n : Nat} (h : DpOk side zs k j (dpL zs k)) (ha : allO zs n = true) (hk : k < n) (hj : 0 < j) (he : num (dpL zs k) ((j - 1) * 3) = price zs k) : DpOk side zs (k + 1) j (dpL zs (k + 1)) := by
  have hq := allO_at n k ha hk
  simp only [ordB, inB, Bool.and_eq_true, decide_eq_true_eq] at hq
  have e := dpL_hit (q := num zs (k * 4 + 3)) h.len hj he
  have hlen := h.len
  rw [show dpL zs (k + 1) = dpS (dpL zs k) (price zs k) (num zs (k * 4 + 3)) from rfl, e]
  have hp : ∀ i, num (((dpL zs k).set ((j - 1) * 3 + 1) (num (dpL zs k) ((j - 1) * 3 + 1) + num zs (k * 4 + 3))).set ((j - 1) * 3 + 2) (num (dpL zs k) ((j - 1) * 3 + 2) + 1)) (i * 3) = num (dpL zs k) (i * 3) := fun i => by
    rw [num_set_ne (by omega), num_set_ne (by omega)]
  refine ⟨by simp [hlen], by have := h.le; omega, fun _ => hj, fun _ => by rw [hp, he]; rfl, fun i hi => by rw [hp, hp]; exact h.ord i hi, fun i hi => ?_, fun i hi => ?_⟩
  · have a := h.lo i hi
    by_cases hij : i = j - 1
    · subst hij
      rw [num_set_ne (by omega), num_set_eq (by omega), num_set_eq (by simp; omega)]
      omega
    · rw [num_set_ne (by omega), num_set_ne (by omega), num_set_ne (by omega), num_set_ne (by omega)]
      exact a
  · have a := h.hi i hi
    by_cases hij : i = j - 1
    · subst hij
      rw [num_set_ne (by omega), num_set_eq (by omega), num_set_eq (by simp; omega)]
      omega
    · rw [num_set_ne (by omega), num_set_ne (by omega), num_set_ne (by omega), num_set_ne (by omega)]
      omega
theorem DpOk.miss {side : Int} {zs : List Int} {k j n : Nat} (h : DpOk side zs k j (dpL zs k)) (ha : allO zs n = true) (hs : srtO side zs n = true) (hk : k < n) (he : 0 < j → num (dpL zs k) ((j - 1) * 3) ≠ price zs k) : DpOk side zs (k + 1) (j + 1) (dpL zs (k + 1)) := by
  have hq := allO_at n k ha hk
  simp only [ordB, inB, Bool.and_eq_true, decide_eq_true_eq] at hq
  have e := dpL_miss (q := num zs (k * 4 + 3)) h.len he
  have hlen := h.len
  rw [show dpL zs (k + 1) = dpS (dpL zs k) (price zs k) (num zs (k * 4 + 3)) from rfl, e]
  have hle := h.le
  have old : ∀ i, i < j * 3 → num (dpL zs k ++ [price zs k, num zs (k * 4 + 3), 1]) i = num (dpL zs k) i := fun i hi => num_lt (by omega)
  have new : ∀ i, num (dpL zs k ++ [price zs k, num zs (k * 4 + 3), 1]) (j * 3 + i) = num [price zs k, num zs (k * 4 + 3), 1] i := fun i => by rw [← hlen]; exact num_ge
  refine ⟨by simp [hlen]; omega, by omega, fun _ => by omega, fun _ => ?_, fun i hi => ?_, fun i hi => ?_, fun i hi => ?_⟩
  · rw [show (j + 1 - 1) * 3 = j * 3 + 0 by omega, new]; rfl
  · rw [show (j + 1 - 1) * 3 = j * 3 + 0 by omega, new, old _ (by omega)]
    show betB side _ (price zs k) = true
    have h0 : 0 < k := by omega
    have b := betB_or (srtO_at n k hs h0 hk) (by rw [← h.last h0]; exact he (by omega))
    by_cases hij : i + 1 = j
    · have : i * 3 = (j - 1) * 3 := by omega
      rw [this, h.last h0]; exact b
    · have a := h.ord i (by omega)
      rw [h.last h0] at a
      exact betB_trans a b
  · by_cases hij : i = j
    · subst hij
      rw [new, new]
      show 0 ≤ num zs (k * 4 + 3) ∧ (0 : Int) ≤ 1
      omega
    · rw [old _ (by omega), old _ (by omega)]; exact h.lo i (by omega)
  · by_cases hij : i = j
    · subst hij
      rw [new, new]
      show num zs (k * 4 + 3) ≤ _ ∧ (1 : Int) ≤ _
      omega
    · rw [old _ (by omega), old _ (by omega)]; have := h.hi i (by omega); omega
theorem dp_ok {side : Int} {zs : List Int} {n : Nat} (ha : allO zs n = true) (hs : srtO side zs n = true) : ∀ k, k ≤ n → ∃ j, DpOk side zs k j (dpL zs k)
  | 0, _ => ⟨0, DpOk.zero side zs⟩
  | k + 1, hk => by
    obtain ⟨j, h⟩ := dp_ok ha hs k (by omega)
    by_cases he : 0 < j ∧ num (dpL zs k) ((j - 1) * 3) = price zs k
    · exact ⟨j, h.hit ha hk he.1 he.2⟩
    · exact ⟨j + 1, h.miss ha hs hk (fun h0 e => he ⟨h0, e⟩)⟩
end Go.Proofs.Ytdjmejjponlfoab
