/-
  Plain facts of levels: what each holds, how many orders all hold, that they are right.
-/
import Derived.Test.YtdjmejjponlfoabDepP
import Derived.Test.YtdjmejjponlfoabLev
namespace Go.Proofs.Ytdjmejjponlfoab
open Go.RowKit Wire

/-- what the first orders hold at a price -/
def sumP (zs : List Int) (p : Int) : Nat → Int
  | 0 => 0
  | k + 1 => sumP zs p k + if price zs k = p then num zs (k * 4 + 3) else 0
/-- how many orders the first levels hold -/
def manyS (L : List Int) : Nat → Int
  | 0 => 0
  | j + 1 => manyS L j + num L (j * 3 + 2)
theorem sumP_none {zs : List Int} {p : Int} : ∀ k, (∀ t, t < k → price zs t ≠ p) → sumP zs p k = 0
  | 0, _ => rfl
  | k + 1, h => by rw [sumP, sumP_none k (fun t ht => h t (by omega)), if_neg (h k (by omega))]; rfl
theorem manyS_eq {L M : List Int} : ∀ j, (∀ i, i < j → num L (i * 3 + 2) = num M (i * 3 + 2)) → manyS L j = manyS M j
  | 0, _ => rfl
  | j + 1, h => by rw [manyS, manyS, manyS_eq j (fun i hi => h i (by omega)), h j (by omega)]
structure DpF (side : Int) (zs : List Int) (k j : Nat) (L : List Int) : Prop where
  sum : ∀ i, i < j → num L (i * 3 + 1) = sumP zs (num L (i * 3)) k
  many : manyS L j = k
  one : ∀ i, i < j → 1 ≤ num L (i * 3) ∧ num L (i * 3) ≤ 1000000 ∧ 1 ≤ num L (i * 3 + 2) ∧ num L (i * 3 + 2) ≤ num L (i * 3 + 1)
  seq : ∀ i, i + 1 < j → betB side (num L (i * 3)) (num L ((i + 1) * 3)) = true
  cov : ∀ t, t < k → ∃ i, i < j ∧ num L (i * 3) = price zs t
  qty : ∀ t, t < k → 1 ≤ num zs (t * 4 + 3) ∧ num zs (t * 4 + 3) ≤ 1000000
theorem dp_full {side : Int} {zs : List Int} {n : Nat} (ha : allO zs n = true) (hs : srtO side zs n = true) : ∀ k, k ≤ n → ∃ j, DpOk side zs k j (dpL zs k) ∧ DpF side zs k j (dpL zs k)
  | 0, _ => ⟨0, DpOk.zero side zs, fun i h => by omega, rfl, fun i h => by omega, fun i h => by omega, fun t h => by omega, fun t h => by omega⟩
  | k + 1, hk => by
    obtain ⟨j, h, f⟩ := dp_full ha hs k (by omega)
    have hkn : k < n := by omega
    have hq := allO_at n k ha hkn
    simp only [ordB, inB, Bool.and_eq_true, decide_eq_true_eq] at hq
    have hlen := h.len
    have hqty : ∀ t, t < k + 1 → 1 ≤ num zs (t * 4 + 3) ∧ num zs (t * 4 + 3) ≤ 1000000 := fun t ht => by
      have := allO_at n t ha (by omega)
      simp only [ordB, inB, Bool.and_eq_true, decide_eq_true_eq] at this
      exact this.2.2.2
    by_cases he : 0 < j ∧ num (dpL zs k) ((j - 1) * 3) = price zs k
    · obtain ⟨hj, he⟩ := he
      refine ⟨j, h.hit ha hkn hj he, ?_⟩
      have only := h.only hs hkn
      rw [show dpL zs (k + 1) = dpS (dpL zs k) (price zs k) (num zs (k * 4 + 3)) from rfl, dpL_hit (q := num zs (k * 4 + 3)) h.len hj he]
      generalize dpL zs k = L at *
      have hp : ∀ i, num ((L.set ((j - 1) * 3 + 1) (num L ((j - 1) * 3 + 1) + num zs (k * 4 + 3))).set ((j - 1) * 3 + 2) (num L ((j - 1) * 3 + 2) + 1)) (i * 3) = num L (i * 3) := fun i => by
        rw [num_set_ne (by omega), num_set_ne (by omega)]
      have ho : ∀ i, i ≠ j - 1 → num ((L.set ((j - 1) * 3 + 1) (num L ((j - 1) * 3 + 1) + num zs (k * 4 + 3))).set ((j - 1) * 3 + 2) (num L ((j - 1) * 3 + 2) + 1)) (i * 3 + 1) = num L (i * 3 + 1) ∧ num ((L.set ((j - 1) * 3 + 1) (num L ((j - 1) * 3 + 1) + num zs (k * 4 + 3))).set ((j - 1) * 3 + 2) (num L ((j - 1) * 3 + 2) + 1)) (i * 3 + 2) = num L (i * 3 + 2) := fun i hi => by
        rw [num_set_ne (by omega), num_set_ne (by omega), num_set_ne (by omega), num_set_ne (by omega)]
        exact ⟨rfl, rfl⟩
      have hn1 : num ((L.set ((j - 1) * 3 + 1) (num L ((j - 1) * 3 + 1) + num zs (k * 4 + 3))).set ((j - 1) * 3 + 2) (num L ((j - 1) * 3 + 2) + 1)) ((j - 1) * 3 + 1) = num L ((j - 1) * 3 + 1) + num zs (k * 4 + 3) := by
        rw [num_set_ne (by omega), num_set_eq (by omega)]
      have hn2 : num ((L.set ((j - 1) * 3 + 1) (num L ((j - 1) * 3 + 1) + num zs (k * 4 + 3))).set ((j - 1) * 3 + 2) (num L ((j - 1) * 3 + 2) + 1)) ((j - 1) * 3 + 2) = num L ((j - 1) * 3 + 2) + 1 := by
        rw [num_set_eq (by simp; omega)]
      generalize (L.set ((j - 1) * 3 + 1) (num L ((j - 1) * 3 + 1) + num zs (k * 4 + 3))).set ((j - 1) * 3 + 2) (num L ((j - 1) * 3 + 2) + 1) = L' at *
      refine ⟨fun i hi => ?_, ?_, fun i hi => ?_, fun i hi => by rw [hp, hp]; exact f.seq i hi, fun t ht => ?_, hqty⟩
      · rw [hp, sumP]
        by_cases hij : i = j - 1
        · subst hij
          rw [hn1, f.sum _ hi, if_pos he.symm]
        · rw [(ho i hij).1, f.sum i hi, if_neg (fun e => only i (by omega) e.symm)]
          omega
      · obtain ⟨i, rfl⟩ : ∃ i, j = i + 1 := ⟨j - 1, by omega⟩
        have hm := f.many
        rw [manyS] at hm ⊢
        rw [Nat.add_sub_cancel] at hn2
        rw [manyS_eq i (fun x hx => (ho x (by omega)).2), hn2]
        omega
      · have a := f.one i hi
        rw [hp]
        by_cases hij : i = j - 1
        · subst hij
          rw [hn1, hn2]
          omega
        · rw [(ho i hij).1, (ho i hij).2]
          exact a
      · rcases Nat.lt_or_ge t k with c | c
        · obtain ⟨i, hi, e⟩ := f.cov t c
          exact ⟨i, hi, by rw [hp]; exact e⟩
        · obtain rfl : t = k := by omega
          exact ⟨j - 1, by omega, by rw [hp]; exact he⟩
    · have hm : 0 < j → num (dpL zs k) ((j - 1) * 3) ≠ price zs k := fun hj e => he ⟨hj, e⟩
      have h' := h.miss ha hs hkn hm
      refine ⟨j + 1, h', ?_⟩
      have ord := h'.ord
      rw [show dpL zs (k + 1) = dpS (dpL zs k) (price zs k) (num zs (k * 4 + 3)) from rfl, dpL_miss (q := num zs (k * 4 + 3)) h.len hm] at ord ⊢
      generalize dpL zs k = L at *
      have old : ∀ i, i < j * 3 → num (L ++ [price zs k, num zs (k * 4 + 3), 1]) i = num L i := fun i hi => num_lt (by omega)
      have new : ∀ i, num (L ++ [price zs k, num zs (k * 4 + 3), 1]) (j * 3 + i) = num [price zs k, num zs (k * 4 + 3), 1] i := fun i => by rw [← hlen]; exact num_ge
      have n0 : num (L ++ [price zs k, num zs (k * 4 + 3), 1]) (j * 3) = price zs k := new 0
      have n1 : num (L ++ [price zs k, num zs (k * 4 + 3), 1]) (j * 3 + 1) = num zs (k * 4 + 3) := new 1
      have n2 : num (L ++ [price zs k, num zs (k * 4 + 3), 1]) (j * 3 + 2) = 1 := new 2
      generalize L ++ [price zs k, num zs (k * 4 + 3), 1] = L' at *
      have bet : ∀ i, i < j → betB side (num L (i * 3)) (price zs k) = true := fun i hi => by
        have := ord i (by omega)
        rwa [show (j + 1 - 1) * 3 = j * 3 by omega, n0, old _ (by omega)] at this
      refine ⟨fun i hi => ?_, ?_, fun i hi => ?_, fun i hi => ?_, fun t ht => ?_, hqty⟩
      · rw [sumP]
        by_cases hij : i = j
        · subst hij
          rw [n0, n1, if_pos rfl, sumP_none k (fun t ht e => by
            obtain ⟨x, hx, ex⟩ := f.cov t ht
            exact betB_ne (bet x hx) (ex.trans e))]
          omega
        · rw [old _ (by omega), old _ (by omega), f.sum i (by omega), if_neg (fun e => betB_ne (bet i (by omega)) e.symm)]
          omega
      · rw [manyS, n2, manyS_eq (M := L) j (fun i hi => old _ (by omega)), f.many]
        omega
      · by_cases hij : i = j
        · subst hij
          rw [n0, n1, n2]
          unfold price
          omega
        · rw [old _ (by omega), old _ (by omega), old _ (by omega)]
          exact f.one i (by omega)
      · rw [old _ (by omega)]
        by_cases hij : i + 1 = j
        · rw [hij, n0]
          exact bet i (by omega)
        · rw [old _ (by omega)]
          exact f.seq i (by omega)
      · rcases Nat.lt_or_ge t k with c | c
        · obtain ⟨i, hi, e⟩ := f.cov t c
          exact ⟨i, by omega, by rw [old _ (by omega)]; exact e⟩
        · obtain rfl : t = k := by omega
          exact ⟨j, by omega, n0⟩
/-- the levels of a right side are right -/
theorem dp_lvs {side : Int} {zs L : List Int} {n j : Nat} (hs : side = 1 ∨ side = 2) (h : DpOk side zs n j L) (f : DpF side zs n j L) (hn : n ≤ 20) : lvsB side L j = true := by
  have hle := h.le
  have key : ∀ i, i ≤ j → lvTo side L i = true := fun i => by
    induction i with
    | zero => exact fun _ => rfl
    | succ i ih =>
      intro hi
      have a := f.one i (by omega)
      have b := h.hi i (by omega)
      refine lvTo_step (ih (by omega)) ?_ ?_
      · simp only [lvAt, lvI, inB, Bool.and_eq_true, decide_eq_true_eq]
        omega
      · rcases i with _ | i
        · exact .inl rfl
        · exact .inr (f.seq i (by omega))
  simp only [lvsB, sdB, Bool.and_eq_true, Bool.or_eq_true, decide_eq_true_eq]
  exact ⟨hs, by omega, key j (Nat.le_refl _)⟩
end Go.Proofs.Ytdjmejjponlfoab
