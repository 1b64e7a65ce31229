/-
  Updates applied to levels: plain facts.
-/
import Derived.Test.YtfodkefaflpicaaDeltI
namespace Go.Proofs.Ytfodkefaflpicaa
open Go.RowKit Wire

/-- the levels stand in order -/
def LvOrd (side : Int) (zs : List Int) (n : Nat) : Prop := ∀ i j, i < j → j < n → ahdB side (num zs (i * 3)) (num zs (j * 3)) = true
/-- whether the new level has been put behind the first levels -/
def putD (side : Int) (zs : List Int) (p m : Int) : Nat → Bool
  | 0 => m == 0
  | k + 1 => putD side zs p m k || !ahdB side (num zs (k * 3)) p
/-- the first levels, the new one among them -/
def putZ (side : Int) (zs : List Int) (p q m : Int) : Nat → List Int
  | 0 => []
  | k + 1 => (putZ side zs p q m k ++ if (!putD side zs p m k && !ahdB side (num zs (k * 3)) p) = true then [p, q, m] else []) ++ if num zs (k * 3) = p then [] else [num zs (k * 3), num zs (k * 3 + 1), num zs (k * 3 + 2)]
def putL (side : Int) (zs : List Int) (n : Nat) (p q m : Int) : List Int := if putD side zs p m n = true then putZ side zs p q m n else putZ side zs p q m n ++ [p, q, m]
theorem ahd_not {side a b : Int} (h : ahdB side a b = false) : a = b ∨ ahdB side b a = true := by
  unfold ahdB at *
  split at h <;> simp_all <;> omega
theorem ahd_yes {side a b : Int} (h : a = b ∨ ahdB side b a = true) : ahdB side a b = false := by
  rcases h with rfl | h
  · unfold ahdB; split <;> simp
  · unfold ahdB at *
    split at h <;> simp_all <;> omega
theorem take_row {zs : List Int} {k : Nat} (h : k * 3 + 3 ≤ zs.length) : zs.take ((k + 1) * 3) = zs.take (k * 3) ++ [num zs (k * 3), num zs (k * 3 + 1), num zs (k * 3 + 2)] := by
  apply List.ext_getElem?
  intro j
  rw [List.getElem?_append, List.length_take, Nat.min_eq_left (by omega), List.getElem?_take, List.getElem?_take]
  by_cases h1 : j < k * 3
  · rw [if_pos h1, if_pos (by omega), if_pos h1]
  · rw [if_neg h1]
    have hg : ∀ i, i < zs.length → zs[i]? = some (num zs i) := fun i hi => by simp [num, hi]
    rcases (show j = k * 3 ∨ j = k * 3 + 1 ∨ j = k * 3 + 2 ∨ k * 3 + 3 ≤ j by omega) with rfl | rfl | rfl | h2
    · rw [if_pos (by omega), hg _ (by omega), Nat.sub_self]; rfl
    · rw [if_pos (by omega), hg _ (by omega), show k * 3 + 1 - k * 3 = 1 by omega]; rfl
    · rw [if_pos (by omega), hg _ (by omega), show k * 3 + 2 - k * 3 = 2 by omega]; rfl
    · rw [if_neg (by omega), List.getElem?_eq_none (by simp; omega)]
/-- the place of a price among the levels -/
structure PutAt (side : Int) (zs : List Int) (n : Nat) (p : Int) (t : Nat) : Prop where
  le : t ≤ n
  lo : ∀ j, j < t → ahdB side (num zs (j * 3)) p = true
  hi : t < n → ahdB side (num zs (t * 3)) p = false
def putE (zs : List Int) (n : Nat) (p : Int) (t : Nat) : Nat := if t < n ∧ num zs (t * 3) = p then 1 else 0
theorem putD_at {side p : Int} {zs : List Int} {n t : Nat} (m : Int) (h : PutAt side zs n p t) : ∀ k, k ≤ n → putD side zs p m k = ((m == 0) || decide (t < k))
  | 0, _ => by simp [putD]
  | k + 1, hk => by
    rw [putD, putD_at m h k (by omega)]
    rcases Nat.lt_trichotomy k t with h1 | h1 | h1
    · rw [h.lo k h1, decide_eq_false (by omega), decide_eq_false (by omega)]
      simp
    · subst h1
      rw [h.hi (by omega), decide_eq_true (show k < k + 1 by omega)]
      simp
    · rw [decide_eq_true h1, decide_eq_true (show t < k + 1 by omega)]
      simp
theorem putAt_behind {side p : Int} {zs : List Int} {n t : Nat} (ho : LvOrd side zs n) (h : PutAt side zs n p t) {k : Nat} (h1 : t < k) (h2 : k < n) : ahdB side p (num zs (k * 3)) = true := by
  have h3 := ho t k h1 h2
  rcases ahd_not (h.hi (by omega)) with e | e
  · rw [← e]; exact h3
  · exact ahd_trans e h3
theorem putZ_lo {side p q m : Int} {zs : List Int} {n t : Nat} (hz : zs.length = n * 3) (h : PutAt side zs n p t) : ∀ k, k ≤ t → putZ side zs p q m k = zs.take (k * 3)
  | 0, _ => by simp [putZ]
  | k + 1, hk => by
    have hn := h.le
    have ha := h.lo k (by omega)
    rw [putZ, putZ_lo hz h k (by omega), ha, take_row (by omega), if_neg (ahd_ne ha)]
    simp
theorem putZ_hi {side p q m : Int} {zs : List Int} {n t : Nat} (hz : zs.length = n * 3) (ho : LvOrd side zs n) (h : PutAt side zs n p t) : ∀ k, t < k → k ≤ n → putZ side zs p q m k = zs.take (t * 3) ++ (if m = 0 then [] else [p, q, m]) ++ (zs.take (k * 3)).drop ((t + putE zs n p t) * 3)
  | 0, h0, _ => absurd h0 (Nat.not_lt_zero t)
  | k + 1, h0, hk => by
    rw [putZ, putD_at m h k (by omega)]
    rcases Nat.lt_or_ge t k with h1 | h1
    · have hb := putAt_behind ho h h1 (by omega)
      rw [putZ_hi hz ho h k h1 (by omega), decide_eq_true h1, if_neg (show ¬ num zs (k * 3) = p from fun e => ahd_ne hb e.symm), take_row (by omega), List.drop_append_of_le_length]
      · simp
      · rw [List.length_take, Nat.min_eq_left (by omega)]
        unfold putE
        split <;> omega
    · obtain rfl : t = k := by omega
      rw [putZ_lo hz h t (Nat.le_refl _), h.hi (by omega), decide_eq_false (by omega), take_row (by omega)]
      by_cases hp : num zs (t * 3) = p
      · have he : putE zs n p t = 1 := by unfold putE; rw [if_pos ⟨by omega, hp⟩]
        rw [if_pos hp, he, List.drop_eq_nil_of_le (by simp; omega)]
        by_cases hm : m = 0
        · simp [hm]
        · simp [hm]
      · have he : putE zs n p t = 0 := by unfold putE; rw [if_neg (fun e => hp e.2)]
        rw [if_neg hp, he, Nat.add_zero, List.drop_append_of_le_length (by rw [List.length_take, Nat.min_eq_left (by omega)]; omega), List.drop_eq_nil_of_le (by rw [List.length_take]; omega)]
        by_cases hm : m = 0
        · simp [hm]
        · simp [hm]
theorem put_at {side p q m : Int} {zs : List Int} {n t : Nat} (hz : zs.length = n * 3) (ho : LvOrd side zs n) (h : PutAt side zs n p t) : putL side zs n p q m = zs.take (t * 3) ++ (if m = 0 then [] else [p, q, m]) ++ zs.drop ((t + putE zs n p t) * 3) := by
  unfold putL
  rw [putD_at m h n (Nat.le_refl _)]
  rcases Nat.lt_or_ge t n with h1 | h1
  · rw [decide_eq_true h1, if_pos (by simp), putZ_hi hz ho h n h1 (Nat.le_refl _), ← hz, List.take_length]
  · obtain rfl : t = n := by have := h.le; omega
    rw [putZ_lo hz h t (Nat.le_refl _), decide_eq_false (by omega)]
    have : putE zs t p t = 0 := by unfold putE; rw [if_neg (by omega)]
    rw [this, Nat.add_zero, List.drop_eq_nil_of_le (by omega)]
    by_cases hm : m = 0
    · simp [hm]
    · simp [hm]
theorem putAt_ex (side : Int) (zs : List Int) (p : Int) : ∀ n, ∃ t, PutAt side zs n p t
  | 0 => ⟨0, Nat.le_refl _, fun j h => by omega, fun h => by omega⟩
  | n + 1 => by
    obtain ⟨t, h⟩ := putAt_ex side zs p n
    rcases Nat.lt_or_ge t n with h1 | h1
    · exact ⟨t, by omega, h.lo, fun _ => h.hi h1⟩
    · obtain rfl : t = n := by have := h.le; omega
      rcases Bool.eq_false_or_eq_true (ahdB side (num zs (t * 3)) p) with h2 | h2
      · exact ⟨t + 1, Nat.le_refl _, fun j hj => by
          rcases Nat.lt_or_ge j t with h3 | h3
          · exact h.lo j h3
          · obtain rfl : j = t := by omega
            exact h2, fun h3 => by omega⟩
      · exact ⟨t, by omega, h.lo, fun _ => h2⟩
/-- how many levels there are then -/
def putN (n : Nat) (m : Int) (e : Nat) : Nat := (if m = 0 then n else n + 1) - e
theorem num_app_lo {a b : List Int} {j : Nat} (h : j < a.length) : num (a ++ b) j = num a j := by
  simp [num, List.getElem?_append, h]
theorem num_app_hi {a b : List Int} {j : Nat} (h : a.length ≤ j) : num (a ++ b) j = num b (j - a.length) := by
  simp [num, List.getElem?_append, show ¬ j < a.length by omega]
theorem num_take {a : List Int} {k j : Nat} (h : j < k) : num (a.take k) j = num a j := by
  simp [num, h]
theorem num_drop (a : List Int) (k j : Nat) : num (a.drop k) j = num a (k + j) := by
  simp [num, List.getElem?_drop]
structure PutF (side : Int) (zs : List Int) (n : Nat) (p q m : Int) (t e : Nat) (L : List Int) : Prop where
  len : L.length = putN n m e * 3
  row : ∀ i, i < putN n m e → ∀ r, r < 3 → num L (i * 3 + r) = if i < t then num zs (i * 3 + r) else if m = 0 then num zs ((i + e) * 3 + r) else if i = t then num [p, q, m] r else num zs ((i - 1 + e) * 3 + r)
theorem put_rows {side p q m : Int} {zs : List Int} {n t : Nat} (hz : zs.length = n * 3) (ho : LvOrd side zs n) (h : PutAt side zs n p t) : PutF side zs n p q m t (putE zs n p t) (putL side zs n p q m) := by
  have hn := h.le
  have hE : putE zs n p t ≤ 1 ∧ t + putE zs n p t ≤ n := by unfold putE; split <;> omega
  rw [put_at hz ho h]
  generalize putE zs n p t = e at *
  have hl1 : (zs.take (t * 3)).length = t * 3 := by rw [List.length_take, Nat.min_eq_left (by omega)]
  by_cases hm : m = 0
  · rw [if_pos hm, List.append_nil]
    refine ⟨by rw [List.length_append, hl1, List.length_drop, hz, putN, if_pos hm]; omega, fun i hi r hr => ?_⟩
    rw [putN, if_pos hm] at hi
    by_cases h1 : i < t
    · rw [if_pos h1, num_app_lo (by omega), num_take (by omega)]
    · rw [if_neg h1, if_pos hm, num_app_hi (by omega), num_drop, hl1]
      congr 1
      omega
  · rw [if_neg hm]
    have hl2 : (zs.take (t * 3) ++ [p, q, m]).length = t * 3 + 3 := by rw [List.length_append, hl1]; rfl
    refine ⟨by rw [List.length_append, hl2, List.length_drop, hz, putN, if_neg hm]; omega, fun i hi r hr => ?_⟩
    rw [putN, if_neg hm] at hi
    by_cases h1 : i < t
    · rw [if_pos h1, num_app_lo (by omega), num_app_lo (by omega), num_take (by omega)]
    · rw [if_neg h1, if_neg hm]
      by_cases h2 : i = t
      · subst h2
        rw [if_pos rfl, num_app_lo (by omega), num_app_hi (by omega), hl1]
        congr 1
        omega
      · rw [if_neg h2, num_app_hi (by omega), num_drop, hl2]
        congr 1
        omega
theorem put_ord {side p q m : Int} {zs : List Int} {n t : Nat} (hz : zs.length = n * 3) (ho : LvOrd side zs n) (h : PutAt side zs n p t) : LvOrd side (putL side zs n p q m) (putN n m (putE zs n p t)) := by
  have f := put_rows (q := q) (m := m) hz ho h
  have hn := h.le
  have hE : putE zs n p t ≤ 1 ∧ t + putE zs n p t ≤ n ∧ (t < n → putE zs n p t = 0 → num zs (t * 3) ≠ p) := by
    unfold putE
    split
    · omega
    · rename_i hc
      exact ⟨by omega, by omega, fun a _ b => hc ⟨a, b⟩⟩
  intro i j hij hj
  have fi := f.row i (by omega) 0 (by omega)
  have fj := f.row j hj 0 (by omega)
  have hjn := hj
  simp only [Nat.add_zero] at fi fj
  rw [fi, fj]
  generalize hee : putE zs n p t = e at *
  unfold putN at hjn
  have beh : ∀ k, t + e ≤ k → k < n → ahdB side p (num zs (k * 3)) = true := fun k hk hkn => by
    rcases Nat.lt_or_ge t k with a | a
    · exact putAt_behind ho h a hkn
    · obtain rfl : t = k := by omega
      rcases ahd_not (h.hi hkn) with b | b
      · exact absurd b (hE.2.2 hkn (by omega))
      · exact b
  by_cases hm : m = 0
  · simp only [if_pos hm] at hjn ⊢
    by_cases h1 : i < t
    · rw [if_pos h1]
      by_cases h2 : j < t
      · rw [if_pos h2]; exact ho i j hij (by omega)
      · rw [if_neg h2]; exact ho i (j + e) (by omega) (by omega)
    · rw [if_neg h1, if_neg (by omega)]
      exact ho _ _ (by omega) (by omega)
  · simp only [if_neg hm] at hjn ⊢
    by_cases h1 : i < t
    · rw [if_pos h1]
      by_cases h2 : j < t
      · rw [if_pos h2]; exact ho i j hij (by omega)
      · rw [if_neg h2]
        by_cases h3 : j = t
        · rw [if_pos h3]; exact h.lo i h1
        · rw [if_neg h3]; exact ho i (j - 1 + e) (by omega) (by omega)
    · rw [if_neg h1, if_neg (by omega : ¬ j < t)]
      by_cases h3 : i = t
      · rw [if_pos h3, if_neg (by omega)]
        exact beh _ (by omega) (by omega)
      · rw [if_neg h3, if_neg (by omega)]
        exact ho _ _ (by omega) (by omega)
/-- how many levels the list holds -/
def cntL (zs : List Int) : Nat := zs.length / 3
/-- the levels behind the first k updates -/
def aplL (side : Int) (za zd : List Int) : Nat → List Int
  | 0 => za
  | k + 1 => putL side (aplL side za zd k) (cntL (aplL side za zd k)) (num zd (k * 3)) (num zd (k * 3 + 1)) (num zd (k * 3 + 2))
/-- an update is right -/
def updI (p q m : Int) : Bool := ((m == 0) && ((q == 0) && inB 1 p 1000000)) || lvI p q m
def updTo (zd : List Int) : Nat → Bool
  | 0 => true
  | k + 1 => updTo zd k && updI (num zd (k * 3)) (num zd (k * 3 + 1)) (num zd (k * 3 + 2))
def aplB (side : Int) (za : List Int) (n : Nat) (zd : List Int) (m : Nat) : Bool := lvsB side za n && (decide (m ≤ 80) && (updTo zd m && lvsB side (aplL side za zd m) (cntL (aplL side za zd m))))
def aplZ (side : Int) (za : List Int) (n : Nat) (zd : List Int) (m : Nat) : List Int := if aplB side za n zd m = true then aplL side za zd m else []
theorem updTo_no {zd : List Int} {k : Nat} (h : updI (num zd (k * 3)) (num zd (k * 3 + 1)) (num zd (k * 3 + 2)) = false) : ∀ n, k < n → updTo zd n = false
  | 0, hk => absurd hk (Nat.not_lt_zero k)
  | n + 1, hk => by
    rw [updTo]
    rcases Nat.lt_or_ge k n with hlt | hge
    · rw [updTo_no h n hlt]; rfl
    · obtain rfl : k = n := by omega
      rw [h, Bool.and_false]
theorem updTo_at {zd : List Int} : ∀ n k, updTo zd n = true → k < n → updI (num zd (k * 3)) (num zd (k * 3 + 1)) (num zd (k * 3 + 2)) = true
  | 0, k, _, hk => absurd hk (Nat.not_lt_zero k)
  | n + 1, k, h, hk => by
    simp only [updTo, Bool.and_eq_true] at h
    rcases Nat.lt_or_ge k n with hlt | hge
    · exact updTo_at n k h.1 hlt
    · obtain rfl : k = n := by omega
      exact h.2
/-- a right list of levels stands in order -/
theorem LvOrd.of_lvTo {side : Int} {zs : List Int} {n : Nat} (h : lvTo side zs n = true) : LvOrd side zs n := fun i j hij hj => lv_order h j i hij hj
theorem apl_ok {side : Int} {za zd : List Int} {n : Nat} (hz : za.length = n * 3) (ho : LvOrd side za n) : ∀ k, (∃ N, (aplL side za zd k).length = N * 3 ∧ N ≤ n + k) ∧ LvOrd side (aplL side za zd k) (cntL (aplL side za zd k))
  | 0 => ⟨⟨n, hz, by omega⟩, by rw [aplL, cntL, hz, Nat.mul_div_cancel _ (by omega)]; exact ho⟩
  | k + 1 => by
    obtain ⟨⟨N, h1, h2⟩, h3⟩ := apl_ok (zd := zd) hz ho k
    rw [aplL]
    have hc : cntL (aplL side za zd k) = N := by rw [cntL, h1, Nat.mul_div_cancel _ (by omega)]
    rw [hc] at h3 ⊢
    obtain ⟨t, ht⟩ := putAt_ex side (aplL side za zd k) (num zd (k * 3)) N
    have f := put_rows (q := num zd (k * 3 + 1)) (m := num zd (k * 3 + 2)) h1 h3 ht
    have g := put_ord (q := num zd (k * 3 + 1)) (m := num zd (k * 3 + 2)) h1 h3 ht
    refine ⟨⟨_, f.len, ?_⟩, ?_⟩
    · unfold putN; split <;> omega
    · rw [cntL, f.len, Nat.mul_div_cancel _ (by omega)]; exact g
end Go.Proofs.Ytfodkefaflpicaa
