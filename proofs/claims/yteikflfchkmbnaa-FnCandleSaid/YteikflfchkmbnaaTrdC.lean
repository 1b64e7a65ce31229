/-
  A list of trades cut in two: its candle is the two candles joined.
-/
import Derived.Test.YteikflfchkmbnaaLawBehD
namespace Go.Proofs.Yteikflfchkmbnaa
open Go.RowKit Wire

theorem num_take {zs : List Int} {k j : Nat} (h : j < k) : num (zs.take k) j = num zs j := by
  unfold num; rw [List.getD_eq_getElem?_getD, List.getD_eq_getElem?_getD, List.getElem?_take_of_lt h]
theorem num_drop (zs : List Int) (k j : Nat) : num (zs.drop k) j = num zs (k + j) := by
  unfold num; rw [List.getD_eq_getElem?_getD, List.getD_eq_getElem?_getD, List.getElem?_drop]
section
variable {zs : List Int} {k : Nat}
theorem cut_a : ∀ i, i ≤ k → 1 ≤ k → trdTo (zs.take (k * 2)) i = trdTo zs i ∧ hiA (zs.take (k * 2)) i = hiA zs i ∧ loA (zs.take (k * 2)) i = loA zs i ∧ qtA (zs.take (k * 2)) i = qtA zs i ∧ woA (zs.take (k * 2)) i = woA zs i
  | 0, _, hk => by
    have e : num (zs.take (k * 2)) 0 = num zs 0 := num_take (by omega)
    simp [trdTo, hiA, loA, qtA, woA, e]
  | i + 1, hi, hk => by
    obtain ⟨a1, a2, a3, a4, a5⟩ := cut_a i (by omega) hk
    have e0 : num (zs.take (k * 2)) (i * 2) = num zs (i * 2) := num_take (by omega)
    have e1 : num (zs.take (k * 2)) (i * 2 + 1) = num zs (i * 2 + 1) := num_take (by omega)
    simp only [trdTo, trdAt, hiA, loA, qtA, woA, a1, a2, a3, a4, a5, e0, e1, and_self]
theorem cut_b : ∀ m, trdTo zs (k + m) = (trdTo zs k && trdTo (zs.drop (k * 2)) m) ∧ qtA zs (k + m) = qtA zs k + qtA (zs.drop (k * 2)) m ∧ woA zs (k + m) = woA zs k + woA (zs.drop (k * 2)) m
  | 0 => by simp [trdTo, qtA, woA]
  | m + 1 => by
    obtain ⟨a1, a4, a5⟩ := cut_b m
    have e0 : num (zs.drop (k * 2)) (m * 2) = num zs ((k + m) * 2) := by rw [num_drop]; congr 1; omega
    have e1 : num (zs.drop (k * 2)) (m * 2 + 1) = num zs ((k + m) * 2 + 1) := by rw [num_drop]; congr 1; omega
    rw [← Nat.add_assoc]
    refine ⟨?_, ?_, ?_⟩
    · rw [trdTo, trdTo, a1, trdAt, trdAt, e0, e1, Bool.and_assoc]
    · rw [qtA, qtA, a4, e1]; omega
    · rw [woA, woA, a5, e0, e1]; omega
theorem cut_m : ∀ m, max (hiA zs k) (hiA (zs.drop (k * 2)) (m + 1)) = hiA zs (k + (m + 1)) ∧ min (loA zs k) (loA (zs.drop (k * 2)) (m + 1)) = loA zs (k + (m + 1))
  | 0 => by
    have e0 : num (zs.drop (k * 2)) 0 = num zs (k * 2) := by rw [num_drop]; rfl
    simp only [hiA, loA, Nat.zero_mul, e0]
    constructor <;> omega
  | m + 1 => by
    obtain ⟨a1, a2⟩ := cut_m m
    have e0 : num (zs.drop (k * 2)) ((m + 1) * 2) = num zs ((k + (m + 1)) * 2) := by rw [num_drop]; congr 1; omega
    show max (hiA zs k) (max (hiA (zs.drop (k * 2)) (m + 1)) (num (zs.drop (k * 2)) ((m + 1) * 2))) = max (hiA zs (k + (m + 1))) (num zs ((k + (m + 1)) * 2)) ∧ min (loA zs k) (min (loA (zs.drop (k * 2)) (m + 1)) (num (zs.drop (k * 2)) ((m + 1) * 2))) = min (loA zs (k + (m + 1))) (num zs ((k + (m + 1)) * 2))
    rw [← a1, ← a2, e0]
    constructor <;> omega
end
theorem cndF_yes {zs : List Int} {n : Nat} (h : cndB zs n = true) : ∀ j, cndF zs n j = (match j with | 0 => num zs 0 | 1 => hiA zs n | 2 => loA zs n | 3 => num zs ((n - 1) * 2) | 4 => qtA zs n | _ => woA zs n) := by
  intro j
  match j with
  | 0 => simp [cndF, cndN, h]
  | 1 => simp [cndF, cndN, h]
  | 2 => simp [cndF, cndN, h]
  | 3 => simp [cndF, cndN, h]
  | 4 => simp [cndF, cndN, h]
  | _ + 5 => simp [cndF, cndN, h]
theorem cndF_ok {zs : List Int} {n : Nat} (h : cndB zs n = true) : okF (cndF zs n) = true := by
  rw [ok_iff, cndF_yes h, cndF_yes h, cndF_yes h, cndF_yes h, cndF_yes h, cndF_yes h]
  exact cnd_ok h
theorem cut_beh {zs : List Int} {n k : Nat} (h : cndB zs n = true) (h1 : 1 ≤ k) (h2 : k < n) :
    cndB (zs.take (k * 2)) k = true ∧ cndB (zs.drop (k * 2)) (n - k) = true ∧
    behB (cndF (zs.take (k * 2)) k 0) (cndF (zs.take (k * 2)) k 1) (cndF (zs.take (k * 2)) k 2) (cndF (zs.take (k * 2)) k 3) (cndF (zs.take (k * 2)) k 4) (cndF (zs.take (k * 2)) k 5) (cndF (zs.drop (k * 2)) (n - k) 0) (cndF (zs.drop (k * 2)) (n - k) 1) (cndF (zs.drop (k * 2)) (n - k) 2) (cndF (zs.drop (k * 2)) (n - k) 3) (cndF (zs.drop (k * 2)) (n - k) 4) (cndF (zs.drop (k * 2)) (n - k) 5) = true ∧
    ∀ j, jnF (cndF (zs.take (k * 2)) k) (cndF (zs.drop (k * 2)) (n - k)) j = cndF zs n j := by
  obtain ⟨p1, p2, p3⟩ := cnd_parts h
  obtain ⟨m, rfl⟩ : ∃ m, n = k + (m + 1) := ⟨n - k - 1, by omega⟩
  rw [show k + (m + 1) - k = m + 1 by omega]
  obtain ⟨b1, b2, b3⟩ := cut_b (zs := zs) (k := k) (m + 1)
  obtain ⟨a1, a2, a3, a4, a5⟩ := cut_a (zs := zs) (k := k) k (Nat.le_refl _) h1
  obtain ⟨m1, m2⟩ := cut_m (zs := zs) (k := k) m
  rw [p3] at b1
  have b1 := b1.symm
  simp only [Bool.and_eq_true] at b1
  have ha : cndB (zs.take (k * 2)) k = true := by simp [cndB, a1, b1.1]; omega
  have hb : cndB (zs.drop (k * 2)) (m + 1) = true := by simp [cndB, b1.2]; omega
  have ya := cndF_yes ha
  have yb := cndF_yes hb
  have yc := cndF_yes h
  have kc := cnd_ok h
  have kq := kc.qM
  have kz := kc.zM
  have kq1 := kc.q1
  have e : ∀ j, jnF (cndF (zs.take (k * 2)) k) (cndF (zs.drop (k * 2)) (m + 1)) j = cndF zs (k + (m + 1)) j := by
    intro j
    match j with
    | 0 => show cndF (zs.take (k * 2)) k 0 = _; rw [ya, yc]; exact num_take (by omega)
    | 1 => show max (cndF (zs.take (k * 2)) k 1) (cndF (zs.drop (k * 2)) (m + 1) 1) = _; rw [ya, yb, yc]; show max (hiA _ k) (hiA _ (m + 1)) = hiA zs _; rw [a2, m1]
    | 2 => show min (cndF (zs.take (k * 2)) k 2) (cndF (zs.drop (k * 2)) (m + 1) 2) = _; rw [ya, yb, yc]; show min (loA _ k) (loA _ (m + 1)) = loA zs _; rw [a3, m2]
    | 3 => show cndF (zs.drop (k * 2)) (m + 1) 3 = _; rw [yb, yc]; show num (zs.drop (k * 2)) ((m + 1 - 1) * 2) = num zs ((k + (m + 1) - 1) * 2); rw [num_drop]; congr 1; omega
    | 4 => show wrap64 (cndF (zs.take (k * 2)) k 4 + cndF (zs.drop (k * 2)) (m + 1) 4) = _; rw [ya, yb, yc]; show wrap64 (qtA _ k + qtA _ (m + 1)) = qtA zs _; rw [a4, ← b2]; exact w64 _ (by omega) (by omega)
    | _ + 5 => show wrap64 (cndF (zs.take (k * 2)) k 5 + cndF (zs.drop (k * 2)) (m + 1) 5) = _; rw [ya, yb, yc]; show wrap64 (woA _ k + woA _ (m + 1)) = woA zs _; rw [a5, ← b3]; exact w64 _ (by omega) (by omega)
  refine ⟨ha, hb, ?_, e⟩
  rw [beh_split, cndF_ok ha, cndF_ok hb]
  have ec : okF (jnF (cndF (zs.take (k * 2)) k) (cndF (zs.drop (k * 2)) (m + 1))) = okF (cndF zs (k + (m + 1))) := by
    unfold okF; rw [e 0, e 1, e 2, e 3, e 4, e 5]
  rw [ec, cndF_ok h]
  rfl
end Go.Proofs.Yteikflfchkmbnaa
