/-
  Candles and trades: plain facts of the drawn laws.
-/
import Derived.Test.YteikflfchkmbnaaTrd
namespace Go.Proofs.Yteikflfchkmbnaa
open Go.RowKit Wire

theorem w64 (n : Int) (h1 : -9000000000000000000 ≤ n) (h2 : n ≤ 9000000000000000000) : wrap64 n = n := IntWalk.wrap64_in n (by omega)
theorem prod_in {l q : Int} (h1 : 0 ≤ l) (h2 : l ≤ 1000000) (h3 : 0 ≤ q) (h4 : q ≤ 1000000000) : 0 ≤ l * q ∧ l * q ≤ 1000000000000000 := by
  have h5 : l * q ≤ 1000000 * 1000000000 := Int.mul_le_mul h2 h4 h3 (by omega)
  exact ⟨Int.mul_nonneg h1 h3, by omega⟩
/-- what a right candle is -/
structure CdlOk (o h l c q z : Int) : Prop where
  l1 : 1 ≤ l
  lh : l ≤ h
  hM : h ≤ 1000000
  o1 : l ≤ o
  o2 : o ≤ h
  c1 : l ≤ c
  c2 : c ≤ h
  q1 : 1 ≤ q
  qM : q ≤ 1000000000
  z1 : l * q ≤ z
  z2 : z ≤ h * q
theorem inB_iff {a n b : Int} : inB a n b = true ↔ a ≤ n ∧ n ≤ b := by simp [inB]
theorem cdl_iff {o h l c q z : Int} : cdlB o h l c q z = true ↔ CdlOk o h l c q z := by
  simp only [cdlB, Bool.and_eq_true, inB_iff]
  constructor
  · rintro ⟨⟨a1, a2⟩, ⟨a3, a4⟩, ⟨a5, a6⟩, ⟨a7, a8⟩, ⟨a9, a10⟩, a11, a12⟩
    have p1 := prod_in (l := l) (q := q) (by omega) (by omega) (by omega) (by omega)
    have p2 := prod_in (l := h) (q := q) (by omega) (by omega) (by omega) (by omega)
    rw [w64 _ (by omega) (by omega)] at a11 a12
    exact ⟨a1, a3, a4, a5, a6, a7, a8, a9, a10, a11, a12⟩
  · rintro ⟨a1, a3, a4, a5, a6, a7, a8, a9, a10, a11, a12⟩
    have p1 := prod_in (l := l) (q := q) (by omega) (by omega) (by omega) (by omega)
    have p2 := prod_in (l := h) (q := q) (by omega) (by omega) (by omega) (by omega)
    rw [w64 _ (by omega) (by omega), w64 _ (by omega) (by omega)]
    exact ⟨⟨a1, by omega⟩, ⟨a3, a4⟩, ⟨a5, a6⟩, ⟨a7, a8⟩, ⟨a9, a10⟩, a11, a12⟩
theorem CdlOk.zM {o h l c q z : Int} (a : CdlOk o h l c q z) : 0 ≤ z ∧ z ≤ 1000000000000000 := by
  obtain ⟨a1, a3, a4, a5, a6, a7, a8, a9, a10, a11, a12⟩ := a
  have p1 := prod_in (l := l) (q := q) (by omega) (by omega) (by omega) (by omega)
  have p2 := prod_in (l := h) (q := q) (by omega) (by omega) (by omega) (by omega)
  omega
theorem mul_le_left {a b q : Int} (h : a ≤ b) (hq : 0 ≤ q) : a * q ≤ b * q := Int.mul_le_mul_of_nonneg_right h hq
/-- two right candles, one behind the other -/
theorem CdlOk.join {o h l c q z o' h' l' c' q' z' : Int} (a : CdlOk o h l c q z) (b : CdlOk o' h' l' c' q' z') (hq : q + q' ≤ 1000000000) :
    CdlOk o (max h h') (min l l') c' (wrap64 (q + q')) (wrap64 (z + z')) := by
  have ha := a.zM
  have hb := b.zM
  obtain ⟨a1, a3, a4, a5, a6, a7, a8, a9, a10, a11, a12⟩ := a
  obtain ⟨b1, b3, b4, b5, b6, b7, b8, b9, b10, b11, b12⟩ := b
  rw [w64 _ (by omega) (by omega), w64 _ (by omega) (by omega)]
  have m1 := mul_le_left (show min l l' ≤ l by omega) (show 0 ≤ q by omega)
  have m2 := mul_le_left (show min l l' ≤ l' by omega) (show 0 ≤ q' by omega)
  have m3 := mul_le_left (show h ≤ max h h' by omega) (show 0 ≤ q by omega)
  have m4 := mul_le_left (show h' ≤ max h h' by omega) (show 0 ≤ q' by omega)
  refine ⟨by omega, by omega, by omega, by omega, by omega, by omega, by omega, by omega, by omega, ?_, ?_⟩
  · rw [Int.mul_add]; omega
  · rw [Int.mul_add]; omega
theorem hiA_ge {zs : List Int} : ∀ n k, k < n → num zs (k * 2) ≤ hiA zs n
  | 0, k, h => absurd h (Nat.not_lt_zero k)
  | n + 1, k, h => by
    rw [hiA]
    rcases Nat.lt_or_ge k n with h1 | h1
    · have := hiA_ge (zs := zs) n k h1; omega
    · obtain rfl : k = n := by omega
      omega
theorem loA_le {zs : List Int} : ∀ n k, k < n → loA zs n ≤ num zs (k * 2)
  | 0, k, h => absurd h (Nat.not_lt_zero k)
  | n + 1, k, h => by
    rw [loA]
    rcases Nat.lt_or_ge k n with h1 | h1
    · have := loA_le (zs := zs) n k h1; omega
    · obtain rfl : k = n := by omega
      omega
theorem hiA_in {zs : List Int} {n : Nat} (h : trdTo zs n = true) (hn : 1 ≤ n) : ∀ k, k ≤ n → num zs 0 ≤ hiA zs k ∧ hiA zs k ≤ 1000000
  | 0, _ => by have := trdTo_at n 0 h (by omega); simp [hiA] at this ⊢; omega
  | k + 1, hk => by
    have h1 := hiA_in h hn k (by omega)
    have h2 := trdTo_at n k h (by omega)
    rw [hiA]
    omega
theorem loA_in {zs : List Int} {n : Nat} (h : trdTo zs n = true) (hn : 1 ≤ n) : ∀ k, k ≤ n → loA zs k ≤ num zs 0 ∧ 1 ≤ loA zs k
  | 0, _ => by have := trdTo_at n 0 h (by omega); simp [loA] at this ⊢; omega
  | k + 1, hk => by
    have h1 := loA_in h hn k (by omega)
    have h2 := trdTo_at n k h (by omega)
    rw [loA]
    omega
theorem woA_in {zs : List Int} {n : Nat} (h : trdTo zs n = true) : ∀ k, k ≤ n → loA zs n * qtA zs k ≤ woA zs k ∧ woA zs k ≤ hiA zs n * qtA zs k
  | 0, _ => by simp [woA, qtA]
  | k + 1, hk => by
    have h1 := woA_in h k (by omega)
    have h2 := trdTo_at n k h (by omega)
    have h3 := hiA_ge (zs := zs) n k (by omega)
    have h4 := loA_le (zs := zs) n k (by omega)
    have m1 := mul_le_left h3 (show 0 ≤ num zs (k * 2 + 1) by omega)
    have m2 := mul_le_left h4 (show 0 ≤ num zs (k * 2 + 1) by omega)
    rw [woA, qtA, Int.mul_add, Int.mul_add]
    omega
theorem cnd_parts {zs : List Int} {n : Nat} (h : cndB zs n = true) : 1 ≤ n ∧ n ≤ 1000 ∧ trdTo zs n = true := by
  simp only [cndB, Bool.and_eq_true, decide_eq_true_eq] at h; exact h
theorem cnd_ok {zs : List Int} {n : Nat} (h : cndB zs n = true) : CdlOk (num zs 0) (hiA zs n) (loA zs n) (num zs ((n - 1) * 2)) (qtA zs n) (woA zs n) := by
  obtain ⟨h1, h2, h3⟩ := cnd_parts h
  have a := hiA_in h3 h1 n (Nat.le_refl _)
  have b := loA_in h3 h1 n (Nat.le_refl _)
  have c := hiA_ge (zs := zs) n (n - 1) (by omega)
  have d := loA_le (zs := zs) n (n - 1) (by omega)
  have e := qtA_le h3 n (Nat.le_refl _)
  have f := woA_in h3 n (Nat.le_refl _)
  exact ⟨by omega, by omega, by omega, by omega, by omega, d, c, by omega, by omega, f.1, f.2⟩
/-- the average lies between the least and the greatest price -/
theorem avg_in {zs : List Int} {n : Nat} (h : cndB zs n = true) : loA zs n ≤ woA zs n / qtA zs n ∧ woA zs n / qtA zs n ≤ hiA zs n := by
  have k := cnd_ok h
  have hq := k.q1
  refine ⟨Int.le_ediv_of_mul_le (by omega) k.z1, ?_⟩
  have := k.z2
  exact Int.ediv_le_of_le_mul (by omega) this
end Go.Proofs.Yteikflfchkmbnaa
