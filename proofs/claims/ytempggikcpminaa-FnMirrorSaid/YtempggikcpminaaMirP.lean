/-
  A mirrored book: plain facts of what an order meets there.
-/
import Derived.Test.YtempggikcpminaaMtP
namespace Go.Proofs.Ytempggikcpminaa
open Go.RowKit Wire

/-- orders with mirrored prices -/
def mir : List Int → List Int
  | i :: a :: p :: c :: t => i :: a :: (200 - p) :: c :: mir t
  | z => z
def mirP (p : Int) : Int := if 0 < p then 200 - p else p
/-- the first orders' prices are about 100 -/
def nearB (zs : List Int) : Nat → Bool
  | 0 => true
  | k + 1 => nearB zs k && (decide (50 ≤ num zs (k * 4 + 2)) && decide (num zs (k * 4 + 2) ≤ 150))
theorem nearB_at {zs : List Int} : ∀ n k, nearB zs n = true → k < n → 50 ≤ num zs (k * 4 + 2) ∧ num zs (k * 4 + 2) ≤ 150
  | 0, k, _, hk => absurd hk (Nat.not_lt_zero k)
  | n + 1, k, h, hk => by
    simp only [nearB, Bool.and_eq_true, decide_eq_true_eq] at h
    rcases Nat.lt_or_ge k n with a | a
    · exact nearB_at n k h.1 a
    · obtain rfl : k = n := by omega
      exact h.2
theorem nearB_no {zs : List Int} {k : Nat} (h : ¬ (50 ≤ num zs (k * 4 + 2) ∧ num zs (k * 4 + 2) ≤ 150)) : ∀ n, k < n → nearB zs n = false := fun n hk => by
  cases hh : nearB zs n with
  | false => rfl
  | true => exact absurd (nearB_at n k hh hk) h
theorem mir_len : ∀ m {Z : List Int}, Z.length = m * 4 → (mir Z).length = m * 4
  | 0, Z, h => by
    have : Z = [] := List.eq_nil_of_length_eq_zero (by omega)
    subst this
    rfl
  | m + 1, Z, h => by
    obtain ⟨t, e, ht, -⟩ := head4 h
    rw [e, mir]
    simp [mir_len m ht]
    omega
theorem mir_num : ∀ m {Z : List Int}, Z.length = m * 4 → ∀ k, k < m → num (mir Z) (k * 4) = num Z (k * 4) ∧ num (mir Z) (k * 4 + 1) = num Z (k * 4 + 1) ∧ num (mir Z) (k * 4 + 2) = 200 - num Z (k * 4 + 2) ∧ num (mir Z) (k * 4 + 3) = num Z (k * 4 + 3)
  | 0, Z, h, k, hk => absurd hk (Nat.not_lt_zero k)
  | m + 1, Z, h, k, hk => by
    obtain ⟨t, e, ht, -⟩ := head4 h
    generalize num Z 0 = i at e
    generalize num Z 1 = a at e
    generalize num Z 2 = p at e
    generalize num Z 3 = c at e
    subst e
    rw [mir]
    cases k with
    | zero => exact ⟨rfl, rfl, rfl, rfl⟩
    | succ k =>
      have ih := mir_num m ht k (by omega)
      have e : ∀ (j : Nat) (x0 x1 x2 x3 : Int) (l : List Int), num (x0 :: x1 :: x2 :: x3 :: l) ((k + 1) * 4 + j) = num l (k * 4 + j) := fun j x0 x1 x2 x3 l => by
        rw [show (k + 1) * 4 + j = k * 4 + j + 4 by omega]
        rfl
      exact ⟨by rw [show (k + 1) * 4 = (k + 1) * 4 + 0 from rfl, e, e]; exact ih.1, by rw [e, e]; exact ih.2.1, by rw [e, e]; exact ih.2.2.1, by rw [e, e]; exact ih.2.2.2⟩
/-- records that differ by their prices alone -/
def AlikeR (R S : List Int) : Prop := R.length = S.length ∧ ∀ x, x % 8 ≠ 6 → num R x = num S x
theorem AlikeR.refl (R : List Int) : AlikeR R R := ⟨rfl, fun _ _ => rfl⟩
theorem AlikeR.app {R S : List Int} {N : Nat} {a b c d e f g g' h : Int} (hA : AlikeR R S) (hN : R.length = N * 8) : AlikeR (R ++ [a, b, c, d, e, f, g, h]) (S ++ [a, b, c, d, e, f, g', h]) := by
  refine ⟨by simp [hA.1], fun x hx => ?_⟩
  rcases Nat.lt_or_ge x (N * 8) with h1 | h1
  · have e1 : num (R ++ [a, b, c, d, e, f, g, h]) x = num R x := by simp [num, List.getElem?_append, show x < R.length by omega]
    have e2 : num (S ++ [a, b, c, d, e, f, g', h]) x = num S x := by simp [num, List.getElem?_append, show x < S.length by rw [← hA.1]; omega]
    rw [e1, e2]
    exact hA.2 x hx
  · have e1 : num (R ++ [a, b, c, d, e, f, g, h]) x = num [a, b, c, d, e, f, g, h] (x - N * 8) := by simp [num, List.getElem?_append, hN, show ¬ x < N * 8 by omega]
    have e2 : num (S ++ [a, b, c, d, e, f, g', h]) x = num [a, b, c, d, e, f, g', h] (x - N * 8) := by simp [num, List.getElem?_append, ← hA.1, hN, show ¬ x < N * 8 by omega]
    rw [e1, e2]
    obtain ⟨y, rfl⟩ : ∃ y, x = N * 8 + y := ⟨x - N * 8, by omega⟩
    rw [Nat.add_sub_cancel_left]
    rcases (show y = 0 ∨ y = 1 ∨ y = 2 ∨ y = 3 ∨ y = 4 ∨ y = 5 ∨ y = 6 ∨ y = 7 ∨ 8 ≤ y by omega) with rfl | rfl | rfl | rfl | rfl | rfl | rfl | rfl | hy
    · rfl
    · rfl
    · rfl
    · rfl
    · rfl
    · rfl
    · omega
    · rfl
    · have : ∀ l : List Int, l.length = 8 → num l y = 0 := fun l hl => by simp [num, List.getElem?_eq_none (show l.length ≤ y by omega)]
      rw [this _ rfl, this _ rfl]
theorem bet_mir {side : Int} (hs : side = 1 ∨ side = 2) (p q : Int) : betB (3 - side) (200 - p) (200 - q) = betB side p q := by
  rcases hs with rfl | rfl
  · simp only [betB]
    rw [Bool.eq_iff_iff]
    first | (simp; done) | (simp; omega)
  · simp only [betB]
    rw [Bool.eq_iff_iff]
    first | (simp; done) | (simp; omega)
theorem meet_mir {side lim p : Int} (hs : side = 1 ∨ side = 2) (hl : lim = 0 ∨ (50 ≤ lim ∧ lim ≤ 150)) : meetB (3 - side) (mirP lim) (200 - p) = meetB side lim p := by
  rcases hl with rfl | hl
  · simp [meetB, mirP]
  · unfold meetB
    rw [show mirP lim = 200 - lim by unfold mirP; rw [if_pos (by omega)], bet_mir hs]
    rw [beq_eq_false_iff_ne.2 (show lim ≠ 0 by omega), beq_eq_false_iff_ne.2 (show (200 - lim : Int) ≠ 0 by omega)]
theorem mt_mir {side id acct pr mode : Int} (hs : side = 1 ∨ side = 2) (hl : pr = 0 ∨ (50 ≤ pr ∧ pr ≤ 150)) : ∀ (m : Nat) {Z R S : List Int} {q : Int} (N : Nat), Z.length = m * 4 → R.length = N * 8 → AlikeR R S →
    (mtS (3 - side) id acct (mirP pr) mode (mir Z) S q).1 = mir (mtS side id acct pr mode Z R q).1 ∧ AlikeR (mtS side id acct pr mode Z R q).2.1 (mtS (3 - side) id acct (mirP pr) mode (mir Z) S q).2.1 ∧ (mtS (3 - side) id acct (mirP pr) mode (mir Z) S q).2.2 = (mtS side id acct pr mode Z R q).2.2
  | 0, Z, R, S, q, N, hZ, hR, hA => by
    have : Z = [] := List.eq_nil_of_length_eq_zero (by omega)
    subst this
    rw [show mir [] = [] from rfl, mtS_nil, mtS_nil]
    exact ⟨rfl, hA, rfl⟩
  | m + 1, Z, R, S, q, N, hZ, hR, hA => by
    obtain ⟨t, e, ht, -⟩ := head4 hZ
    generalize num Z 0 = i at e
    generalize num Z 1 = a at e
    generalize num Z 2 = p at e
    generalize num Z 3 = c at e
    subst e
    have hm := meet_mir (p := p) hs hl
    rw [mir, mtS_cons, mtS_cons, hm]
    split
    · split
      · split
        · exact ⟨by rw [mir], hA.app hR, rfl⟩
        · split
          · exact mt_mir hs hl m (N + 1) ht (by simp [canR, hR]; omega) (hA.app hR)
          · exact ⟨rfl, AlikeR.app (N := N + 1) (hA.app hR) (by simp [canR, hR]; omega), rfl⟩
      · split
        · exact mt_mir hs hl m (N + 1) ht (by simp [filR, hR]; omega) (hA.app hR)
        · exact ⟨by rw [mir], hA.app hR, rfl⟩
    · exact ⟨by rw [mir], hA, rfl⟩
end Go.Proofs.Ytempggikcpminaa
