/-
  Plain facts of matching: one order after another, each with one record.
-/
import Derived.Test.YtdjmejjponlfoaaGU
namespace Go.Proofs.Ytdjmejjponlfoaa
open Go.RowKit Wire

/-- record N + k of S tells of order k of Z -/
def tellsAt (side pr : Int) (Z S : List Int) (j k : Nat) : Prop :=
  ((num S (j * 8 + 1) = 3 ∧ num S (j * 8 + 5) = num Z (k * 4)) ∨ (num S (j * 8 + 1) = 4 ∧ num S (j * 8 + 4) = num Z (k * 4))) ∧ num S (j * 8 + 6) = num Z (k * 4 + 2) ∧ meetB side pr (num Z (k * 4 + 2)) = true
theorem tells_tail {side pr i a p c : Int} {t S : List Int} {j k : Nat} (h : tellsAt side pr t S j k) : tellsAt side pr (i :: a :: p :: c :: t) S j (k + 1) := by
  unfold tellsAt at h ⊢
  rw [show (k + 1) * 4 = k * 4 + 4 by omega, show k * 4 + 4 + 2 = k * 4 + 2 + 4 by omega]
  exact h
theorem tells_can {side pr i a p c : Int} {t R X : List Int} {N : Nat} (hl : R.length = N * 8) (hm : meetB side pr p = true) : tellsAt side pr (i :: a :: p :: c :: t) (R ++ canR i a p c ++ X) N 0 := by
  have e : ∀ j, j < 8 → num (R ++ canR i a p c ++ X) (N * 8 + j) = num (canR i a p c) j := fun j hj => by
    rw [fnum_lt (by simp [canR, hl] <;> omega)]
    exact fnum_ge hl
  refine ⟨.inr ⟨?_, ?_⟩, ?_, hm⟩
  · rw [e 1 (by omega)]; rfl
  · rw [e 4 (by omega)]; rfl
  · rw [e 6 (by omega)]; rfl
theorem tells_fil {side id acct pr i a p c q : Int} {t R X : List Int} {N : Nat} (hl : R.length = N * 8) (hm : meetB side pr p = true) : tellsAt side pr (i :: a :: p :: c :: t) (R ++ filR id acct i p q ++ X) N 0 := by
  have e : ∀ j, j < 8 → num (R ++ filR id acct i p q ++ X) (N * 8 + j) = num (filR id acct i p q) j := fun j hj => by
    rw [fnum_lt (by simp [filR, hl] <;> omega)]
    exact fnum_ge hl
  refine ⟨.inl ⟨?_, ?_⟩, ?_, hm⟩
  · rw [e 1 (by omega)]; rfl
  · rw [e 5 (by omega)]; rfl
  · rw [e 6 (by omega)]; rfl
/-- the last record may be the order's own -/
def lastOwn (id : Int) (S : List Int) (N N' r : Nat) : Prop := N' = N + r ∨ (N' = N + r + 1 ∧ num S ((N + r) * 8 + 1) = 4 ∧ num S ((N + r) * 8 + 4) = id)
theorem last_can {id i a p c : Int} {R : List Int} {N : Nat} (hl : R.length = N * 8) (hi : i = id) : num (R ++ canR i a p c) (N * 8 + 1) = 4 ∧ num (R ++ canR i a p c) (N * 8 + 4) = id := by
  rw [fnum_ge (i := 1) hl, fnum_ge (i := 4) hl]
  exact ⟨rfl, hi⟩
def MtOrd (side id pr : Int) (r3 : List Int × List Int × Int) (Z R : List Int) (m N : Nat) : Prop := ∃ r N' M g X, r ≤ m ∧ r3.2.1 = R ++ X ∧ r3.2.1.length = N' * 8 ∧ lastOwn id r3.2.1 N N' r ∧ (∀ k, k < r → tellsAt side pr Z r3.2.1 (N + k) k) ∧ r3.1.length = M * 4 ∧ M ≤ m ∧ SubQ r3.1 M Z m g ∧ ∀ p, p < M → r ≤ g p + 1
theorem ord_next {side id pr i a p c : Int} {r3 : List Int × List Int × Int} {t R C : List Int} {m N : Nat} (h : MtOrd side id pr r3 t (R ++ C) m (N + 1)) (h0 : ∀ X, tellsAt side pr (i :: a :: p :: c :: t) (R ++ C ++ X) N 0) : MtOrd side id pr r3 (i :: a :: p :: c :: t) R (m + 1) N := by
  obtain ⟨r, N', M, g, X, e1, e2, e3, e4, e5, e6, e7, e8, e9⟩ := h
  refine ⟨r + 1, N', M, _, C ++ X, by omega, by rw [e2, List.append_assoc], e3, ?_, fun k hk => ?_, e6, by omega, e8.tail, fun p hp => ?_⟩
  · unfold lastOwn at e4 ⊢
    rw [show N + (r + 1) = N + 1 + r by omega]
    exact e4
  · rcases k with _ | k
    · rw [e2]
      exact h0 X
    · rw [show N + (k + 1) = N + 1 + k by omega]
      exact tells_tail (e5 k (by omega))
  · have := e9 p hp
    try dsimp only
    omega
theorem mt_ord {side id acct pr mode : Int} : ∀ (m : Nat) {Z R : List Int} {q : Int} (N : Nat), Z.length = m * 4 → R.length = N * 8 → qtyOk Z m → 0 ≤ q → MtOrd side id pr (mtS side id acct pr mode Z R q) Z R m N
  | 0, Z, R, q, N, hZ, hR, hQ, _ => by
    have : Z = [] := List.eq_nil_of_length_eq_zero (by omega)
    subst this
    rw [mtS_nil]
    exact ⟨0, N, 0, fun k => k, [], Nat.le_refl _, by simp, hR, .inl rfl, fun k hk => absurd hk (Nat.not_lt_zero k), rfl, Nat.le_refl _, SubQ.same [] 0 hQ, fun p hp => absurd hp (Nat.not_lt_zero p)⟩
  | m + 1, Z, R, q, N, hZ, hR, hQ, hq => by
    obtain ⟨t, e, ht, -⟩ := head4 hZ
    have hc := hQ 0 (by omega)
    simp only [Nat.zero_mul, Nat.zero_add] at hc
    rw [e] at hQ ⊢
    have hQ' := qtyOk_tail hQ
    generalize num Z 0 = i at *
    generalize num Z 1 = a at *
    generalize num Z 2 = p at *
    generalize num Z 3 = c at *
    have hl4 : ∀ y : Int, (i :: a :: p :: y :: t).length = (m + 1) * 4 := fun y => by simp [ht] <;> omega
    have hR1 : (R ++ canR i a p c).length = (N + 1) * 8 := by simp [canR, hR] <;> omega
    have keep := SubQ.same (i :: a :: p :: c :: t) (m + 1) hQ
    rw [mtS_cons]
    split
    · rename_i hm
      split
      · split
        · exact ⟨0, N + 1, m + 1, _, _, Nat.zero_le _, rfl, by simp [canR, hR] <;> omega, .inr ⟨rfl, last_can hR rfl⟩, fun k hk => absurd hk (Nat.not_lt_zero k), hl4 c, Nat.le_refl _, keep, fun p hp => Nat.zero_le _⟩
        · split
          · exact ord_next (mt_ord m (N + 1) ht hR1 hQ' hq) (fun X => tells_can hR hm.2)
          · refine ⟨1, N + 2, m, _, canR i a p c ++ canR id acct pr q, by omega, by rw [List.append_assoc], by simp [canR, hR] <;> omega, .inr ⟨by omega, last_can hR1 rfl⟩, fun k hk => ?_, ht, by omega, (SubQ.same t m hQ').tail, fun p hp => by (try dsimp only); omega⟩
            obtain rfl : k = 0 := by omega
            exact tells_can hR hm.2
      · rename_i ha
        split
        · exact ord_next (mt_ord m (N + 1) ht (by simp [filR, hR] <;> omega) hQ' (by omega)) (fun X => tells_fil hR hm.2)
        · refine ⟨1, N + 1, m + 1, _, _, by omega, rfl, by simp [filR, hR] <;> omega, .inl rfl, fun k hk => ?_, hl4 (c - q), Nat.le_refl _, SubQ.cut hQ (by omega), fun p hp => by (try dsimp only); omega⟩
          obtain rfl : k = 0 := by omega
          have := tells_fil (side := side) (id := id) (acct := acct) (pr := pr) (i := i) (a := a) (p := p) (c := c) (q := q) (t := t) (X := []) hR hm.2
          simpa using this
    · exact ⟨0, N, m + 1, _, [], Nat.zero_le _, by simp, hR, .inl rfl, fun k hk => absurd hk (Nat.not_lt_zero k), hl4 c, Nat.le_refl _, keep, fun p hp => Nat.zero_le _⟩
end Go.Proofs.Ytdjmejjponlfoaa
