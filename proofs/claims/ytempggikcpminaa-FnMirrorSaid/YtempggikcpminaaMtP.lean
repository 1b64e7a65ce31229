/-
  What an order meets, plainly: the other side, the records, what is left.
-/
import Derived.Test.YtempggikcpminaaBookP
import Derived.Test.YtempggikcpminaaCross
namespace Go.Proofs.Ytempggikcpminaa
open Go.RowKit Wire

/-- the record of a cancelled order -/
def canR (i a p c : Int) : List Int := [0, 4, 0, a, i, 0, p, c]
/-- the record of a fill -/
def filR (id acct i p t : Int) : List Int := [0, 3, 0, acct, id, i, p, t]
/-- an order meets the other side, head first: what is left of the side, the records, what is left of the order -/
def mtS (side id acct pr mode : Int) : List Int → List Int → Int → List Int × List Int × Int
  | i :: a :: p :: c :: t, R, q =>
    if 0 < q ∧ meetB side pr p = true then
      if a = acct then
        if mode = 1 then (i :: a :: p :: c :: t, R ++ canR id acct pr q, 0)
        else if mode = 2 then mtS side id acct pr mode t (R ++ canR i a p c) q
        else (t, R ++ canR i a p c ++ canR id acct pr q, 0)
      else if c ≤ q then mtS side id acct pr mode t (R ++ filR id acct i p c) (q - c)
      else (i :: a :: p :: (c - q) :: t, R ++ filR id acct i p q, 0)
    else (i :: a :: p :: c :: t, R, q)
  | Z, R, q => (Z, R, q)
theorem mtS_nil {side id acct pr mode : Int} {R : List Int} {q : Int} : mtS side id acct pr mode [] R q = ([], R, q) := by simp [mtS]
theorem mtS_cons {side id acct pr mode i a p c : Int} {t R : List Int} {q : Int} : mtS side id acct pr mode (i :: a :: p :: c :: t) R q =
    if 0 < q ∧ meetB side pr p = true then
      if a = acct then
        if mode = 1 then (i :: a :: p :: c :: t, R ++ canR id acct pr q, 0)
        else if mode = 2 then mtS side id acct pr mode t (R ++ canR i a p c) q
        else (t, R ++ canR i a p c ++ canR id acct pr q, 0)
      else if c ≤ q then mtS side id acct pr mode t (R ++ filR id acct i p c) (q - c)
      else (i :: a :: p :: (c - q) :: t, R ++ filR id acct i p q, 0)
    else (i :: a :: p :: c :: t, R, q) := by
  conv => lhs; rw [mtS]
theorem mtS_done {side id acct pr mode : Int} {R : List Int} : ∀ {Z : List Int} {q : Int}, ¬ 0 < q → ∀ m, Z.length = m * 4 → mtS side id acct pr mode Z R q = (Z, R, q)
  | [], q, _, _, _ => mtS_nil
  | [a], _, _, m, h => by simp at h; omega
  | [a, b], _, _, m, h => by simp at h; omega
  | [a, b, c], _, _, m, h => by simp at h; omega
  | i :: a :: p :: c :: t, q, hq, _, _ => by rw [mtS_cons, if_neg (fun h => hq h.1)]
/-- the first order of a list -/
theorem head4 {Z : List Int} {m : Nat} (h : Z.length = (m + 1) * 4) : ∃ t, Z = num Z 0 :: num Z 1 :: num Z 2 :: num Z 3 :: t ∧ t.length = m * 4 ∧ Z.drop 4 = t := by
  match Z, h with
  | [], h => simp at h
  | [_], h => simp at h; omega
  | [_, _], h => simp at h; omega
  | [_, _, _], h => simp at h; omega
  | i :: a :: p :: c :: t, h => exact ⟨t, rfl, by simp at h; omega, rfl⟩
/-- quantities are positive and small -/
def qtyOk (Z : List Int) (m : Nat) : Prop := ∀ k, k < m → 1 ≤ num Z (k * 4 + 3) ∧ num Z (k * 4 + 3) ≤ 1000000
theorem qtyOk_tail {i a p c : Int} {t : List Int} {m : Nat} (h : qtyOk (i :: a :: p :: c :: t) (m + 1)) : qtyOk t m := fun k hk => by
  have := h (k + 1) (by omega)
  rw [show (k + 1) * 4 + 3 = k * 4 + 3 + 4 by omega] at this
  exact this
theorem qtyOk_of {zs : List Int} {n : Nat} (h : allO zs n = true) : qtyOk zs n := fun k hk => by
  have hq := allO_at n k h hk
  simp only [ordB, inB, Bool.and_eq_true, decide_eq_true_eq] at hq
  exact hq.2.2.2
/-- how long the answers are -/
theorem mtS_len {side id acct pr mode : Int} : ∀ (m : Nat) {Z R : List Int} {q : Int} (N : Nat), Z.length = m * 4 → R.length = N * 8 → ∃ M N', (mtS side id acct pr mode Z R q).1.length = M * 4 ∧ M ≤ m ∧ (mtS side id acct pr mode Z R q).2.1.length = N' * 8 ∧ N' ≤ N + m + 1
  | 0, Z, R, q, N, hZ, hR => by
    have : Z = [] := List.eq_nil_of_length_eq_zero (by omega)
    subst this
    rw [mtS_nil]
    exact ⟨0, N, rfl, Nat.le_refl _, hR, by omega⟩
  | m + 1, Z, R, q, N, hZ, hR => by
    obtain ⟨t, e, ht, -⟩ := head4 hZ
    rw [e, mtS_cons]
    split
    · split
      · split
        · exact ⟨m + 1, N + 1, by simp [ht]; omega, Nat.le_refl _, by simp [canR, hR]; omega, by omega⟩
        · split
          · obtain ⟨M, N', h1, h2, h3, h4⟩ := mtS_len (side := side) (id := id) (acct := acct) (pr := pr) (mode := mode) m (q := q) (R := R ++ canR (num Z 0) (num Z 1) (num Z 2) (num Z 3)) (N + 1) ht (by simp [canR, hR]; omega)
            exact ⟨M, N', h1, by omega, h3, by omega⟩
          · exact ⟨m, N + 2, ht, by omega, by simp [canR, hR]; omega, by omega⟩
      · split
        · obtain ⟨M, N', h1, h2, h3, h4⟩ := mtS_len (side := side) (id := id) (acct := acct) (pr := pr) (mode := mode) m (q := q - num Z 3) (R := R ++ filR id acct (num Z 0) (num Z 2) (num Z 3)) (N + 1) ht (by simp [filR, hR]; omega)
          exact ⟨M, N', h1, by omega, h3, by omega⟩
        · exact ⟨m + 1, N + 1, by simp [ht]; omega, Nat.le_refl _, by simp [filR, hR]; omega, by omega⟩
    · exact ⟨m + 1, N, by simp [ht]; omega, Nat.le_refl _, hR, by omega⟩
end Go.Proofs.Ytempggikcpminaa
