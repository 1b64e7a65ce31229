/-
  A mirrored book: it is right, and so is the order; what it then meets.
-/
import Derived.Test.YtempggikcpminaaMirP
import Derived.Test.YtempggikcpminaaGM
namespace Go.Proofs.Ytempggikcpminaa
open Go.RowKit Wire

/-- all prices are about 100 -/
def NearZ : List Int → Prop
  | _ :: _ :: p :: _ :: t => (50 ≤ p ∧ p ≤ 150) ∧ NearZ t
  | _ => True
theorem near_of : ∀ n {Z : List Int}, Z.length = n * 4 → (NearZ Z ↔ ∀ k, k < n → 50 ≤ num Z (k * 4 + 2) ∧ num Z (k * 4 + 2) ≤ 150)
  | 0, Z, h => by
    have : Z = [] := List.eq_nil_of_length_eq_zero (by omega)
    subst this
    exact ⟨fun _ k hk => absurd hk (Nat.not_lt_zero k), fun _ => trivial⟩
  | n + 1, Z, h => by
    obtain ⟨t, e, ht, -⟩ := head4 h
    generalize num Z 0 = i at e
    generalize num Z 1 = a at e
    generalize num Z 2 = p at e
    generalize num Z 3 = c at e
    subst e
    have ih := near_of n ht
    have hn : ∀ k, num (i :: a :: p :: c :: t) ((k + 1) * 4 + 2) = num t (k * 4 + 2) := fun k => by
      rw [show (k + 1) * 4 + 2 = k * 4 + 2 + 4 by omega]
      rfl
    rw [NearZ, ih]
    constructor
    · rintro ⟨h1, h2⟩ k hk
      cases k with
      | zero => exact h1
      | succ k => rw [hn]; exact h2 k (by omega)
    · intro hh
      exact ⟨hh 0 (by omega), fun k hk => by rw [← hn]; exact hh (k + 1) (by omega)⟩
theorem near_all {n : Nat} {Z : List Int} (h : ∀ k, k < n → 50 ≤ num Z (k * 4 + 2) ∧ num Z (k * 4 + 2) ≤ 150) : nearB Z n = true := by
  induction n with
  | zero => rfl
  | succ n ih =>
    rw [nearB, ih (fun k hk => h k (by omega)), decide_eq_true (h n (by omega)).1, decide_eq_true (h n (by omega)).2]
    rfl
theorem mt_near {side id acct pr mode : Int} : ∀ (m : Nat) {Z R : List Int} {q : Int}, Z.length = m * 4 → NearZ Z → NearZ (mtS side id acct pr mode Z R q).1
  | 0, Z, R, q, hZ, hn => by
    have : Z = [] := List.eq_nil_of_length_eq_zero (by omega)
    subst this
    rw [mtS_nil]
    exact hn
  | m + 1, Z, R, q, hZ, hn => by
    obtain ⟨t, e, ht, -⟩ := head4 hZ
    generalize num Z 0 = i at e
    generalize num Z 1 = a at e
    generalize num Z 2 = p at e
    generalize num Z 3 = c at e
    subst e
    rw [NearZ] at hn
    rw [mtS_cons]
    split
    · split
      · split
        · exact hn
        · split
          · exact mt_near m ht hn.2
          · exact hn.2
      · split
        · exact mt_near m ht hn.2
        · exact hn
    · exact hn
/-- a side of a mirrored book -/
theorem side_mir {side : Int} {Z : List Int} {n : Nat} (hs : side = 1 ∨ side = 2) (hZ : Z.length = n * 4) (hn : ∀ k, k < n → 50 ≤ num Z (k * 4 + 2) ∧ num Z (k * 4 + 2) ≤ 150) (h : sideB side Z n = true) : sideB (3 - side) (mir Z) n = true := by
  have hm := mir_num n hZ
  have ha : ∀ k, k ≤ n → allO Z k = true → allO (mir Z) k = true := by
    intro k
    induction k with
    | zero => intro _ _; rfl
    | succ k ih =>
      intro hk h
      rw [allO, Bool.and_eq_true] at h ⊢
      refine ⟨ih (by omega) h.1, ?_⟩
      obtain ⟨m0, m1, m2, m3⟩ := hm k (by omega)
      have hp := hn k (by omega)
      have h2 := h.2
      simp only [ordB, m0, m1, m2, m3, inB, Bool.and_eq_true, decide_eq_true_eq] at h2 ⊢
      omega
  have hs2 : ∀ k, k ≤ n → srtO (3 - side) (mir Z) k = srtO side Z k := by
    intro k
    induction k with
    | zero => intro _; rfl
    | succ k ih =>
      intro hk
      rw [srtO, srtO, ih (by omega)]
      by_cases h0 : k = 0
      · simp [h0]
      · have e1 : price (mir Z) k = 200 - price Z k := (hm k (by omega)).2.2.1
        have e2 : price (mir Z) (k - 1) = 200 - price Z (k - 1) := (hm (k - 1) (by omega)).2.2.1
        rw [e1, e2, bet_mir hs]
  simp only [sideB, Bool.and_eq_true] at h ⊢
  exact ⟨h.1, ha n (Nat.le_refl _) h.2.1, by rw [hs2 n (Nat.le_refl _)]; exact h.2.2⟩
/-- numbers all differ -/
theorem dist_iff {f : Nat → Int} : ∀ n, distB f n = true ↔ ∀ i j, i < j → j < n → f i ≠ f j
  | 0 => by simp [distB]
  | n + 1 => by
    rw [distB, Bool.and_eq_true, dist_iff n, Bool.not_eq_true']
    have hs : seenB f (f n) n = false ↔ ∀ i, i < n → f i ≠ f n := by
      rw [← Bool.not_eq_true, seen_one]
      constructor
      · intro h i hi e
        exact h ⟨i, hi, e⟩
      · rintro h ⟨i, hi, e⟩
        exact h i hi e
    rw [hs]
    constructor
    · rintro ⟨h1, h2⟩ i j hij hj
      rcases Nat.lt_or_ge j n with a | a
      · exact h1 i j hij a
      · obtain rfl : j = n := by omega
        exact h2 i hij
    · intro h
      exact ⟨fun i j hij hj => h i j hij (by omega), fun i hi => h i n hi (by omega)⟩
theorem id_mir {za zb : List Int} {n m : Nat} (ha : za.length = n * 4) (hb : zb.length = m * 4) (i : Nat) (hi : i < n + m) : ∃ j, j < m + n ∧ idA (mir zb) m (mir za) j = idA za n zb i ∧ j = if i < n then m + i else i - n := by
  unfold idA
  by_cases h : i < n
  · refine ⟨m + i, by omega, ?_, by rw [if_pos h]⟩
    rw [if_neg (by omega), if_pos h, Nat.add_sub_cancel_left]
    exact (mir_num n ha i h).1
  · refine ⟨i - n, by omega, ?_, by rw [if_neg h]⟩
    rw [if_pos (by omega), if_neg h]
    exact (mir_num m hb (i - n) (by omega)).1
theorem id_back {za zb : List Int} {n m : Nat} (ha : za.length = n * 4) (hb : zb.length = m * 4) (j : Nat) (hj : j < m + n) : ∃ i, i < n + m ∧ idA (mir zb) m (mir za) j = idA za n zb i ∧ i = if j < m then n + j else j - m := by
  unfold idA
  by_cases h : j < m
  · refine ⟨n + j, by omega, ?_, by rw [if_pos h]⟩
    rw [if_pos h, if_neg (by omega), Nat.add_sub_cancel_left]
    exact (mir_num m hb j h).1
  · refine ⟨j - m, by omega, ?_, by rw [if_neg h]⟩
    rw [if_neg h, if_pos (by omega)]
    exact (mir_num n ha (j - m) (by omega)).1
theorem book_mir {za zb : List Int} {n m : Nat} (ha : za.length = n * 4) (hb : zb.length = m * 4) (hna : ∀ k, k < n → 50 ≤ num za (k * 4 + 2) ∧ num za (k * 4 + 2) ≤ 150) (hnb : ∀ k, k < m → 50 ≤ num zb (k * 4 + 2) ∧ num zb (k * 4 + 2) ≤ 150) (h : bookB za n zb m = true) : bookB (mir zb) m (mir za) n = true := by
  simp only [bookB, Bool.and_eq_true, Bool.not_eq_true'] at h ⊢
  obtain ⟨h1, h2, h3, h4⟩ := h
  refine ⟨side_mir (side := 2) (.inr rfl) hb hnb h2, side_mir (side := 1) (.inl rfl) ha hna h1, ?_, ?_⟩
  · unfold crossB at h3 ⊢
    by_cases hn0 : 0 < n
    · by_cases hm0 : 0 < m
      · have e1 : price (mir za) 0 = 200 - price za 0 := (mir_num n ha 0 hn0).2.2.1
        have e2 : price (mir zb) 0 = 200 - price zb 0 := (mir_num m hb 0 hm0).2.2.1
        rw [e1, e2]
        simp [hn0, hm0] at h3 ⊢
        omega
      · simp [hm0]
    · simp [hn0]
  · rw [dist_iff] at h4 ⊢
    intro i j hij hj e
    obtain ⟨i', hi', e1, f1⟩ := id_back ha hb i (by omega)
    obtain ⟨j', hj', e2, f2⟩ := id_back ha hb j hj
    rw [e1, e2] at e
    rcases Nat.lt_trichotomy i' j' with a | a | a
    · exact h4 i' j' a hj' e
    · split at f1 <;> split at f2 <;> omega
    · exact h4 j' i' a hi' e.symm
theorem rg_mir {za zb : List Int} {n m : Nat} {side oi oa op oq mode : Int} (ha : za.length = n * 4) (hb : zb.length = m * 4) (hna : ∀ k, k < n → 50 ≤ num za (k * 4 + 2) ∧ num za (k * 4 + 2) ≤ 150) (hnb : ∀ k, k < m → 50 ≤ num zb (k * 4 + 2) ∧ num zb (k * 4 + 2) ≤ 150) (ho : op = 0 ∨ (50 ≤ op ∧ op ≤ 150))
    (h : rgB za n zb m side oi oa op oq mode = true) : rgB (mir zb) m (mir za) n (3 - side) oi oa (mirP op) oq mode = true := by
  simp only [rgB, Bool.and_eq_true, Bool.not_eq_true'] at h ⊢
  obtain ⟨h1, h2, h3, h4, h5⟩ := h
  have hbk := book_mir ha hb hna hnb h1
  refine ⟨hbk, ?_, ?_, h4, ?_⟩
  · unfold sideOkB at h2 ⊢
    simp at h2 ⊢
    omega
  · unfold incB at h3 ⊢
    simp only [Bool.and_eq_true] at h3 ⊢
    have hmp : 0 ≤ mirP op ∧ mirP op ≤ 1000000 := by unfold mirP; split <;> omega
    exact ⟨h3.1, h3.2.1, inB_yes hmp.1 hmp.2, h3.2.2.2⟩
  · unfold knowsB at h5 ⊢
    rw [h1] at h5
    rw [hbk]
    rw [Bool.true_and] at h5 ⊢
    rw [← Bool.not_eq_true, seen_one] at h5 ⊢
    rintro ⟨j, hj, e⟩
    obtain ⟨i, hi, e1, _⟩ := id_back ha hb j hj
    exact h5 ⟨i, hi, by rw [← e1]; exact e⟩
/-- what is met there -/
theorem ma_mir {za zb : List Int} {n m : Nat} {side oi oa op oq mode : Int} (hs : side = 1 ∨ side = 2) (ha : za.length = n * 4) (hb : zb.length = m * 4) (ho : op = 0 ∨ (50 ≤ op ∧ op ≤ 150)) :
    mZ1 true (3 - side) oi oa (mirP op) oq mode (mir zb) (mir za) = mir (mZ2 true side oi oa op oq mode za zb) ∧ mZ2 true (3 - side) oi oa (mirP op) oq mode (mir zb) (mir za) = mir (mZ1 true side oi oa op oq mode za zb) ∧
    AlikeR (mRR true side oi oa op oq mode za zb) (mRR true (3 - side) oi oa (mirP op) oq mode (mir zb) (mir za)) ∧ mLL true (3 - side) oi oa (mirP op) oq mode (mir zb) (mir za) = mLL true side oi oa op oq mode za zb := by
  unfold mZ1 mZ2 mRR mLL mtA
  rcases hs with rfl | rfl
  · obtain ⟨h1, h2, h3⟩ := mt_mir (side := 1) (id := oi) (acct := oa) (mode := mode) (q := oq) (.inl rfl) ho m 0 hb rfl (AlikeR.refl [])
    simp only [if_true, show ((3 : Int) - 1 = 1) = False by simp, if_false]
    exact ⟨h1, trivial, h2, h3⟩
  · obtain ⟨h1, h2, h3⟩ := mt_mir (side := 2) (id := oi) (acct := oa) (mode := mode) (q := oq) (.inr rfl) ho n 0 ha rfl (AlikeR.refl [])
    simp only [if_true, show ((3 : Int) - 2 = 1) = True by simp, show ((2 : Int) = 1) = False by simp, if_false]
    exact ⟨trivial, h1, h2, h3⟩
end Go.Proofs.Ytempggikcpminaa
