/-
  Plain facts of a right book without an account's orders.
-/
import Derived.Test.YtdjmejjponlfoabGS
import Derived.Test.YtdjmejjponlfoabGC
import Derived.Test.YtdjmejjponlfoabDelA
namespace Go.Proofs.Ytdjmejjponlfoab
open Go.RowKit Wire

/-- a list T of M orders: those of the n orders of zs that are of another account, in their order -/
structure SubA (T : List Int) (M : Nat) (zs : List Int) (n : Nat) (acct : Int) (g : Nat → Nat) : Prop where
  lt : ∀ p, p < M → g p < n
  ok : ∀ p, p < M → num zs (g p * 4 + 1) ≠ acct
  val : ∀ p, p < M → ∀ j, j < 4 → num T (p * 4 + j) = num zs (g p * 4 + j)
  mono : ∀ p q, p < q → q < M → g p < g q
  all : ∀ q, q < n → num zs (q * 4 + 1) ≠ acct → ∃ p, p < M ∧ g p = q
theorem tka_zlen (zs : List Int) (id : Int) : ∀ k, (tkZA zs id k).length = tkNA zs id k * 4
  | 0 => rfl
  | k + 1 => by
    have ih := tka_zlen zs id k
    rw [tkZA, tkNA]
    split
    · exact ih
    · simp [ih]; omega
theorem tka_sub (zs : List Int) (id : Int) : ∀ n, ∃ g, SubA (tkZA zs id n) (tkNA zs id n) zs n id g
  | 0 => ⟨fun p => p, fun _ h => absurd h (Nat.not_lt_zero _), fun _ h => absurd h (Nat.not_lt_zero _), fun _ h => absurd h (Nat.not_lt_zero _), fun _ _ _ h => absurd h (Nat.not_lt_zero _), fun _ h => absurd h (Nat.not_lt_zero _)⟩
  | n + 1 => by
    obtain ⟨g, hg⟩ := tka_sub zs id n
    have hl := tka_zlen zs id n
    by_cases h : num zs (n * 4 + 1) = id
    · refine ⟨g, ?_⟩
      rw [tkZA, tkNA, if_pos h, if_pos h]
      exact ⟨fun p hp => Nat.lt_succ_of_lt (hg.lt p hp), hg.ok, hg.val, hg.mono, fun q hq hP => by
        rcases Nat.lt_or_ge q n with h1 | h1
        · exact hg.all q h1 hP
        · obtain rfl : q = n := by omega
          exact absurd h hP⟩
    · refine ⟨fun p => if p < tkNA zs id n then g p else n, ?_⟩
      rw [tkZA, tkNA, if_neg h, if_neg h]
      refine ⟨fun p hp => ?_, fun p hp => ?_, fun p hp j hj => ?_, fun p q hpq hq => ?_, fun q hq hP => ?_⟩
      · split
        · exact Nat.lt_succ_of_lt (hg.lt p (by assumption))
        · omega
      · split
        · exact hg.ok p (by assumption)
        · exact h
      · split
        · rw [tnum_lt (by omega)]
          exact hg.val p (by assumption) j hj
        · obtain rfl : p = tkNA zs id n := by omega
          rw [tnum_ge hl]
          match j, hj with
          | 0, _ => rfl
          | 1, _ => rfl
          | 2, _ => rfl
          | 3, _ => rfl
      · rw [if_pos (show p < tkNA zs id n by omega)]
        split
        · exact hg.mono p q hpq (by assumption)
        · exact hg.lt p (by omega)
      · rcases Nat.lt_or_ge q n with h1 | h1
        · obtain ⟨p, hp, e⟩ := hg.all q h1 hP
          exact ⟨p, by omega, by rw [if_pos hp, e]⟩
        · obtain rfl : q = n := by omega
          exact ⟨tkNA zs id q, by omega, by rw [if_neg (by omega)]⟩
theorem side_suba {side : Int} {T zs : List Int} {M n : Nat} {acct : Int} {g : Nat → Nat} (h : SubA T M zs n acct g) (hM : M ≤ n) (hs : sideB side zs n = true) : sideB side T M = true := by
  unfold sideB at hs ⊢
  simp only [Bool.and_eq_true, decide_eq_true_eq] at hs ⊢
  refine ⟨by omega, all_of M fun k hk => ?_, srt_of M fun i j hij hj => ?_⟩
  · have h1 := allO_at n (g k) hs.2.1 (h.lt k hk)
    unfold ordB at h1 ⊢
    rw [show k * 4 = k * 4 + 0 by omega, h.val k hk 0 (by omega), h.val k hk 1 (by omega), h.val k hk 2 (by omega), h.val k hk 3 (by omega)]
    exact h1
  · unfold price
    rw [h.val i (by omega) 2 (by omega), h.val j hj 2 (by omega)]
    exact srt_pair n hs.2.2 (g i) (g j) (h.mono i j hij hj) (h.lt j hj)
/-- a part of a right book is a right book -/
theorem book_suba {T1 T2 za zb : List Int} {M1 M2 n m : Nat} {acct : Int} {g f : Nat → Nat} (h1 : SubA T1 M1 za n acct g) (h2 : SubA T2 M2 zb m acct f) (hM1 : M1 ≤ n) (hM2 : M2 ≤ m) (hb : bookB za n zb m = true) : bookB T1 M1 T2 M2 = true := by
  simp only [bookB, Bool.and_eq_true] at hb ⊢
  obtain ⟨hs1, hs2, hc, hd⟩ := hb
  refine ⟨side_suba h1 hM1 hs1, side_suba h2 hM2 hs2, ?_, ?_⟩
  · rw [Bool.not_eq_true'] at hc ⊢
    unfold crossB at hc ⊢
    rcases Nat.eq_zero_or_pos M1 with e1 | p1
    · rw [decide_eq_false (by omega)]; rfl
    rcases Nat.eq_zero_or_pos M2 with e2 | p2
    · rw [decide_eq_false (show ¬ 0 < M2 by omega)]; simp
    have g0 := h1.lt 0 p1
    have f0 := h2.lt 0 p2
    rw [decide_eq_true (show 0 < n by omega), decide_eq_true (show 0 < m by omega), Bool.true_and, Bool.true_and] at hc
    have hc' := of_decide_eq_false hc
    have e1 : price T1 0 = price za (g 0) := h1.val 0 p1 2 (by omega)
    have e2 : price T2 0 = price zb (f 0) := h2.val 0 p2 2 (by omega)
    have q1 : price za (g 0) ≤ price za 0 := by
      rcases Nat.eq_zero_or_pos (g 0) with e | e
      · rw [e]; exact Int.le_refl _
      · unfold sideB at hs1
        simp only [Bool.and_eq_true] at hs1
        have := srt_pair n hs1.2.2 0 (g 0) e g0
        unfold betB at this
        rw [if_pos rfl] at this
        have := of_decide_eq_false this
        omega
    have q2 : price zb 0 ≤ price zb (f 0) := by
      rcases Nat.eq_zero_or_pos (f 0) with e | e
      · rw [e]; exact Int.le_refl _
      · unfold sideB at hs2
        simp only [Bool.and_eq_true] at hs2
        have := srt_pair m hs2.2.2 0 (f 0) e f0
        unfold betB at this
        rw [if_neg (by omega)] at this
        have := of_decide_eq_false this
        omega
    rw [decide_eq_false (show ¬ price T2 0 ≤ price T1 0 by omega)]
    simp
  · have hG : ∀ i, i < M1 + M2 → idA T1 M1 T2 i = idA za n zb (if i < M1 then g i else n + f (i - M1)) := fun i hi => by
      unfold idA
      by_cases c : i < M1
      · rw [if_pos c, if_pos c, if_pos (h1.lt i c)]
        exact h1.val i c 0 (by omega)
      · rw [if_neg c, if_neg c, if_neg (by omega), show n + f (i - M1) - n = f (i - M1) by omega]
        exact h2.val (i - M1) (by omega) 0 (by omega)
    refine dist_of _ fun i j hij hj => ?_
    rw [hG i (by omega), hG j hj]
    refine dist_pair (n + m) hd _ _ ?_ ?_
    · by_cases c : j < M1
      · rw [if_pos (show i < M1 by omega), if_pos c]
        exact h1.mono i j hij c
      · rw [if_neg c]
        by_cases c' : i < M1
        · rw [if_pos c']
          have := h1.lt i c'
          omega
        · rw [if_neg c']
          have := h2.mono (i - M1) (j - M1) (by omega) (by omega)
          omega
    · by_cases c : j < M1
      · rw [if_pos c]
        have := h1.lt j c
        omega
      · rw [if_neg c]
        have := h2.lt (j - M1) (by omega)
        omega
/-- without an account's orders: none of them is found, each other one is, as it was -/
theorem ca_find {za zb : List Int} {n m : Nat} {acct s : Int} {f : Nat → Int} {ok : Bool} {k : Nat} (ha : za.length = n * 4) (hb : bookB za n zb m = true) (hk : k < n + m)
    (h : FindRel (bookB (tkZA za acct n) (tkNA za acct n) (tkZA zb acct m) (tkNA zb acct m)) (tkZA za acct n) (tkNA za acct n) (tkZA zb acct m) (tkNA zb acct m) (num (za ++ zb) (k * 4)) s f ok) :
    (num (za ++ zb) (k * 4 + 1) = acct → ok = false) ∧ (num (za ++ zb) (k * 4 + 1) ≠ acct → ok = true ∧ ∀ j, j < 4 → f j = num (za ++ zb) (k * 4 + j)) := by
  obtain ⟨g1, s1⟩ := tka_sub za acct n
  obtain ⟨g2, s2⟩ := tka_sub zb acct m
  rw [book_suba s1 s2 (tkN_leA za acct n) (tkN_leA zb acct m) hb] at h
  obtain ⟨hy, hn⟩ := find_all h
  have hd : distB (idA za n zb) (n + m) = true := by
    simp only [bookB, Bool.and_eq_true] at hb
    exact hb.2.2.2
  have e0 : num (za ++ zb) (k * 4) = if k < n then num za (k * 4) else num zb ((k - n) * 4) := num_all ha k 0 (by omega)
  have inj : ∀ i j, i < n + m → j < n + m → idA za n zb i = idA za n zb j → i = j := fun i j hi hj e => by
    rcases Nat.lt_trichotomy i j with c | c | c
    · exact absurd e (dist_pair _ hd i j c hj)
    · exact c
    · exact absurd e.symm (dist_pair _ hd j i c hi)
  have ek : num (za ++ zb) (k * 4) = idA za n zb k := by
    rw [e0]
    unfold idA
    split <;> rfl
  have e1' : num (za ++ zb) (k * 4 + 1) = if k < n then num za (k * 4 + 1) else num zb ((k - n) * 4 + 1) := num_all ha k 1 (by omega)
  constructor
  · intro e
    rcases Bool.eq_false_or_eq_true ok with c | c
    · rcases hy c with ⟨p, hp, e1, -⟩ | ⟨p, hp, e1, -⟩
      · have h2 := s1.val p hp 0 (by omega)
        simp only [Nat.add_zero] at h2
        have := inj (g1 p) k (by have := s1.lt p hp; omega) hk (by rw [idA_at1 (s1.lt p hp), ← ek, ← e1, h2])
        rw [← this, if_pos (s1.lt p hp)] at e1'
        rw [← this, e1'] at e
        exact absurd e (s1.ok p hp)
      · have h2 := s2.val p hp 0 (by omega)
        simp only [Nat.add_zero] at h2
        have := inj (n + g2 p) k (by have := s2.lt p hp; omega) hk (by rw [idA_at2, ← ek, ← e1, h2])
        rw [← this, if_neg (by omega), show n + g2 p - n = g2 p by omega] at e1'
        rw [← this, e1'] at e
        exact absurd e (s2.ok p hp)
    · exact c
  · intro e
    have hok : ok = true := by
      rcases Bool.eq_false_or_eq_true ok with c | c
      · exact c
      · obtain ⟨q1, q2⟩ := hn c
        exfalso
        by_cases hkn : k < n
        · rw [if_pos hkn] at e0
          obtain ⟨p, hp, ep⟩ := s1.all k hkn (by rw [if_pos hkn] at e1'; rw [← e1']; exact e)
          have h2 := s1.val p hp 0 (by omega)
          simp only [Nat.add_zero, ep] at h2
          exact q1 p hp (h2.trans e0.symm)
        · rw [if_neg hkn] at e0
          obtain ⟨p, hp, ep⟩ := s2.all (k - n) (by omega) (by rw [if_neg hkn] at e1'; rw [← e1']; exact e)
          have h2 := s2.val p hp 0 (by omega)
          simp only [Nat.add_zero, ep] at h2
          exact q2 p hp (h2.trans e0.symm)
    refine ⟨hok, fun j hj => ?_⟩
    rw [num_all ha k j hj]
    rcases hy hok with ⟨p, hp, e1, hf⟩ | ⟨p, hp, e1, hf⟩
    · have h2 := s1.val p hp 0 (by omega)
      simp only [Nat.add_zero] at h2
      have := inj (g1 p) k (by have := s1.lt p hp; omega) hk (by rw [idA_at1 (s1.lt p hp), ← ek, ← e1, h2])
      rw [hf j hj, s1.val p hp j hj, this, if_pos (by have := s1.lt p hp; omega)]
    · have h2 := s2.val p hp 0 (by omega)
      simp only [Nat.add_zero] at h2
      have := inj (n + g2 p) k (by have := s2.lt p hp; omega) hk (by rw [idA_at2, ← ek, ← e1, h2])
      rw [hf j hj, s2.val p hp j hj, if_neg (by omega), show k - n = g2 p by omega]
theorem ca_ok {za zb : List Int} {n m : Nat} {acct : Int} (hb : bookB za n zb m = true) : bookB (tkZA za acct n) (tkNA za acct n) (tkZA zb acct m) (tkNA zb acct m) = true := by
  obtain ⟨g1, s1⟩ := tka_sub za acct n
  obtain ⟨g2, s2⟩ := tka_sub zb acct m
  exact book_suba s1 s2 (tkN_leA za acct n) (tkN_leA zb acct m) hb
/-- the records of more orders begin with those of fewer -/
theorem gn_pre (zs : List Int) (acct : Int) {k : Nat} : ∀ {K : Nat}, k ≤ K → ∃ X, gnR zs acct K = gnR zs acct k ++ X
  | 0, h => by obtain rfl : k = 0 := by omega
               exact ⟨[], by simp⟩
  | K + 1, h => by
    rcases Nat.eq_or_lt_of_le h with rfl | h
    · exact ⟨[], by simp⟩
    · obtain ⟨X, e⟩ := gn_pre zs acct (show k ≤ K by omega)
      rw [gnR, e]
      split
      · exact ⟨X ++ canR (num zs (K * 4)) (num zs (K * 4 + 1)) (num zs (K * 4 + 2)) (num zs (K * 4 + 3)), by rw [List.append_assoc]⟩
      · exact ⟨X, rfl⟩
theorem gn_at {zs : List Int} {acct : Int} {k K : Nat} (hk : k < K) (h : num zs (k * 4 + 1) = acct) : gnN zs acct k < gnN zs acct K ∧ num (gnR zs acct K) (gnN zs acct k * 8 + 4) = num zs (k * 4) ∧ num (gnR zs acct K) (gnN zs acct k * 8 + 7) = num zs (k * 4 + 3) := by
  obtain ⟨X, e⟩ := gn_pre zs acct (show k + 1 ≤ K from hk)
  have hl := gnR_len zs acct k
  have hl2 := gnR_len zs acct K
  have e2 : gnR zs acct (k + 1) = gnR zs acct k ++ canR (num zs (k * 4)) (num zs (k * 4 + 1)) (num zs (k * 4 + 2)) (num zs (k * 4 + 3)) := by rw [gnR, if_pos h]
  rw [e2] at e
  refine ⟨?_, ?_, ?_⟩
  · have : (gnR zs acct K).length = gnN zs acct k * 8 + 8 + X.length := by rw [e]; simp [canR, hl]; omega
    omega
  · rw [e, tnum_lt (by simp [canR, hl]), tnum_ge hl]
    rfl
  · rw [e, tnum_lt (by simp [canR, hl]), tnum_ge hl]
    rfl
end Go.Proofs.Ytdjmejjponlfoab
