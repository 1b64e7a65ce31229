/-
 Plain facts of a right book without an order: it is right, and all else is found as it was.
-/
import Derived.Test.YtgjjdnojiegidaaGreatDoorHA
import Derived.Test.YtgjjdnojiegidaaGreatDoorHD
import Derived.Test.YtgjjdnojiegidaaGreatDoorHC
namespace Go.Proofs.YtgjjdnojiegidaaGreatDoor
open Go.RowKit Wire

theorem tnum_lt {L M : List Int} {i : Nat} (h : i < L.length) : num (L ++ M) i = num L i := by
 unfold num
 rw [List.getD_eq_getElem?_getD, List.getD_eq_getElem?_getD, List.getElem?_append_left h]
theorem tnum_ge {L M : List Int} {j i : Nat} (h : L.length = j) : num (L ++ M) (j + i) = num M i := by
 subst h
 unfold num
 rw [List.getD_eq_getElem?_getD, List.getD_eq_getElem?_getD, List.getElem?_append_right (by omega)]
 congr 2
 omega
structure SubOf (T : List Int) (M : Nat) (zs : List Int) (n : Nat) (P : Int → Prop) (g : Nat → Nat) : Prop where
 lt : ∀ p, p < M → g p < n
 ok : ∀ p, p < M → P (num zs (g p * 4))
 val : ∀ p, p < M → ∀ j, j < 4 → num T (p * 4 + j) = num zs (g p * 4 + j)
 mono : ∀ p q, p < q → q < M → g p < g q
 all : ∀ q, q < n → P (num zs (q * 4)) → ∃ p, p < M ∧ g p = q
theorem tk_zlen (zs : List Int) (id : Int) : ∀ k, (tkZ zs id k).length = tkN zs id k * 4
 | 0 => rfl
 | k + 1 => by
  have ih := tk_zlen zs id k
  rw [tkZ, tkN]
  split
  · exact ih
  · simp [ih]; omega
theorem tk_sub (zs : List Int) (id : Int) : ∀ n, ∃ g, SubOf (tkZ zs id n) (tkN zs id n) zs n (fun i => i ≠ id) g
 | 0 => ⟨fun p => p, fun _ h => absurd h (Nat.not_lt_zero _), fun _ h => absurd h (Nat.not_lt_zero _), fun _ h => absurd h (Nat.not_lt_zero _), fun _ _ _ h => absurd h (Nat.not_lt_zero _), fun _ h => absurd h (Nat.not_lt_zero _)⟩
 | n + 1 => by
  obtain ⟨g, hg⟩ := tk_sub zs id n
  have hl := tk_zlen zs id n
  by_cases h : num zs (n * 4) = id
  · refine ⟨g, ?_⟩
    rw [tkZ, tkN, if_pos h, if_pos h]
    exact ⟨fun p hp => Nat.lt_succ_of_lt (hg.lt p hp), hg.ok, hg.val, hg.mono, fun q hq hP => by
     rcases Nat.lt_or_ge q n with h1 | h1
     · exact hg.all q h1 hP
     · obtain rfl : q = n := by omega
       exact absurd h hP⟩
  · refine ⟨fun p => if p < tkN zs id n then g p else n, ?_⟩
    rw [tkZ, tkN, if_neg h, if_neg h]
    refine ⟨fun p hp => ?_, fun p hp => ?_, fun p hp j hj => ?_, fun p q hpq hq => ?_, fun q hq hP => ?_⟩
    · split
      · exact Nat.lt_succ_of_lt (hg.lt p (by assumption))
      · omega
    · split
      · exact hg.ok p (by assumption)
      · exact h
    · split
      · rw [tnum_lt (by omega)]
        exact hg.val p (by assumption) j hj
      · obtain rfl : p = tkN zs id n := by omega
        rw [tnum_ge hl]
        match j, hj with
        | 0, _ => rfl
        | 1, _ => rfl
        | 2, _ => rfl
        | 3, _ => rfl
    · rw [if_pos (show p < tkN zs id n by omega)]
      split
      · exact hg.mono p q hpq (by assumption)
      · exact hg.lt p (by omega)
    · rcases Nat.lt_or_ge q n with h1 | h1
      · obtain ⟨p, hp, e⟩ := hg.all q h1 hP
        exact ⟨p, by omega, by rw [if_pos hp, e]⟩
      · obtain rfl : q = n := by omega
        exact ⟨tkN zs id q, by omega, by rw [if_neg (by omega)]⟩
theorem srt_pair {side : Int} {zs : List Int} : ∀ n, srtO side zs n = true → ∀ i j, i < j → j < n → betB side (price zs j) (price zs i) = false
 | 0, _, _, _, _, h => absurd h (Nat.not_lt_zero _)
 | n + 1, hs, i, j, hij, hj => by
  rw [srtO, Bool.and_eq_true] at hs
  rcases Nat.lt_or_ge j n with h1 | h1
  · exact srt_pair n hs.1 i j hij h1
  · obtain rfl : j = n := by omega
    have h2 : betB side (price zs j) (price zs (j - 1)) = false := by
     have := hs.2
     rw [decide_eq_false (by omega), Bool.false_or, Bool.not_eq_true'] at this
     exact this
    rcases Nat.eq_or_lt_of_le (show i ≤ j - 1 by omega) with e | h3
    · rw [e]; exact h2
    · have h4 := srt_pair j hs.1 i (j - 1) h3 (by omega)
      unfold betB at h2 h4 ⊢
      split at h2 <;> simp_all <;> omega
theorem srt_of {side : Int} {zs : List Int} : ∀ n, (∀ i j, i < j → j < n → betB side (price zs j) (price zs i) = false) → srtO side zs n = true
 | 0, _ => rfl
 | n + 1, h => by
  rw [srtO, srt_of n (fun i j a b => h i j a (by omega))]
  rcases Nat.eq_zero_or_pos n with rfl | h0
  · rfl
  · rw [h (n - 1) n (by omega) (by omega)]; simp
theorem all_of {zs : List Int} : ∀ n, (∀ k, k < n → ordB zs k = true) → allO zs n = true
 | 0, _ => rfl
 | n + 1, h => by rw [allO, all_of n (fun k hk => h k (by omega)), h n (by omega)]; rfl
theorem seen_at' {f : Nat → Int} {x : Int} {k : Nat} (h : f k = x) : ∀ n, k < n → seenB f x n = true
 | 0, hk => absurd hk (Nat.not_lt_zero k)
 | n + 1, hk => by
  rw [seenB, Bool.or_eq_true]
  rcases Nat.lt_or_ge k n with hl | hl
  · exact .inl (seen_at' h n hl)
  · obtain rfl : k = n := by omega
    exact .inr (by simp [h])
theorem seen_no' {f : Nat → Int} {x : Int} : ∀ n, (∀ k, k < n → f k ≠ x) → seenB f x n = false
 | 0, _ => rfl
 | n + 1, h => by rw [seenB, seen_no' n (fun k hk => h k (by omega)), beq_eq_false_iff_ne.2 (h n (by omega))]; rfl
theorem dist_pair {f : Nat → Int} : ∀ n, distB f n = true → ∀ i j, i < j → j < n → f i ≠ f j
 | 0, _, _, _, _, h => absurd h (Nat.not_lt_zero _)
 | n + 1, hd, i, j, hij, hj => by
  rw [distB, Bool.and_eq_true, Bool.not_eq_true'] at hd
  rcases Nat.lt_or_ge j n with h1 | h1
  · exact dist_pair n hd.1 i j hij h1
  · obtain rfl : j = n := by omega
    intro e
    have := seen_at' e j hij
    rw [hd.2] at this
    cases this
theorem dist_of {f : Nat → Int} : ∀ n, (∀ i j, i < j → j < n → f i ≠ f j) → distB f n = true
 | 0, _ => rfl
 | n + 1, h => by
  rw [distB, dist_of n (fun i j a b => h i j a (by omega)), seen_no' n (fun k hk => h k n hk (by omega))]
  rfl
theorem side_sub {side : Int} {T zs : List Int} {M n : Nat} {P : Int → Prop} {g : Nat → Nat} (h : SubOf T M zs n P g) (hM : M ≤ n) (hs : sideB side zs n = true) : sideB side T M = true := by
 unfold sideB at hs ⊢
 simp only [Bool.and_eq_true, decide_eq_true_eq] at hs ⊢
 refine ⟨by omega, all_of M fun k hk => ?_, srt_of M fun i j hij hj => ?_⟩
 · have h1 := allO_at n (g k) hs.2.1 (h.lt k hk)
   unfold ordB at h1 ⊢
   rw [show k * 4 = k * 4 + 0 by omega, h.val k hk 0 (by omega), h.val k hk 1 (by omega), h.val k hk 2 (by omega), h.val k hk 3 (by omega)]
   exact h1
 · unfold price
   rw [h.val i (by omega) 2 (by omega), h.val j hj 2 (by omega)]
   exact srt_pair n hs.2.2 (g i) (g j) (h.mono i j hij hj) (h.lt j hj)
theorem book_sub {T1 T2 za zb : List Int} {M1 M2 n m : Nat} {P Q : Int → Prop} {g f : Nat → Nat} (h1 : SubOf T1 M1 za n P g) (h2 : SubOf T2 M2 zb m Q f) (hM1 : M1 ≤ n) (hM2 : M2 ≤ m) (hb : bookB za n zb m = true) : bookB T1 M1 T2 M2 = true := by
 simp only [bookB, Bool.and_eq_true] at hb ⊢
 obtain ⟨hs1, hs2, hc, hd⟩ := hb
 refine ⟨side_sub h1 hM1 hs1, side_sub h2 hM2 hs2, ?_, ?_⟩
 · rw [Bool.not_eq_true'] at hc ⊢
   unfold crossB at hc ⊢
   rcases Nat.eq_zero_or_pos M1 with e1 | p1
   · rw [decide_eq_false (by omega)]; rfl
   rcases Nat.eq_zero_or_pos M2 with e2 | p2
   · rw [decide_eq_false (show ¬ 0 < M2 by omega)]; simp
   have g0 := h1.lt 0 p1
   have f0 := h2.lt 0 p2
   rw [decide_eq_true (show 0 < n by omega), decide_eq_true (show 0 < m by omega), Bool.true_and, Bool.true_and] at hc
   have hc' := of_decide_eq_false hc
   have e1 : price T1 0 = price za (g 0) := h1.val 0 p1 2 (by omega)
   have e2 : price T2 0 = price zb (f 0) := h2.val 0 p2 2 (by omega)
   have q1 : price za (g 0) ≤ price za 0 := by
    rcases Nat.eq_zero_or_pos (g 0) with e | e
    · rw [e]; exact Int.le_refl _
    · unfold sideB at hs1
      simp only [Bool.and_eq_true] at hs1
      have := srt_pair n hs1.2.2 0 (g 0) e g0
      unfold betB at this
      rw [if_pos rfl] at this
      have := of_decide_eq_false this
      omega
   have q2 : price zb 0 ≤ price zb (f 0) := by
    rcases Nat.eq_zero_or_pos (f 0) with e | e
    · rw [e]; exact Int.le_refl _
    · unfold sideB at hs2
      simp only [Bool.and_eq_true] at hs2
      have := srt_pair m hs2.2.2 0 (f 0) e f0
      unfold betB at this
      rw [if_neg (by omega)] at this
      have := of_decide_eq_false this
      omega
   rw [decide_eq_false (show ¬ price T2 0 ≤ price T1 0 by omega)]
   simp
 · have hG : ∀ i, i < M1 + M2 → idA T1 M1 T2 i = idA za n zb (if i < M1 then g i else n + f (i - M1)) := fun i hi => by
    unfold idA
    by_cases c : i < M1
    · rw [if_pos c, if_pos c, if_pos (h1.lt i c)]
      exact h1.val i c 0 (by omega)
    · rw [if_neg c, if_neg c, if_neg (by omega), show n + f (i - M1) - n = f (i - M1) by omega]
      exact h2.val (i - M1) (by omega) 0 (by omega)
   refine dist_of _ fun i j hij hj => ?_
   rw [hG i (by omega), hG j hj]
   refine dist_pair (n + m) hd _ _ ?_ ?_
   · by_cases c : j < M1
     · rw [if_pos (show i < M1 by omega), if_pos c]
       exact h1.mono i j hij c
     · rw [if_neg c]
       by_cases c' : i < M1
       · rw [if_pos c']
         have := h1.lt i c'
         omega
       · rw [if_neg c']
         have := h2.mono (i - M1) (j - M1) (by omega) (by omega)
         omega
   · by_cases c : j < M1
     · rw [if_pos c]
       have := h1.lt j c
       omega
     · rw [if_neg c]
       have := h2.lt (j - M1) (by omega)
       omega
theorem idA_at1 {za zb : List Int} {n k : Nat} (h : k < n) : idA za n zb k = num za (k * 4) := if_pos h
theorem idA_at2 {za zb : List Int} {n k : Nat} : idA za n zb (n + k) = num zb (k * 4) := by
 unfold idA
 rw [if_neg (by omega), show n + k - n = k by omega]
theorem taken_ok {za zb : List Int} {n m : Nat} {id : Int} (hb : bookB za n zb m = true) : bookB (tkZ za id n) (tkN za id n) (tkZ zb id m) (tkN zb id m) = true := by
 obtain ⟨g1, s1⟩ := tk_sub za id n
 obtain ⟨g2, s2⟩ := tk_sub zb id m
 exact book_sub s1 s2 (tkN_le za id n) (tkN_le zb id m) hb
end Go.Proofs.YtgjjdnojiegidaaGreatDoor
