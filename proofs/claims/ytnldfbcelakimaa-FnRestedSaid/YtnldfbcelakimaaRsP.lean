/-
  Plain facts of an order that rests: where it lies, and that taking it again leaves all as it was.
-/
import Derived.Test.YtnldfbcelakimaaGS
import Derived.Test.YtnldfbcelakimaaRestedI
namespace Go.Proofs.Ytnldfbcelakimaa
open Go.RowKit Wire

theorem take4 {zs : List Int} {k : Nat} (h : (k + 1) * 4 ≤ zs.length) : zs.take ((k + 1) * 4) = zs.take (k * 4) ++ [num zs (k * 4), num zs (k * 4 + 1), num zs (k * 4 + 2), num zs (k * 4 + 3)] := by
  apply List.ext_getElem?
  intro j
  have hl : (zs.take (k * 4)).length = k * 4 := by simp; omega
  rcases Nat.lt_or_ge j (k * 4) with hj | hj
  · rw [List.getElem?_append_left (show j < (zs.take (k * 4)).length by omega), List.getElem?_take, List.getElem?_take, if_pos hj, if_pos (by omega)]
  · rw [List.getElem?_append_right (show (zs.take (k * 4)).length ≤ j by omega), hl, List.getElem?_take]
    obtain ⟨q, rfl⟩ := Nat.exists_eq_add_of_le hj
    rw [show k * 4 + q - k * 4 = q by omega]
    have hn : ∀ i, k * 4 + i < zs.length → some (num zs (k * 4 + i)) = zs[k * 4 + i]? := fun i hi => by
      unfold num
      rw [List.getD_eq_getElem?_getD, List.getElem?_eq_getElem hi]
      rfl
    match q with
    | 0 => rw [if_pos (by omega), ← hn 0 (by omega)]; rfl
    | 1 => rw [if_pos (by omega), ← hn 1 (by omega)]; rfl
    | 2 => rw [if_pos (by omega), ← hn 2 (by omega)]; rfl
    | 3 => rw [if_pos (by omega), ← hn 3 (by omega)]; rfl
    | q + 4 => rw [if_neg (by omega)]; rfl
/-- none of that number: nothing is taken -/
theorem tk_none {zs : List Int} {id : Int} : ∀ n, n * 4 ≤ zs.length → (∀ q, q < n → num zs (q * 4) ≠ id) → tkZ zs id n = zs.take (n * 4) ∧ tkN zs id n = n
  | 0, _, _ => ⟨by simp [tkZ], rfl⟩
  | n + 1, h, hq => by
    obtain ⟨e1, e2⟩ := tk_none n (by omega) (fun q hl => hq q (by omega))
    rw [tkZ, tkN, if_neg (hq n (by omega)), if_neg (hq n (by omega)), e1, e2, take4 h]
    exact ⟨rfl, rfl⟩
/-- the one put in is taken out -/
theorem tk_ins {zs : List Int} {n p : Nat} {a b c d : Int} (hz : zs.length = n * 4) (hp : p ≤ n) (hq : ∀ q, q < n → num zs (q * 4) ≠ a) : tkZ (insZ zs p [a, b, c, d]) a (n + 1) = zs ∧ tkN (insZ zs p [a, b, c, d]) a (n + 1) = n := by
  have lo : ∀ k, k ≤ p → tkZ (insZ zs p [a, b, c, d]) a k = zs.take (k * 4) ∧ tkN (insZ zs p [a, b, c, d]) a k = k := fun k => by
    induction k with
    | zero => exact fun _ => ⟨by simp [tkZ], rfl⟩
    | succ k ih =>
      intro hk
      obtain ⟨e1, e2⟩ := ih (by omega)
      have v0 : num (insZ zs p [a, b, c, d]) (k * 4) = num zs (k * 4) := insZ_lo (j := 0) hz hp (by omega) (by omega)
      have v1 := insZ_lo (o := [a, b, c, d]) (j := 1) hz hp (show k < p by omega) (by omega)
      have v2 := insZ_lo (o := [a, b, c, d]) (j := 2) hz hp (show k < p by omega) (by omega)
      have v3 := insZ_lo (o := [a, b, c, d]) (j := 3) hz hp (show k < p by omega) (by omega)
      rw [tkZ, tkN, v0, v1, v2, v3, if_neg (hq k (by omega)), if_neg (hq k (by omega)), e1, e2, take4 (by omega)]
      exact ⟨rfl, rfl⟩
  have at0 : num (insZ zs p [a, b, c, d]) (p * 4) = a := insZ_at (j := 0) hz rfl hp (by omega)
  have hi : ∀ j, p + j ≤ n → tkZ (insZ zs p [a, b, c, d]) a (p + j + 1) = zs.take ((p + j) * 4) ∧ tkN (insZ zs p [a, b, c, d]) a (p + j + 1) = p + j := fun j => by
    induction j with
    | zero =>
      intro _
      obtain ⟨e1, e2⟩ := lo p (Nat.le_refl _)
      rw [Nat.add_zero, tkZ, tkN, if_pos at0, if_pos at0]
      exact ⟨e1, e2⟩
    | succ j ih =>
      intro hj
      obtain ⟨e1, e2⟩ := ih (by omega)
      have v0 : num (insZ zs p [a, b, c, d]) ((p + j + 1) * 4) = num zs ((p + j) * 4) := insZ_hi (n := n) (j := 0) (q := p + j + 1) hz rfl (by omega) (by omega) (by omega)
      have v1 : num (insZ zs p [a, b, c, d]) ((p + j + 1) * 4 + 1) = num zs ((p + j) * 4 + 1) := insZ_hi (n := n) (j := 1) (q := p + j + 1) hz rfl (by omega) (by omega) (by omega)
      have v2 : num (insZ zs p [a, b, c, d]) ((p + j + 1) * 4 + 2) = num zs ((p + j) * 4 + 2) := insZ_hi (n := n) (j := 2) (q := p + j + 1) hz rfl (by omega) (by omega) (by omega)
      have v3 : num (insZ zs p [a, b, c, d]) ((p + j + 1) * 4 + 3) = num zs ((p + j) * 4 + 3) := insZ_hi (n := n) (j := 3) (q := p + j + 1) hz rfl (by omega) (by omega) (by omega)
      rw [show p + (j + 1) + 1 = (p + j + 1) + 1 by omega, tkZ, tkN, v0, v1, v2, v3, if_neg (hq (p + j) (by omega)), if_neg (hq (p + j) (by omega)), e1, e2, show p + (j + 1) = (p + j) + 1 by omega, take4 (by omega)]
      exact ⟨rfl, rfl⟩
  obtain ⟨e1, e2⟩ := hi (n - p) (by omega)
  rw [show p + (n - p) = n by omega] at e1 e2
  exact ⟨e1.trans (by rw [← hz, List.take_length]), e2⟩
/-- what holds of a side with an order put in, where all numbers are different -/
structure RsIn (side : Int) (T : List Int) (K : Nat) (a b c d : Int) (p : Nat) : Prop where
  lt : p < K
  v0 : num T (p * 4) = a
  v1 : num T (p * 4 + 1) = b
  v2 : num T (p * 4 + 2) = c
  v3 : num T (p * 4 + 3) = d
  other : ∀ q, q < K → q ≠ p → num T (q * 4) ≠ a
  next : p + 1 < K → num T ((p + 1) * 4 + 2) ≠ c
theorem ld_le2 : ∀ (n : Nat) (f : Nat → Bool), lead f n ≤ n
  | 0, _ => Nat.le_refl _
  | n + 1, f => by
    rw [lead]
    split
    · exact Nat.succ_le_succ (ld_le2 n _)
    · exact Nat.zero_le _
theorem ld_stop2 : ∀ {f : Nat → Bool} (n : Nat), lead f n < n → f (lead f n) = false
  | f, 0, h => by simp at h
  | f, n + 1, h => by
    rw [lead] at h ⊢
    split
    · rename_i h0
      rw [if_pos h0] at h
      exact ld_stop2 (f := fun i => f (i + 1)) n (by omega)
    · rename_i h0
      rcases Bool.eq_false_or_eq_true (f 0) with c | c
      · exact absurd c h0
      · exact c
theorem rs_in {side : Int} {zs : List Int} {n : Nat} {a b c d : Int} (hz : zs.length = n * 4) (hd : ∀ q q', q < n + 1 → q' < n + 1 → q ≠ q' → num (insZ zs (restI side c zs n) [a, b, c, d]) (q * 4) ≠ num (insZ zs (restI side c zs n) [a, b, c, d]) (q' * 4)) :
    RsIn side (insZ zs (restI side c zs n) [a, b, c, d]) (n + 1) a b c d (restI side c zs n) := by
  have hp : restI side c zs n ≤ n := ld_le2 n _
  have v : ∀ j, j < 4 → num (insZ zs (restI side c zs n) [a, b, c, d]) (restI side c zs n * 4 + j) = num [a, b, c, d] j := fun j hj => insZ_at hz rfl hp hj
  have e0 : num (insZ zs (restI side c zs n) [a, b, c, d]) (restI side c zs n * 4) = a := v 0 (by omega)
  refine ⟨by omega, e0, v 1 (by omega), v 2 (by omega), v 3 (by omega), fun q hq hne e => ?_, fun h1 e => ?_⟩
  · exact hd q _ hq (by omega) hne (e.trans e0.symm)
  · have hlt : restI side c zs n < n := by omega
    have h2 := ld_stop2 (f := fun k => !betB side c (price zs k)) n hlt
    have h3 : num (insZ zs (restI side c zs n) [a, b, c, d]) ((restI side c zs n + 1) * 4 + 2) = num zs (restI side c zs n * 4 + 2) := insZ_hi (n := n) (j := 2) (q := restI side c zs n + 1) hz rfl (by omega) (by omega) (by omega)
    rw [h3] at e
    have h4 : betB side c (price zs (restI side c zs n)) = true := by
      have : (!betB side c (price zs (restI side c zs n))) = false := h2
      simpa using this
    unfold betB at h4
    unfold price at h4
    rw [e] at h4
    split at h4 <;> simp at h4
theorem dist1 {za zb : List Int} {n m : Nat} (h : bookB za n zb m = true) : (∀ q q', q < n → q' < n → q ≠ q' → num za (q * 4) ≠ num za (q' * 4)) ∧ (∀ q q', q < m → q' < m → q ≠ q' → num zb (q * 4) ≠ num zb (q' * 4)) ∧ ∀ q q', q < n → q' < m → num za (q * 4) ≠ num zb (q' * 4) := by
  have hd : distB (idA za n zb) (n + m) = true := by
    simp only [bookB, Bool.and_eq_true] at h
    exact h.2.2.2
  have key : ∀ i j, i < n + m → j < n + m → i ≠ j → idA za n zb i ≠ idA za n zb j := fun i j hi hj hne => by
    rcases Nat.lt_or_gt_of_ne hne with c | c
    · exact dist_pair _ hd i j c hj
    · exact fun e => dist_pair _ hd j i c hi e.symm
  refine ⟨fun q q' h1 h2 hne => ?_, fun q q' h1 h2 hne => ?_, fun q q' h1 h2 => ?_⟩
  · have := key q q' (by omega) (by omega) hne
    rwa [idA_at1 h1, idA_at1 h2] at this
  · have := key (n + q) (n + q') (by omega) (by omega) (by omega)
    rwa [idA_at2, idA_at2] at this
  · have := key q (n + q') (by omega) (by omega) (by omega)
    rwa [idA_at1 h1, idA_at2] at this
/-- of an order that rests: where it lies; found again; what is left behind taking it -/
theorem rs_all {side a b c d : Int} {za zb : List Int} {n m : Nat} (ha : za.length = n * 4) (hb : zb.length = m * 4) (h : restOk side a b c d za n zb m = true) :
    bookB (rest1 side c za n [a, b, c, d]) (restN1 side n) (rest2 side c zb m [a, b, c, d]) (restN2 side m) = true ∧
    (tkZ (rest1 side c za n [a, b, c, d]) a (restN1 side n) = za ∧ tkN (rest1 side c za n [a, b, c, d]) a (restN1 side n) = n) ∧ (tkZ (rest2 side c zb m [a, b, c, d]) a (restN2 side m) = zb ∧ tkN (rest2 side c zb m [a, b, c, d]) a (restN2 side m) = m) ∧
    ∃ T K p, sideZ true side (rest1 side c za n [a, b, c, d]) (rest2 side c zb m [a, b, c, d]) = T ∧ sideN true side (restN1 side n) (restN2 side m) = K ∧ K ≤ 21 ∧ RsIn side T K a b c d p ∧
      ∀ s f ok, FindRel true (rest1 side c za n [a, b, c, d]) (restN1 side n) (rest2 side c zb m [a, b, c, d]) (restN2 side m) a s f ok → ok = true := by
  unfold restOk at h
  simp only [Bool.and_eq_true] at h
  obtain ⟨hb0, hs, ho, hb1⟩ := h
  obtain ⟨d1, d2, d3⟩ := dist1 hb1
  have hsm := book_small hb0
  refine ⟨hb1, ?_⟩
  unfold rest1 rest2 restN1 restN2 at *
  rcases side_cases side with ⟨rfl, -⟩ | ⟨rfl, -⟩ | ⟨-, -, hno⟩
  · simp only [if_pos] at *
    have hp : restI 1 c za n ≤ n := ld_le2 n _
    have R := rs_in (b := b) (d := d) ha d1
    have hq : ∀ q, q < n → num za (q * 4) ≠ a := fun q hq => by
      rcases Nat.lt_or_ge q (restI 1 c za n) with c1 | c1
      · rw [← show num (insZ za (restI 1 c za n) [a, b, c, d]) (q * 4) = num za (q * 4) from insZ_lo (j := 0) ha hp c1 (by omega)]
        exact R.other q (by omega) (by omega)
      · rw [← show num (insZ za (restI 1 c za n) [a, b, c, d]) ((q + 1) * 4) = num za (q * 4) from insZ_hi (n := n) (j := 0) (q := q + 1) ha rfl (by omega) (by omega) (by omega)]
        exact R.other (q + 1) (by omega) (by omega)
    have hq2 : ∀ q, q < m → num zb (q * 4) ≠ a := fun q hq e => d3 (restI 1 c za n) q R.lt hq (R.v0.trans e.symm)
    refine ⟨tk_ins ha hp hq, ?_, _, _, restI 1 c za n, rfl, rfl, ?_, ?_, ?_⟩
    · have := tk_none m (by omega) hq2
      exact ⟨this.1.trans (by rw [← hb, List.take_length]), this.2⟩
    · simp [sideN]; omega
    · simp only [sideZ, sideN, and_self, if_pos]
      exact R
    · intro s f ok hf
      rcases Bool.eq_false_or_eq_true ok with e | e
      · exact e
      · exact absurd R.v0 ((find_all hf).2 e |>.1 _ R.lt)
  · simp only [show ((2 : Int) = 1) = False by simp, if_false] at *
    have hp : restI 2 c zb m ≤ m := ld_le2 m _
    have R := rs_in (b := b) (d := d) hb d2
    have hq : ∀ q, q < m → num zb (q * 4) ≠ a := fun q hq => by
      rcases Nat.lt_or_ge q (restI 2 c zb m) with c1 | c1
      · rw [← show num (insZ zb (restI 2 c zb m) [a, b, c, d]) (q * 4) = num zb (q * 4) from insZ_lo (j := 0) hb hp c1 (by omega)]
        exact R.other q (by omega) (by omega)
      · rw [← show num (insZ zb (restI 2 c zb m) [a, b, c, d]) ((q + 1) * 4) = num zb (q * 4) from insZ_hi (n := m) (j := 0) (q := q + 1) hb rfl (by omega) (by omega) (by omega)]
        exact R.other (q + 1) (by omega) (by omega)
    have hq2 : ∀ q, q < n → num za (q * 4) ≠ a := fun q hq e => d3 q (restI 2 c zb m) hq R.lt (e.trans R.v0.symm)
    refine ⟨?_, tk_ins hb hp hq, _, _, restI 2 c zb m, rfl, rfl, ?_, ?_, ?_⟩
    · have := tk_none n (by omega) hq2
      exact ⟨this.1.trans (by rw [← ha, List.take_length]), this.2⟩
    · simp [sideN]; omega
    · simp only [sideZ, sideN, show ((2 : Int) = 1) = False by simp, and_false, if_false, and_self, if_true]
      exact R
    · intro s f ok hf
      rcases Bool.eq_false_or_eq_true ok with e | e
      · exact e
      · exact absurd R.v0 ((find_all hf).2 e |>.2 _ R.lt)
  · rw [hno] at hs
    exact absurd hs (by decide)
end Go.Proofs.Ytnldfbcelakimaa
