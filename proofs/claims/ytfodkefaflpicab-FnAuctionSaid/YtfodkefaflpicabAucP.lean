/-
  The best price of an auction: plain facts.
-/
import Derived.Test.YtfodkefaflpicabAuc
namespace Go.Proofs.Ytfodkefaflpicab
open Go.RowKit Wire

/-- what trades at a price, and the gap there -/
def avV (za zb : List Int) (n m : Nat) (p : Int) : Int := min (sumW 1 za p n) (sumW 2 zb p m)
def avG (za zb : List Int) (n m : Nat) (p : Int) : Int := max (sumW 1 za p n) (sumW 2 zb p m) - min (sumW 1 za p n) (sumW 2 zb p m)
/-- a price stands strictly before another one: more trades; then the gap is less; then it is less -/
def keyB (V G : Int → Int) (p r : Int) : Bool := decide (V r < V p) || (V p == V r && (decide (G p < G r) || (G p == G r && decide (p < r))))
theorem key_irr (V G : Int → Int) (p : Int) : keyB V G p p = false := by simp [keyB]
theorem key_tri {V G : Int → Int} {p r : Int} (h1 : keyB V G p r = false) (h2 : keyB V G r p = false) : p = r := by
  simp [keyB] at h1 h2
  omega
theorem key_trans {V G : Int → Int} {p q r : Int} (h1 : keyB V G p q = true) (h2 : keyB V G q r = true) : keyB V G p r = true := by
  simp [keyB] at h1 h2 ⊢
  omega
/-- a price is one of these orders', and none of theirs stands before it -/
def AuBest (V G : Int → Int) (zs : List Int) (n : Nat) (r : Int) : Prop := (∃ i, i < n ∧ num zs (i * 4 + 2) = r) ∧ ∀ j, j < n → keyB V G (num zs (j * 4 + 2)) r = false
/-- the document's search among the first orders -/
def auScan (V G : Int → Int) (zs : List Int) : Nat → Int × Int
  | 0 => (0, 0)
  | k + 1 => if (decide ((auScan V G zs k).2 < V (num zs (k * 4 + 2))) || (V (num zs (k * 4 + 2)) == (auScan V G zs k).2 && (decide (0 < V (num zs (k * 4 + 2))) && (decide (G (num zs (k * 4 + 2)) < G (auScan V G zs k).1) || (G (num zs (k * 4 + 2)) == G (auScan V G zs k).1 && decide (num zs (k * 4 + 2) < (auScan V G zs k).1)))))) = true then (num zs (k * 4 + 2), V (num zs (k * 4 + 2))) else auScan V G zs k
theorem au_inv {V G : Int → Int} {zs : List Int} (hV : ∀ p, 0 ≤ V p) : ∀ k, ((auScan V G zs k).2 = 0 ∧ (auScan V G zs k).1 = 0 ∧ ∀ j, j < k → V (num zs (j * 4 + 2)) = 0) ∨ (0 < (auScan V G zs k).2 ∧ (auScan V G zs k).2 = V (auScan V G zs k).1 ∧ AuBest V G zs k (auScan V G zs k).1)
  | 0 => .inl ⟨rfl, rfl, fun j hj => absurd hj (Nat.not_lt_zero j)⟩
  | k + 1 => by
    have hp := hV (num zs (k * 4 + 2))
    rw [auScan]
    rcases au_inv (zs := zs) (G := G) hV k with ⟨h1, h2, h3⟩ | ⟨h1, h2, ⟨i, hi, e⟩, h4⟩
    · rw [h1, h2]
      by_cases h0 : 0 < V (num zs (k * 4 + 2))
      · rw [if_pos (by simp [h0])]
        refine .inr ⟨h0, rfl, ⟨k, by omega, rfl⟩, fun j hj => ?_⟩
        rcases Nat.lt_or_ge j k with a | a
        · have := h3 j a
          show keyB V G (num zs (j * 4 + 2)) (num zs (k * 4 + 2)) = false
          simp [keyB, this]
          omega
        · obtain rfl : j = k := by omega
          exact key_irr _ _ _
      · have e0 : V (num zs (k * 4 + 2)) = 0 := by omega
        rw [if_neg (by simp [e0])]
        refine .inl ⟨h1, h2, fun j hj => ?_⟩
        rcases Nat.lt_or_ge j k with a | a
        · exact h3 j a
        · obtain rfl : j = k := by omega
          exact e0
    · generalize auScan V G zs k = s at *
      obtain ⟨b, mo⟩ := s
      simp only at h1 h2 e h4 ⊢
      have hc : (decide (mo < V (num zs (k * 4 + 2))) || (V (num zs (k * 4 + 2)) == mo && (decide (0 < V (num zs (k * 4 + 2))) && (decide (G (num zs (k * 4 + 2)) < G b) || (G (num zs (k * 4 + 2)) == G b && decide (num zs (k * 4 + 2) < b)))))) = keyB V G (num zs (k * 4 + 2)) b := by
        unfold keyB
        rw [← h2]
        by_cases hm : V (num zs (k * 4 + 2)) = mo
        · simp [hm, h1]
        · have e : (V (num zs (k * 4 + 2)) == mo) = false := beq_eq_false_iff_ne.2 hm
          rw [e]
          rfl
      rw [hc]
      cases hk : keyB V G (num zs (k * 4 + 2)) b with
      | true =>
        rw [if_pos rfl]
        refine .inr ⟨?_, rfl, ⟨k, by omega, rfl⟩, fun j hj => ?_⟩
        · simp [keyB] at hk
          show 0 < V _
          omega
        · rcases Nat.lt_or_ge j k with a | a
          · cases hj2 : keyB V G (num zs (j * 4 + 2)) (num zs (k * 4 + 2)) with
            | false => rfl
            | true =>
              have := key_trans hj2 hk
              rw [h4 j a] at this
              cases this
          · obtain rfl : j = k := by omega
            exact key_irr _ _ _
      | false =>
        rw [if_neg (by simp)]
        refine .inr ⟨h1, h2, ⟨i, by omega, e⟩, fun j hj => ?_⟩
        rcases Nat.lt_or_ge j k with a | a
        · exact h4 j a
        · obtain rfl : j = k := by omega
          exact hk
theorem au_one {V G : Int → Int} {zs : List Int} {n : Nat} {r s : Int} (h1 : AuBest V G zs n r) (h2 : AuBest V G zs n s) : r = s := by
  obtain ⟨⟨i, hi, ei⟩, a⟩ := h1
  obtain ⟨⟨j, hj, ej⟩, b⟩ := h2
  have x := a j hj
  have y := b i hi
  rw [ej] at x
  rw [ei] at y
  exact (key_tri x y).symm
/-- what the search finds, told by the best price -/
theorem au_scan {V G : Int → Int} {zs : List Int} {n : Nat} {r : Int} (hV : ∀ p, 0 ≤ V p) (h : AuBest V G zs n r) : auScan V G zs n = if V r = 0 then (0, 0) else (r, V r) := by
  rcases au_inv (zs := zs) (G := G) hV n with ⟨h1, h2, h3⟩ | ⟨h1, h2, h3⟩
  · obtain ⟨⟨i, hi, e⟩, _⟩ := h
    have := h3 i hi
    rw [e] at this
    rw [if_pos this]
    exact Prod.ext h2 h1
  · have := au_one h h3
    rw [if_neg (by rw [this, ← h2]; omega)]
    exact Prod.ext this.symm (by rw [this]; exact h2)
theorem au_none {V G : Int → Int} {zs : List Int} : auScan V G zs 0 = (0, 0) := rfl
/-- the best of two parts -/
theorem au_two {V G : Int → Int} {zs : List Int} {n h : Nat} {r s : Int} (hh : h ≤ n) (h1 : AuBest V G zs h r) (h2 : AuBest V G (zs.drop (h * 4)) (n - h) s) : AuBest V G zs n (if keyB V G s r = true then s else r) := by
  obtain ⟨⟨i, hi, ei⟩, a⟩ := h1
  obtain ⟨⟨j, hj, ej⟩, b⟩ := h2
  have nd : ∀ x, num (zs.drop (h * 4)) (x * 4 + 2) = num zs ((h + x) * 4 + 2) := fun x => by
    simp only [num, List.getD_eq_getElem?_getD, List.getElem?_drop]
    congr 2
    omega
  have hb : ∀ x, h ≤ x → x < n → keyB V G (num zs (x * 4 + 2)) s = false := fun x h1 h2 => by
    have := b (x - h) (by omega)
    rw [nd, show h + (x - h) = x by omega] at this
    exact this
  cases hk : keyB V G s r with
  | true =>
    rw [if_pos rfl]
    refine ⟨⟨h + j, by omega, by rw [← nd]; exact ej⟩, fun x hx => ?_⟩
    rcases Nat.lt_or_ge x h with c | c
    · cases hx2 : keyB V G (num zs (x * 4 + 2)) s with
      | false => rfl
      | true =>
        have := key_trans hx2 hk
        rw [a x c] at this
        cases this
    · exact hb x c hx
  | false =>
    rw [if_neg (by simp)]
    refine ⟨⟨i, by omega, ei⟩, fun x hx => ?_⟩
    rcases Nat.lt_or_ge x h with c | c
    · exact a x c
    · cases hx2 : keyB V G (num zs (x * 4 + 2)) r with
      | false => rfl
      | true =>
        -- r is not before s, x is before r: x is before s
        by_cases hrs : r = s
        · rw [hrs, hb x c hx] at hx2; cases hx2
        · have hrs2 : keyB V G r s = true := by
            cases hh2 : keyB V G r s with
            | true => rfl
            | false => exact absurd (key_tri hh2 hk) hrs
          have := key_trans hx2 hrs2
          rw [hb x c hx] at this
          cases this
theorem au_take {V G : Int → Int} {zs : List Int} {h : Nat} {r : Int} (hb : AuBest V G (zs.take (h * 4)) h r) : AuBest V G zs h r := by
  have nt : ∀ x, x < h → num (zs.take (h * 4)) (x * 4 + 2) = num zs (x * 4 + 2) := fun x hx => by
    simp [num, show x * 4 + 2 < h * 4 by omega]
  obtain ⟨⟨i, hi, e⟩, a⟩ := hb
  exact ⟨⟨i, hi, by rw [← nt i hi]; exact e⟩, fun j hj => by rw [← nt j hj]; exact a j hj⟩
theorem au_first {V G : Int → Int} {zs : List Int} : AuBest V G zs 1 (num zs 2) := ⟨⟨0, by omega, rfl⟩, fun j hj => by
  obtain rfl : j = 0 := by omega
  exact key_irr _ _ _⟩
theorem avV_pos {za zb : List Int} {n m : Nat} (ha : allO za n = true) (hb : allO zb m = true) (p : Int) : 0 ≤ avV za zb n m p := by
  have h1 := (sumW_le (side := 1) (p := p) ha n (Nat.le_refl _)).1
  have h2 := (sumW_le (side := 2) (p := p) hb m (Nat.le_refl _)).1
  unfold avV
  omega
/-- the auction's price and volume -/
def aucR (za zb : List Int) (n m : Nat) : Int × Int := if (aucB za n && aucB zb m) = true then auScan (avV za zb n m) (avG za zb n m) (za ++ zb) (n + m) else (0, 0)
end Go.Proofs.Ytfodkefaflpicab
