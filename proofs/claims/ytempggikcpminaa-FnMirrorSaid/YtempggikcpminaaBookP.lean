/-
  Books, plainly: which are right.
-/
import Derived.Test.YtempggikcpminaaNum
import Derived.Test.YtempggikcpminaaList
namespace Go.Proofs.Ytempggikcpminaa
open Go.RowKit Wire

/-- order k of a list is right -/
def ordB (zs : List Int) (k : Nat) : Bool := inB 1 (num zs (k * 4)) 1000000000 && (inB 1 (num zs (k * 4 + 1)) 100 && (inB 1 (num zs (k * 4 + 2)) 1000000 && inB 1 (num zs (k * 4 + 3)) 1000000))
def price (zs : List Int) (k : Nat) : Int := num zs (k * 4 + 2)
/-- price a stands ahead of price b on a side -/
def betB (side a b : Int) : Bool := if side = 1 then decide (b < a) else decide (a < b)
/-- the first orders are right -/
def allO (zs : List Int) : Nat → Bool
  | 0 => true
  | k + 1 => allO zs k && ordB zs k
/-- the first orders stand in order -/
def srtO (side : Int) (zs : List Int) : Nat → Bool
  | 0 => true
  | k + 1 => srtO side zs k && (decide (k = 0) || !betB side (price zs k) (price zs (k - 1)))
def sideB (side : Int) (zs : List Int) (n : Nat) : Bool := decide (n ≤ 20) && (allO zs n && srtO side zs n)
/-- id i of both sides -/
def idA (za : List Int) (n : Nat) (zb : List Int) (i : Nat) : Int := if i < n then num za (i * 4) else num zb ((i - n) * 4)
def seenB (f : Nat → Int) (x : Int) : Nat → Bool
  | 0 => false
  | k + 1 => seenB f x k || (f k == x)
/-- the first k are all different -/
def distB (f : Nat → Int) : Nat → Bool
  | 0 => true
  | k + 1 => distB f k && !seenB f (f k) k
/-- how many different ones there are -/
def cntB (f : Nat → Int) : Nat → Nat
  | 0 => 0
  | k + 1 => if seenB f (f k) k = true then cntB f k else cntB f k + 1
theorem cntB_le (f : Nat → Int) : ∀ k, cntB f k ≤ k
  | 0 => Nat.le_refl _
  | k + 1 => by
    have := cntB_le f k
    rw [cntB]
    split <;> omega
theorem cntB_iff (f : Nat → Int) : ∀ k, (cntB f k = k) ↔ distB f k = true
  | 0 => by simp [cntB, distB]
  | k + 1 => by
    have h1 := cntB_le f k
    have h2 := cntB_iff f k
    rw [cntB, distB]
    rcases Bool.eq_false_or_eq_true (seenB f (f k) k) with h | h
    · rw [if_pos h, h]
      simp
      omega
    · rw [if_neg (by simp [h]), h]
      simp
      exact h2
def crossB (za : List Int) (n : Nat) (zb : List Int) (m : Nat) : Bool := decide (0 < n) && (decide (0 < m) && decide (price zb 0 ≤ price za 0))
def bookB (za : List Int) (n : Nat) (zb : List Int) (m : Nat) : Bool := sideB 1 za n && (sideB 2 zb m && (!crossB za n zb m && distB (idA za n zb) (n + m)))
theorem allO_no {zs : List Int} {k : Nat} (h : ordB zs k = false) : ∀ n, k < n → allO zs n = false
  | 0, hk => absurd hk (Nat.not_lt_zero k)
  | n + 1, hk => by
    rw [allO]
    rcases Nat.lt_or_ge k n with hlt | hge
    · rw [allO_no h n hlt]; rfl
    · obtain rfl : k = n := by omega
      rw [h, Bool.and_false]
theorem allO_at {zs : List Int} : ∀ n k, allO zs n = true → k < n → ordB zs k = true
  | 0, k, _, hk => absurd hk (Nat.not_lt_zero k)
  | n + 1, k, h, hk => by
    simp only [allO, Bool.and_eq_true] at h
    rcases Nat.lt_or_ge k n with hlt | hge
    · exact allO_at n k h.1 hlt
    · obtain rfl : k = n := by omega
      exact h.2
theorem srtO_no {side : Int} {zs : List Int} {k : Nat} (h0 : 0 < k) (h : betB side (price zs k) (price zs (k - 1)) = true) : ∀ n, k < n → srtO side zs n = false
  | 0, hk => absurd hk (Nat.not_lt_zero k)
  | n + 1, hk => by
    rw [srtO]
    rcases Nat.lt_or_ge k n with hlt | hge
    · rw [srtO_no h0 h n hlt]; rfl
    · obtain rfl : k = n := by omega
      rw [h, show decide (k = 0) = false from decide_eq_false (by omega)]
      simp
theorem srtO_step {side : Int} {zs : List Int} {k : Nat} (h : srtO side zs k = true) (h1 : k = 0 ∨ betB side (price zs k) (price zs (k - 1)) = false) : srtO side zs (k + 1) = true := by
  rw [srtO, h]
  rcases h1 with rfl | h1
  · rfl
  · rw [h1]; simp
theorem distB_no {f : Nat → Int} {k : Nat} (h : seenB f (f k) k = true) : ∀ n, k < n → distB f n = false
  | 0, hk => absurd hk (Nat.not_lt_zero k)
  | n + 1, hk => by
    rw [distB]
    rcases Nat.lt_or_ge k n with hlt | hge
    · rw [distB_no h n hlt]; rfl
    · obtain rfl : k = n := by omega
      rw [h]
      simp
end Go.Proofs.Ytempggikcpminaa
