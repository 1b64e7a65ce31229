/-
  Trades: when they are right.
-/
import Derived.Test.YteikflfchkmbnaaBeh
import Derived.Test.YteikflfchkmbnaaKeep
namespace Go.Proofs.Yteikflfchkmbnaa
open Go.RowKit Wire

def trdI (p q : Int) : Bool := inB 1 p 1000000 && inB 1 q 1000000
def trdAt (zs : List Int) (k : Nat) : Bool := trdI (num zs (k * 2)) (num zs (k * 2 + 1))
def trdTo (zs : List Int) : Nat → Bool
  | 0 => true
  | k + 1 => trdTo zs k && trdAt zs k
theorem trdTo_no {zs : List Int} {k : Nat} (h : trdAt zs k = false) : ∀ n, k < n → trdTo zs n = false
  | 0, hk => absurd hk (Nat.not_lt_zero k)
  | n + 1, hk => by
    rw [trdTo]
    rcases Nat.lt_or_ge k n with hlt | hge
    · rw [trdTo_no h n hlt]; rfl
    · obtain rfl : k = n := by omega
      rw [h, Bool.and_false]
theorem trdTo_step {zs : List Int} {k : Nat} (h : trdTo zs k = true) (h1 : trdAt zs k = true) : trdTo zs (k + 1) = true := by rw [trdTo, h, h1]; rfl
theorem trdTo_at {zs : List Int} : ∀ n k, trdTo zs n = true → k < n → 1 ≤ num zs (k * 2) ∧ num zs (k * 2) ≤ 1000000 ∧ 1 ≤ num zs (k * 2 + 1) ∧ num zs (k * 2 + 1) ≤ 1000000
  | 0, k, _, hk => absurd hk (Nat.not_lt_zero k)
  | n + 1, k, h, hk => by
    simp only [trdTo, Bool.and_eq_true] at h
    rcases Nat.lt_or_ge k n with hlt | hge
    · exact trdTo_at n k h.1 hlt
    · obtain rfl : k = n := by omega
      have := h.2
      simp [trdAt, trdI, inB] at this
      omega
/-- the greatest and the least price, the quantity and the worth of the first trades -/
def hiA (zs : List Int) : Nat → Int
  | 0 => num zs 0
  | k + 1 => max (hiA zs k) (num zs (k * 2))
def loA (zs : List Int) : Nat → Int
  | 0 => num zs 0
  | k + 1 => min (loA zs k) (num zs (k * 2))
def qtA (zs : List Int) : Nat → Int
  | 0 => 0
  | k + 1 => qtA zs k + num zs (k * 2 + 1)
def woA (zs : List Int) : Nat → Int
  | 0 => 0
  | k + 1 => woA zs k + num zs (k * 2) * num zs (k * 2 + 1)
theorem mulb {p q : Int} (hp : 1 ≤ p) (hP : p ≤ 1000000) (hq : 1 ≤ q) (hQ : q ≤ 1000000) : 1 ≤ p * q ∧ p * q ≤ 1000000000000 := by
  have h1 : (1 : Int) * 1 ≤ p * q := Int.mul_le_mul hp hq (by omega) (by omega)
  have h2 : p * q ≤ 1000000 * 1000000 := Int.mul_le_mul hP hQ (by omega) (by omega)
  omega
theorem qtA_le {zs : List Int} {n : Nat} (h : trdTo zs n = true) : ∀ k, k ≤ n → (k : Int) ≤ qtA zs k ∧ qtA zs k ≤ 1000000 * k
  | 0, _ => by simp [qtA]
  | k + 1, hk => by
    have h1 := qtA_le h k (by omega)
    have h2 := trdTo_at n k h (by omega)
    simp only [qtA]
    omega
theorem woA_le {zs : List Int} {n : Nat} (h : trdTo zs n = true) : ∀ k, k ≤ n → 0 ≤ woA zs k ∧ woA zs k ≤ 1000000000000 * k
  | 0, _ => by simp [woA]
  | k + 1, hk => by
    have h1 := woA_le h k (by omega)
    have h2 := trdTo_at n k h (by omega)
    have h3 := mulb h2.1 h2.2.1 h2.2.2.1 h2.2.2.2
    simp only [woA]
    omega
def cndB (zs : List Int) (n : Nat) : Bool := decide (1 ≤ n) && (decide (n ≤ 1000) && trdTo zs n)
def cndN (zs : List Int) (n : Nat) (x : Int) : Int := if cndB zs n = true then x else 0
def cndV (zs : List Int) (n : Nat) : Value := .tuple #[.agg #[.int .i64 (cndN zs n (num zs 0)), .int .i64 (cndN zs n (hiA zs n)), .int .i64 (cndN zs n (loA zs n)), .int .i64 (cndN zs n (num zs ((n - 1) * 2))), .int .i64 (cndN zs n (qtA zs n)), .int .i64 (cndN zs n (woA zs n))], .bool (cndB zs n)]
theorem cndV_no {zs : List Int} {n : Nat} (h : cndB zs n = false) : cndV zs n = .tuple #[.agg #[.int .i64 0, .int .i64 0, .int .i64 0, .int .i64 0, .int .i64 0, .int .i64 0], .bool false] := by simp [cndV, cndN, h]
theorem cndV_yes {zs : List Int} {n : Nat} (h : cndB zs n = true) : cndV zs n = .tuple #[.agg #[.int .i64 (num zs 0), .int .i64 (hiA zs n), .int .i64 (loA zs n), .int .i64 (num zs ((n - 1) * 2)), .int .i64 (qtA zs n), .int .i64 (woA zs n)], .bool true] := by simp [cndV, cndN, h]
set_option maxHeartbeats 800000 in
set_option maxRecDepth 100000 in
theorem impl_tradeOk (p q : Int) (w : World) :
    Calls Try.prog 51 #[.agg #[.int .i64 p, .int .i64 q]] w fun x w' => x = .returned (.bool (trdI p q)) ∧ Below w.heap.size w w' := by
  go_enter Try.func51, Try.ntmps51
  go_wp2_with (go_at_call 56; refine (within_any _ _ _ _).mono ?_; rintro e w' ⟨rfl, rfl⟩)
  all_goals
    go_ret
    refine ⟨ret_bool ?_, (Below.refl _ _).alloc (Nat.le_refl _) _⟩
    simp [trdI, *]
set_option maxHeartbeats 800000 in
set_option maxRecDepth 100000 in
theorem spec_l9Trade (p q : Int) (w : World) :
    Calls Try.prog 61 #[.agg #[.int .i64 p, .int .i64 q]] w fun x w' => x = .returned (.bool (trdI p q)) ∧ Below w.heap.size w w' := by
  go_enter Try.func61, Try.ntmps61
  go_wp2_with (go_at_call 59; refine (l1In_any _ _ _ _).mono ?_; rintro e w' ⟨rfl, rfl⟩)
  all_goals
    go_ret
    refine ⟨ret_bool ?_, (Below.refl _ _).alloc (Nat.le_refl _) _⟩
    simp [trdI, *]
set_option maxRecDepth 100000 in
theorem impl_notOk (p q : Int) (w : World) :
    Calls Try.prog 64 #[.agg #[.int .i64 p, .int .i64 q]] w fun x w' => x = .returned (.bool (!trdI p q)) ∧ Below w.heap.size w w' := by
  go_enter Try.func64, Try.ntmps64
  go_wp2_with fail
  refine (impl_tradeOk _ _ _).mono ?_
  rintro e w1 ⟨rfl, hb1⟩
  go_wp2_with fail
  go_ret
  exact ⟨rfl, below_alloc hb1⟩
set_option maxHeartbeats 1600000 in
set_option maxRecDepth 100000 in
theorem impl_IndexFunc (A : Option Addr) (n c : Nat) (zs : List Int) (w : World) (hl : Lst w w.heap.size 2 A n zs) (hn : n ≤ 1048576) :
    Calls Try.prog 92 #[.slice A n c, .func (.func 64) #[] #[]] w fun e w' => (∃ z : Int, e = .returned (.int .i64 z) ∧ -1 ≤ z ∧ z ≤ 1048576 ∧ (!trdTo zs n) = decide (0 ≤ z)) ∧ Below w.heap.size w w' := by
  go_enter Try.func92, Try.ntmps92
  go_wp2_with fail
  go_loopw [8] (fun i wr => ∃ k : Nat, k ≤ n ∧ i = .int .i64 (k : Int) ∧ trdTo zs k = true ∧ Below w.heap.size w wr) (fun i _ => n - (intOf i).toNat)
  case atStart => exact ⟨0, Nat.zero_le _, rfl, rfl, Below.refl _ _⟩
  case round =>
    obtain ⟨k, hk, rfl, hok, hbel⟩ := hrel
    have HL := Lib.hid hok
    clear hok
    by_cases hlt : k < n
    · obtain ⟨b, o, rfl, hb, c0, c1⟩ := (hl.below hbel).row2 hlt
      clear hl
      rcases Bool.eq_false_or_eq_true (trdAt zs k) with hat | hat
      · have HA := Lib.hid hat
        have HR : Hid (trdI (num zs (k * 2)) (num zs (k * 2 + 1)) = true) := Lib.hid hat
        clear hat
        go_wp2_with fail
        refine (impl_notOk _ _ _).mono ?_
        rw [HR.out]
        rintro e w1 ⟨rfl, hb1⟩
        have hbel1 := hbel.trans (hb1.mono hbel.size)
        clear hbel hb1
        go_wp2_with fail
        go_roundw
        case rel => exact ⟨k + 1, by omega, by go_num, trdTo_step HL.out HA.out, hbel1⟩
        case measure => simp [intOf]; omega
      · have HN := Lib.hid (trdTo_no hat n hlt)
        have HR : Hid (trdI (num zs (k * 2)) (num zs (k * 2 + 1)) = false) := Lib.hid hat
        clear hat
        go_wp2_with fail
        refine (impl_notOk _ _ _).mono ?_
        rw [HR.out]
        rintro e w1 ⟨rfl, hb1⟩
        have hbel1 := hbel.trans (hb1.mono hbel.size)
        clear hbel hb1
        go_wp2_with fail
        go_ret
        exact ⟨⟨_, rfl, by omega, by omega, by rw [HN.out]; simp⟩, hbel1⟩
    · obtain rfl : k = n := by omega
      clear hl
      go_wp2_with fail
      go_ret
      exact ⟨⟨_, rfl, by omega, by omega, by rw [HL.out]; rfl⟩, hbel⟩
set_option maxRecDepth 100000 in
theorem impl_ContainsFunc (A : Option Addr) (n c : Nat) (zs : List Int) (w : World) (hl : Lst w w.heap.size 2 A n zs) (hn : n ≤ 1048576) :
    Calls Try.prog 63 #[.slice A n c, .func (.func 64) #[] #[]] w fun e w' => e = .returned (.bool (!trdTo zs n)) ∧ Below w.heap.size w w' := by
  go_enter Try.func63, Try.ntmps63
  go_wp2_with fail
  refine (impl_IndexFunc A n c zs _ hl hn).mono ?_
  rintro e w1 ⟨⟨z, rfl, hz0, hz1, hz2⟩, hb1⟩
  have HZ := Lib.hid hz2
  clear hz2
  go_wp2_with fail
  go_ret
  exact ⟨ret_bool HZ.out.symm, hb1⟩
set_option maxHeartbeats 1600000 in
set_option maxRecDepth 100000 in
theorem spec_l9Trades (A : Option Addr) (n c : Nat) (zs : List Int) (w : World) (hl : Lst w w.heap.size 2 A n zs) (hn : n ≤ 1048576) :
    Calls Try.prog 67 #[.slice A n c] w fun e w' => e = .returned (.bool (trdTo zs n && decide (n ≤ 1000))) ∧ Below w.heap.size w w' := by
  go_enter Try.func67, Try.ntmps67
  go_wp2_with fail
  go_loopw [3] (fun i wr => ∃ k : Nat, k ≤ n ∧ i = .int .i64 (k : Int) ∧ trdTo zs k = true ∧ Below w.heap.size w wr) (fun i _ => n - (intOf i).toNat)
  case atStart => exact ⟨0, Nat.zero_le _, rfl, rfl, Below.refl _ _⟩
  case round =>
    obtain ⟨k, hk, rfl, hok, hbel⟩ := hrel
    have HL := Lib.hid hok
    clear hok
    by_cases hlt : k < n
    · obtain ⟨b, o, rfl, hb, c0, c1⟩ := (hl.below hbel).row2 hlt
      clear hl
      rcases Bool.eq_false_or_eq_true (trdAt zs k) with hat | hat
      · have HA := Lib.hid hat
        have HR : Hid (trdI (num zs (k * 2)) (num zs (k * 2 + 1)) = true) := Lib.hid hat
        clear hat
        go_wp2_with fail
        refine (spec_l9Trade _ _ _).mono ?_
        rw [HR.out]
        rintro e w1 ⟨rfl, hb1⟩
        have hbel1 := hbel.trans (hb1.mono hbel.size)
        clear hbel hb1
        go_wp2_with fail
        go_roundw
        case rel => exact ⟨k + 1, by omega, by go_num, trdTo_step HL.out HA.out, hbel1⟩
        case measure => simp [intOf]; omega
      · have HN := Lib.hid (trdTo_no hat n hlt)
        have HR : Hid (trdI (num zs (k * 2)) (num zs (k * 2 + 1)) = false) := Lib.hid hat
        clear hat
        go_wp2_with fail
        refine (spec_l9Trade _ _ _).mono ?_
        rw [HR.out]
        rintro e w1 ⟨rfl, hb1⟩
        have hbel1 := hbel.trans (hb1.mono hbel.size)
        clear hbel hb1
        go_wp2_with fail
        go_ret
        exact ⟨by rw [HN.out]; rfl, hbel1⟩
    · obtain rfl : k = n := by omega
      clear hl
      go_wp2_with fail
      go_ret
      exact ⟨ret_bool (by rw [HL.out]; simp; omega), hbel⟩
set_option maxRecDepth 100000 in
theorem impl_candleOfOne (p q : Int) (w : World) :
    Calls Try.prog 65 #[.agg #[.int .i64 p, .int .i64 q]] w fun x w' => x = .returned (.agg #[.int .i64 p, .int .i64 p, .int .i64 p, .int .i64 p, .int .i64 q, .int .i64 (wrap64 (p * q))]) ∧ Below w.heap.size w w' := by
  go_enter Try.func65, Try.ntmps65
  go_wp2
  refine bodyPost_ret (v := .agg #[.int .i64 p, .int .i64 p, .int .i64 p, .int .i64 p, .int .i64 q, .int .i64 (wrap64 (p * q))]) (by simp [results, Try.results65, go_sem]) rfl ⟨rfl, ?_⟩
  go_grown
end Go.Proofs.Yteikflfchkmbnaa
