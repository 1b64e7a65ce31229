/-
  The cost of a quantity, level by level, in both programs.
-/
import Derived.Test.YtdjmejjponlfoabLev
namespace Go.Proofs.Ytdjmejjponlfoab
open Go.RowKit Wire

/-- what is left of a quantity, and what it costs, behind the first levels -/
def leftAt (zs : List Int) (q : Int) : Nat → Int
  | 0 => q
  | k + 1 => leftAt zs q k - min (leftAt zs q k) (num zs (k * 3 + 1))
def costAt (zs : List Int) (q : Int) : Nat → Int
  | 0 => 0
  | k + 1 => costAt zs q k + num zs (k * 3) * min (leftAt zs q k) (num zs (k * 3 + 1))
def costB (zs : List Int) (n : Nat) (q : Int) : Bool := (lvsB 1 zs n || lvsB 2 zs n) && decide (0 ≤ q)
def costV (zs : List Int) (n : Nat) (q : Int) : Value := if costB zs n q = true ∧ leftAt zs q n ≤ 0 then .tuple #[.int .i64 (costAt zs q n), .bool true] else .tuple #[.int .i64 0, .bool false]
theorem lv_bounds {zs : List Int} {n k : Nat} (h : lvsB 1 zs n = true ∨ lvsB 2 zs n = true) (hk : k < n) : 1 ≤ num zs (k * 3) ∧ num zs (k * 3) ≤ 1000000 ∧ 1 ≤ num zs (k * 3 + 1) ∧ num zs (k * 3 + 1) ≤ 20000000 := by
  have h1 : lvAt zs k = true := by
    rcases h with h | h <;>
    · simp only [lvsB, Bool.and_eq_true] at h
      exact lvTo_at n k h.2.2 hk
  simp [lvAt, lvI, inB] at h1
  omega
theorem lvs_40 {zs : List Int} {n : Nat} (h : lvsB 1 zs n = true ∨ lvsB 2 zs n = true) : n ≤ 40 := by
  rcases h with h | h <;>
  · simp only [lvsB, Bool.and_eq_true, decide_eq_true_eq] at h
    exact h.2.1
theorem left_le {zs : List Int} {n : Nat} {q : Int} (h : lvsB 1 zs n = true ∨ lvsB 2 zs n = true) (hq : 0 ≤ q) : ∀ k, k ≤ n → 0 ≤ leftAt zs q k ∧ leftAt zs q k ≤ q
  | 0, _ => ⟨hq, Int.le_refl _⟩
  | k + 1, hk => by
    have h1 := left_le h hq k (by omega)
    have h2 := lv_bounds h (show k < n by omega)
    simp only [leftAt]
    omega
theorem mul_le' {p m P M : Int} (hp : 0 ≤ p) (hP : p ≤ P) (hm : 0 ≤ m) (hM : m ≤ M) : 0 ≤ p * m ∧ p * m ≤ P * M :=
  ⟨Int.mul_nonneg hp hm, Int.mul_le_mul hP hM hm (Int.le_trans hp hP)⟩
theorem cost_le {zs : List Int} {n : Nat} {q : Int} (h : lvsB 1 zs n = true ∨ lvsB 2 zs n = true) (hq : 0 ≤ q) : ∀ k, k ≤ n → 0 ≤ costAt zs q k ∧ costAt zs q k ≤ 20000000000000 * k
  | 0, _ => by simp [costAt]
  | k + 1, hk => by
    have h1 := cost_le h hq k (by omega)
    have h2 := lv_bounds h (show k < n by omega)
    have h3 := left_le h hq k (by omega)
    have h4 := mul_le' (p := num zs (k * 3)) (m := min (leftAt zs q k) (num zs (k * 3 + 1))) (P := 1000000) (M := 20000000) (by omega) (by omega) (by omega) (by omega)
    simp only [costAt]
    omega
theorem left_zero {zs : List Int} {n : Nat} {q : Int} (h : lvsB 1 zs n = true ∨ lvsB 2 zs n = true) {k : Nat} (h0 : leftAt zs q k = 0) : ∀ m, k ≤ m → m ≤ n → leftAt zs q m = 0 ∧ costAt zs q m = costAt zs q k
  | 0, hk, _ => by
    obtain rfl : k = 0 := by omega
    exact ⟨h0, rfl⟩
  | m + 1, hk, hm => by
    by_cases he : k = m + 1
    · subst he; exact ⟨h0, rfl⟩
    · obtain ⟨h1, h2⟩ := left_zero h h0 m (by omega) (by omega)
      have h3 := lv_bounds h (show m < n by omega)
      have h4 : min (0 : Int) (num zs (m * 3 + 1)) = 0 := by omega
      simp only [leftAt, costAt, h1, h4, Int.mul_zero, h2]
      exact ⟨by omega, by omega⟩
theorem costV_no {zs : List Int} {n : Nat} {q : Int} (h : costB zs n q = false) : costV zs n q = .tuple #[.int .i64 0, .bool false] := by simp [costV, h]
set_option linter.unusedSimpArgs false in
set_option maxHeartbeats 3200000 in
set_option maxRecDepth 100000 in
theorem spec_Cost (A : Option Addr) (n c : Nat) (zs : List Int) (q : Int) (w : World) (hl : Lst w w.heap.size 3 A n zs) (hn : n ≤ 1048576) (hq : I64 q) :
    Calls Try.prog 35 #[.slice A n c, .int .i64 q] w fun e w' => e = .returned (costV zs n q) ∧ Below w.heap.size w w' := by
  obtain ⟨hq0, hq1⟩ := hq
  rcases (show (lvsB 1 zs n = false ∧ lvsB 2 zs n = false) ∨ (lvsB 1 zs n = true) ∨ (lvsB 1 zs n = false ∧ lvsB 2 zs n = true) by cases lvsB 1 zs n <;> cases lvsB 2 zs n <;> simp) with ⟨k1, k2⟩ | k1 | ⟨k1, k2⟩
  · have HN := Lib.hid (costV_no (q := q) (show costB zs n q = false by simp [costB, k1, k2]))
    go_enter Try.func35, Try.ntmps35
    go_wp2_with fail
    refine (spec_LevelsOk _ _ _ zs 1 _ hl hn).mono ?_
    rw [k1]
    rintro e w0 ⟨rfl, hb1⟩
    clear k1
    go_wp2_with fail
    refine (spec_LevelsOk _ _ _ zs 2 _ (hl.later hb1) hn).mono ?_
    rw [k2]
    rintro e w1 ⟨rfl, hb2⟩
    have hB := below_later hb1 hb2
    clear k2 hb1 hb2
    clear hl
    go_wp2_with fail
    refine bodyPost_ret (v := .tuple #[.int .i64 0, .bool false]) (by simp [results, Try.results35, go_sem]) rfl ⟨by rw [HN.out], ?_⟩
    exact hB
  · have HA : Hid (lvsB 1 zs n = true ∨ lvsB 2 zs n = true) := Lib.hid (by simp [k1])
    have HB0 : Hid ((lvsB 1 zs n || lvsB 2 zs n) = true) := Lib.hid (by simp [k1])
    by_cases hneg : q < 0
    · have HN := Lib.hid (costV_no (zs := zs) (n := n) (show costB zs n q = false by simp [costB, hneg]))
      go_enter Try.func35, Try.ntmps35
      go_wp2_with fail
      refine (spec_LevelsOk _ _ _ zs 1 _ hl hn).mono ?_
      rw [k1]
      rintro e w1 ⟨rfl, hB⟩
      clear k1
      clear hl
      go_wp2_with fail
      refine bodyPost_ret (v := .tuple #[.int .i64 0, .bool false]) (by simp [results, Try.results35, go_sem]) rfl ⟨by rw [HN.out], ?_⟩
      exact hB
    have hpos : 0 ≤ q := by omega
    have h40 := lvs_40 HA.out
    clear hneg
    go_enter Try.func35, Try.ntmps35
    go_wp2_with fail
    refine (spec_LevelsOk _ _ _ zs 1 _ hl hn).mono ?_
    rw [k1]
    rintro e w1 ⟨rfl, hB⟩
    clear k1
    go_wp2_with fail
    go_loopw [1, 6, 7] (fun l s i wr => ∃ k : Nat, k ≤ n ∧ i = .int .i64 (k : Int) ∧ l = .int .i64 (leftAt zs q k) ∧ s = .int .i64 (costAt zs q k) ∧ Below w.heap.size w wr) (fun _ _ i _ => n - (intOf i).toNat)
    case atStart => exact ⟨0, Nat.zero_le _, rfl, rfl, rfl, hB⟩
    case round =>
      clear hB
      obtain ⟨k, hk, rfl, rfl, rfl, hbel⟩ := hrel
      obtain ⟨hL0, hL1⟩ := left_le HA.out hpos k hk
      obtain ⟨hC0, hC1⟩ := cost_le HA.out hpos k hk
      have HZ := Lib.hid (fun (h0 : leftAt zs q k = 0) => left_zero HA.out h0 n hk (Nat.le_refl _))
      have HV := Lib.hid (show costV zs n q = if leftAt zs q n ≤ 0 then .tuple #[.int .i64 (costAt zs q n), .bool true] else .tuple #[.int .i64 0, .bool false] by simp [costV, costB, HB0.out, hpos])
      have HE1 := Lib.hid (show leftAt zs q (k + 1) = leftAt zs q k - min (leftAt zs q k) (num zs (k * 3 + 1)) from rfl)
      have HE2 := Lib.hid (show costAt zs q (k + 1) = costAt zs q k + num zs (k * 3) * min (leftAt zs q k) (num zs (k * 3 + 1)) from rfl)
      by_cases hlt : k < n
      · obtain ⟨b, o, rfl, hb, c0, c1, c2⟩ := (hl.below hbel).row3 hlt
        have hbd := lv_bounds HA.out hlt
        clear hl
        generalize leftAt zs q k = L at *
        generalize costAt zs q k = C at *
        generalize num zs (k * 3) = p at *
        generalize num zs (k * 3 + 1) = m at *
        generalize num zs (k * 3 + 2) = mm at *
        obtain ⟨hb0, hb1, hb2, hb3⟩ := hbd
        by_cases hz : 0 < L
        rotate_left
        · obtain rfl : L = 0 := by omega
          obtain ⟨z1, z2⟩ := HZ.out rfl
          have HR : Hid (costV zs n q = .tuple #[.int .i64 C, .bool true]) := Lib.hid (by rw [HV.out, z1, z2]; rfl)
          clear z1 z2
          go_wp2_with fail
          refine bodyPost_ret (v := .tuple #[.int .i64 C, .bool true]) (by simp [results, Try.results35, go_sem]) rfl ⟨by rw [HR.out], hbel⟩
        rcases (show L ≤ m ∨ m < L by omega) with hmin | hmin
        · have E1 : leftAt zs q (k + 1) = L - L := by rw [HE1.out]; congr 1; omega
          have E2 : costAt zs q (k + 1) = C + p * L := by rw [HE2.out]; congr 2; omega
          have HP := mul_le' (p := p) (m := L) (P := 1000000) (M := 20000000) (by omega) (by omega) (by omega) (by omega)
          have HQ : L * p = p * L := Int.mul_comm _ _
          have HF1 := Lib.hid E1
          have HF2 := Lib.hid E2
          have HFQ := Lib.hid HQ
          obtain ⟨hp0, hp1⟩ := HP
          have hp2 : 0 ≤ L * p := by omega
          have hp3 : L * p ≤ 1000000 * 20000000 := by omega
          clear E1 E2 HQ
          go_wp2_with fail
          go_roundw
          case rel => exact ⟨k + 1, by omega, by go_num, by rw [HF1.out]; (first | done | go_num), by rw [HF2.out, ← HFQ.out]; (first | done | go_num), hbel⟩
          case measure => simp [intOf]; omega
        · have E1 : leftAt zs q (k + 1) = L - m := by rw [HE1.out]; congr 1; omega
          have E2 : costAt zs q (k + 1) = C + p * m := by rw [HE2.out]; congr 2; omega
          have HP := mul_le' (p := p) (m := m) (P := 1000000) (M := 20000000) (by omega) (by omega) (by omega) (by omega)
          have HQ : m * p = p * m := Int.mul_comm _ _
          have HF1 := Lib.hid E1
          have HF2 := Lib.hid E2
          have HFQ := Lib.hid HQ
          obtain ⟨hp0, hp1⟩ := HP
          have hp2 : 0 ≤ m * p := by omega
          have hp3 : m * p ≤ 1000000 * 20000000 := by omega
          clear E1 E2 HQ
          go_wp2_with fail
          go_roundw
          case rel => exact ⟨k + 1, by omega, by go_num, by rw [HF1.out]; (first | done | go_num), by rw [HF2.out, ← HFQ.out]; (first | done | go_num), hbel⟩
          case measure => simp [intOf]; omega
      · obtain rfl : k = n := by omega
        clear hl HE1 HE2 HZ
        generalize leftAt zs q k = L at *
        generalize costAt zs q k = C at *
        by_cases hz : 0 < L
        · have HR : Hid (costV zs k q = .tuple #[.int .i64 0, .bool false]) := Lib.hid (by rw [HV.out, if_neg (by omega)])
          go_wp2_with fail
          refine bodyPost_ret (v := .tuple #[.int .i64 0, .bool false]) (by simp [results, Try.results35, go_sem]) rfl ⟨by rw [HR.out], hbel⟩
        · have HR : Hid (costV zs k q = .tuple #[.int .i64 C, .bool true]) := Lib.hid (by rw [HV.out, if_pos (by omega)])
          go_wp2_with fail
          refine bodyPost_ret (v := .tuple #[.int .i64 C, .bool true]) (by simp [results, Try.results35, go_sem]) rfl ⟨by rw [HR.out], hbel⟩
  · have HA : Hid (lvsB 1 zs n = true ∨ lvsB 2 zs n = true) := Lib.hid (by simp [k2])
    have HB0 : Hid ((lvsB 1 zs n || lvsB 2 zs n) = true) := Lib.hid (by simp [k2])
    by_cases hneg : q < 0
    · have HN := Lib.hid (costV_no (zs := zs) (n := n) (show costB zs n q = false by simp [costB, hneg]))
      go_enter Try.func35, Try.ntmps35
      go_wp2_with fail
      refine (spec_LevelsOk _ _ _ zs 1 _ hl hn).mono ?_
      rw [k1]
      rintro e w0 ⟨rfl, hb1⟩
      clear k1
      go_wp2_with fail
      refine (spec_LevelsOk _ _ _ zs 2 _ (hl.later hb1) hn).mono ?_
      rw [k2]
      rintro e w1 ⟨rfl, hb2⟩
      have hB := below_later hb1 hb2
      clear k2 hb1 hb2
      clear hl
      go_wp2_with fail
      refine bodyPost_ret (v := .tuple #[.int .i64 0, .bool false]) (by simp [results, Try.results35, go_sem]) rfl ⟨by rw [HN.out], ?_⟩
      exact hB
    have hpos : 0 ≤ q := by omega
    have h40 := lvs_40 HA.out
    clear hneg
    go_enter Try.func35, Try.ntmps35
    go_wp2_with fail
    refine (spec_LevelsOk _ _ _ zs 1 _ hl hn).mono ?_
    rw [k1]
    rintro e w0 ⟨rfl, hb1⟩
    clear k1
    go_wp2_with fail
    refine (spec_LevelsOk _ _ _ zs 2 _ (hl.later hb1) hn).mono ?_
    rw [k2]
    rintro e w1 ⟨rfl, hb2⟩
    have hB := below_later hb1 hb2
    clear k2 hb1 hb2
    go_wp2_with fail
    go_loopw [1, 6, 7] (fun l s i wr => ∃ k : Nat, k ≤ n ∧ i = .int .i64 (k : Int) ∧ l = .int .i64 (leftAt zs q k) ∧ s = .int .i64 (costAt zs q k) ∧ Below w.heap.size w wr) (fun _ _ i _ => n - (intOf i).toNat)
    case atStart => exact ⟨0, Nat.zero_le _, rfl, rfl, rfl, hB⟩
    case round =>
      clear hB
      obtain ⟨k, hk, rfl, rfl, rfl, hbel⟩ := hrel
      obtain ⟨hL0, hL1⟩ := left_le HA.out hpos k hk
      obtain ⟨hC0, hC1⟩ := cost_le HA.out hpos k hk
      have HZ := Lib.hid (fun (h0 : leftAt zs q k = 0) => left_zero HA.out h0 n hk (Nat.le_refl _))
      have HV := Lib.hid (show costV zs n q = if leftAt zs q n ≤ 0 then .tuple #[.int .i64 (costAt zs q n), .bool true] else .tuple #[.int .i64 0, .bool false] by simp [costV, costB, HB0.out, hpos])
      have HE1 := Lib.hid (show leftAt zs q (k + 1) = leftAt zs q k - min (leftAt zs q k) (num zs (k * 3 + 1)) from rfl)
      have HE2 := Lib.hid (show costAt zs q (k + 1) = costAt zs q k + num zs (k * 3) * min (leftAt zs q k) (num zs (k * 3 + 1)) from rfl)
      by_cases hlt : k < n
      · obtain ⟨b, o, rfl, hb, c0, c1, c2⟩ := (hl.below hbel).row3 hlt
        have hbd := lv_bounds HA.out hlt
        clear hl
        generalize leftAt zs q k = L at *
        generalize costAt zs q k = C at *
        generalize num zs (k * 3) = p at *
        generalize num zs (k * 3 + 1) = m at *
        generalize num zs (k * 3 + 2) = mm at *
        obtain ⟨hb0, hb1, hb2, hb3⟩ := hbd
        by_cases hz : 0 < L
        rotate_left
        · obtain rfl : L = 0 := by omega
          obtain ⟨z1, z2⟩ := HZ.out rfl
          have HR : Hid (costV zs n q = .tuple #[.int .i64 C, .bool true]) := Lib.hid (by rw [HV.out, z1, z2]; rfl)
          clear z1 z2
          go_wp2_with fail
          refine bodyPost_ret (v := .tuple #[.int .i64 C, .bool true]) (by simp [results, Try.results35, go_sem]) rfl ⟨by rw [HR.out], hbel⟩
        rcases (show L ≤ m ∨ m < L by omega) with hmin | hmin
        · have E1 : leftAt zs q (k + 1) = L - L := by rw [HE1.out]; congr 1; omega
          have E2 : costAt zs q (k + 1) = C + p * L := by rw [HE2.out]; congr 2; omega
          have HP := mul_le' (p := p) (m := L) (P := 1000000) (M := 20000000) (by omega) (by omega) (by omega) (by omega)
          have HQ : L * p = p * L := Int.mul_comm _ _
          have HF1 := Lib.hid E1
          have HF2 := Lib.hid E2
          have HFQ := Lib.hid HQ
          obtain ⟨hp0, hp1⟩ := HP
          have hp2 : 0 ≤ L * p := by omega
          have hp3 : L * p ≤ 1000000 * 20000000 := by omega
          clear E1 E2 HQ
          go_wp2_with fail
          go_roundw
          case rel => exact ⟨k + 1, by omega, by go_num, by rw [HF1.out]; (first | done | go_num), by rw [HF2.out, ← HFQ.out]; (first | done | go_num), hbel⟩
          case measure => simp [intOf]; omega
        · have E1 : leftAt zs q (k + 1) = L - m := by rw [HE1.out]; congr 1; omega
          have E2 : costAt zs q (k + 1) = C + p * m := by rw [HE2.out]; congr 2; omega
          have HP := mul_le' (p := p) (m := m) (P := 1000000) (M := 20000000) (by omega) (by omega) (by omega) (by omega)
          have HQ : m * p = p * m := Int.mul_comm _ _
          have HF1 := Lib.hid E1
          have HF2 := Lib.hid E2
          have HFQ := Lib.hid HQ
          obtain ⟨hp0, hp1⟩ := HP
          have hp2 : 0 ≤ m * p := by omega
          have hp3 : m * p ≤ 1000000 * 20000000 := by omega
          clear E1 E2 HQ
          go_wp2_with fail
          go_roundw
          case rel => exact ⟨k + 1, by omega, by go_num, by rw [HF1.out]; (first | done | go_num), by rw [HF2.out, ← HFQ.out]; (first | done | go_num), hbel⟩
          case measure => simp [intOf]; omega
      · obtain rfl : k = n := by omega
        clear hl HE1 HE2 HZ
        generalize leftAt zs q k = L at *
        generalize costAt zs q k = C at *
        by_cases hz : 0 < L
        · have HR : Hid (costV zs k q = .tuple #[.int .i64 0, .bool false]) := Lib.hid (by rw [HV.out, if_neg (by omega)])
          go_wp2_with fail
          refine bodyPost_ret (v := .tuple #[.int .i64 0, .bool false]) (by simp [results, Try.results35, go_sem]) rfl ⟨by rw [HR.out], hbel⟩
        · have HR : Hid (costV zs k q = .tuple #[.int .i64 C, .bool true]) := Lib.hid (by rw [HV.out, if_pos (by omega)])
          go_wp2_with fail
          refine bodyPost_ret (v := .tuple #[.int .i64 C, .bool true]) (by simp [results, Try.results35, go_sem]) rfl ⟨by rw [HR.out], hbel⟩
set_option linter.unusedSimpArgs false in
set_option maxHeartbeats 3200000 in
set_option maxRecDepth 100000 in
theorem impl_Cost (A : Option Addr) (n c : Nat) (zs : List Int) (q : Int) (w : World) (hl : Lst w w.heap.size 3 A n zs) (hn : n ≤ 1048576) (hq : I64 q) :
    Calls Try.prog 34 #[.slice A n c, .int .i64 q] w fun e w' => e = .returned (costV zs n q) ∧ Below w.heap.size w w' := by
  obtain ⟨hq0, hq1⟩ := hq
  rcases (show (lvsB 1 zs n = false ∧ lvsB 2 zs n = false) ∨ (lvsB 1 zs n = true) ∨ (lvsB 1 zs n = false ∧ lvsB 2 zs n = true) by cases lvsB 1 zs n <;> cases lvsB 2 zs n <;> simp) with ⟨k1, k2⟩ | k1 | ⟨k1, k2⟩
  · have HN := Lib.hid (costV_no (q := q) (show costB zs n q = false by simp [costB, k1, k2]))
    go_enter Try.func34, Try.ntmps34
    go_wp2_with fail
    refine (impl_LevelsOk _ _ _ zs 1 _ hl hn).mono ?_
    rw [k1]
    rintro e w0 ⟨rfl, hb1⟩
    clear k1
    go_wp2_with fail
    refine (impl_LevelsOk _ _ _ zs 2 _ (hl.later hb1) hn).mono ?_
    rw [k2]
    rintro e w1 ⟨rfl, hb2⟩
    have hB := below_later hb1 hb2
    clear k2 hb1 hb2
    clear hl
    go_wp2_with fail
    refine bodyPost_ret (v := .tuple #[.int .i64 0, .bool false]) (by simp [results, Try.results34, go_sem]) rfl ⟨by rw [HN.out], ?_⟩
    exact hB
  · have HA : Hid (lvsB 1 zs n = true ∨ lvsB 2 zs n = true) := Lib.hid (by simp [k1])
    have HB0 : Hid ((lvsB 1 zs n || lvsB 2 zs n) = true) := Lib.hid (by simp [k1])
    by_cases hneg : q < 0
    · have HN := Lib.hid (costV_no (zs := zs) (n := n) (show costB zs n q = false by simp [costB, hneg]))
      go_enter Try.func34, Try.ntmps34
      go_wp2_with fail
      refine (impl_LevelsOk _ _ _ zs 1 _ hl hn).mono ?_
      rw [k1]
      rintro e w1 ⟨rfl, hB⟩
      clear k1
      clear hl
      go_wp2_with fail
      refine bodyPost_ret (v := .tuple #[.int .i64 0, .bool false]) (by simp [results, Try.results34, go_sem]) rfl ⟨by rw [HN.out], ?_⟩
      exact hB
    have hpos : 0 ≤ q := by omega
    have h40 := lvs_40 HA.out
    clear hneg
    go_enter Try.func34, Try.ntmps34
    go_wp2_with fail
    refine (impl_LevelsOk _ _ _ zs 1 _ hl hn).mono ?_
    rw [k1]
    rintro e w1 ⟨rfl, hB⟩
    clear k1
    go_wp2_with fail
    go_loopw [1, 6, 24] (fun l s i wr => ∃ k : Nat, k ≤ n ∧ i = .int .i64 (k : Int) ∧ l = .int .i64 (leftAt zs q k) ∧ s = .int .i64 (costAt zs q k) ∧ Below w.heap.size w wr) (fun _ _ i _ => n - (intOf i).toNat)
    case atStart => exact ⟨0, Nat.zero_le _, rfl, rfl, rfl, hB⟩
    case round =>
      clear hB
      obtain ⟨k, hk, rfl, rfl, rfl, hbel⟩ := hrel
      obtain ⟨hL0, hL1⟩ := left_le HA.out hpos k hk
      obtain ⟨hC0, hC1⟩ := cost_le HA.out hpos k hk
      have HZ := Lib.hid (fun (h0 : leftAt zs q k = 0) => left_zero HA.out h0 n hk (Nat.le_refl _))
      have HV := Lib.hid (show costV zs n q = if leftAt zs q n ≤ 0 then .tuple #[.int .i64 (costAt zs q n), .bool true] else .tuple #[.int .i64 0, .bool false] by simp [costV, costB, HB0.out, hpos])
      have HE1 := Lib.hid (show leftAt zs q (k + 1) = leftAt zs q k - min (leftAt zs q k) (num zs (k * 3 + 1)) from rfl)
      have HE2 := Lib.hid (show costAt zs q (k + 1) = costAt zs q k + num zs (k * 3) * min (leftAt zs q k) (num zs (k * 3 + 1)) from rfl)
      by_cases hlt : k < n
      · obtain ⟨b, o, rfl, hb, c0, c1, c2⟩ := (hl.below hbel).row3 hlt
        have hbd := lv_bounds HA.out hlt
        clear hl
        generalize leftAt zs q k = L at *
        generalize costAt zs q k = C at *
        generalize num zs (k * 3) = p at *
        generalize num zs (k * 3 + 1) = m at *
        generalize num zs (k * 3 + 2) = mm at *
        obtain ⟨hb0, hb1, hb2, hb3⟩ := hbd
        skip
        rcases (show L ≤ m ∨ m < L by omega) with hmin | hmin
        · have E1 : leftAt zs q (k + 1) = L - L := by rw [HE1.out]; congr 1; omega
          have E2 : costAt zs q (k + 1) = C + p * L := by rw [HE2.out]; congr 2; omega
          have HP := mul_le' (p := p) (m := L) (P := 1000000) (M := 20000000) (by omega) (by omega) (by omega) (by omega)
          have HQ : L * p = p * L := Int.mul_comm _ _
          have HF1 := Lib.hid E1
          have HF2 := Lib.hid E2
          have HFQ := Lib.hid HQ
          obtain ⟨hp0, hp1⟩ := HP
          clear E1 E2 HQ
          go_wp2_with fail
          go_roundw
          case rel => exact ⟨k + 1, by omega, by go_num, by rw [HF1.out]; (first | done | go_num), by rw [HF2.out]; (first | done | go_num), hbel.alloc hbel.size _⟩
          case measure => simp [intOf]; omega
        · have E1 : leftAt zs q (k + 1) = L - m := by rw [HE1.out]; congr 1; omega
          have E2 : costAt zs q (k + 1) = C + p * m := by rw [HE2.out]; congr 2; omega
          have HP := mul_le' (p := p) (m := m) (P := 1000000) (M := 20000000) (by omega) (by omega) (by omega) (by omega)
          have HQ : m * p = p * m := Int.mul_comm _ _
          have HF1 := Lib.hid E1
          have HF2 := Lib.hid E2
          have HFQ := Lib.hid HQ
          obtain ⟨hp0, hp1⟩ := HP
          clear E1 E2 HQ
          go_wp2_with fail
          go_roundw
          case rel => exact ⟨k + 1, by omega, by go_num, by rw [HF1.out]; (first | done | go_num), by rw [HF2.out]; (first | done | go_num), hbel.alloc hbel.size _⟩
          case measure => simp [intOf]; omega
      · obtain rfl : k = n := by omega
        clear hl HE1 HE2 HZ
        generalize leftAt zs q k = L at *
        generalize costAt zs q k = C at *
        by_cases hz : 0 < L
        · have HR : Hid (costV zs k q = .tuple #[.int .i64 0, .bool false]) := Lib.hid (by rw [HV.out, if_neg (by omega)])
          go_wp2_with fail
          refine bodyPost_ret (v := .tuple #[.int .i64 0, .bool false]) (by simp [results, Try.results34, go_sem]) rfl ⟨by rw [HR.out], hbel⟩
        · have HR : Hid (costV zs k q = .tuple #[.int .i64 C, .bool true]) := Lib.hid (by rw [HV.out, if_pos (by omega)])
          go_wp2_with fail
          refine bodyPost_ret (v := .tuple #[.int .i64 C, .bool true]) (by simp [results, Try.results34, go_sem]) rfl ⟨by rw [HR.out], hbel⟩
  · have HA : Hid (lvsB 1 zs n = true ∨ lvsB 2 zs n = true) := Lib.hid (by simp [k2])
    have HB0 : Hid ((lvsB 1 zs n || lvsB 2 zs n) = true) := Lib.hid (by simp [k2])
    by_cases hneg : q < 0
    · have HN := Lib.hid (costV_no (zs := zs) (n := n) (show costB zs n q = false by simp [costB, hneg]))
      go_enter Try.func34, Try.ntmps34
      go_wp2_with fail
      refine (impl_LevelsOk _ _ _ zs 1 _ hl hn).mono ?_
      rw [k1]
      rintro e w0 ⟨rfl, hb1⟩
      clear k1
      go_wp2_with fail
      refine (impl_LevelsOk _ _ _ zs 2 _ (hl.later hb1) hn).mono ?_
      rw [k2]
      rintro e w1 ⟨rfl, hb2⟩
      have hB := below_later hb1 hb2
      clear k2 hb1 hb2
      clear hl
      go_wp2_with fail
      refine bodyPost_ret (v := .tuple #[.int .i64 0, .bool false]) (by simp [results, Try.results34, go_sem]) rfl ⟨by rw [HN.out], ?_⟩
      exact hB
    have hpos : 0 ≤ q := by omega
    have h40 := lvs_40 HA.out
    clear hneg
    go_enter Try.func34, Try.ntmps34
    go_wp2_with fail
    refine (impl_LevelsOk _ _ _ zs 1 _ hl hn).mono ?_
    rw [k1]
    rintro e w0 ⟨rfl, hb1⟩
    clear k1
    go_wp2_with fail
    refine (impl_LevelsOk _ _ _ zs 2 _ (hl.later hb1) hn).mono ?_
    rw [k2]
    rintro e w1 ⟨rfl, hb2⟩
    have hB := below_later hb1 hb2
    clear k2 hb1 hb2
    go_wp2_with fail
    go_loopw [1, 6, 24] (fun l s i wr => ∃ k : Nat, k ≤ n ∧ i = .int .i64 (k : Int) ∧ l = .int .i64 (leftAt zs q k) ∧ s = .int .i64 (costAt zs q k) ∧ Below w.heap.size w wr) (fun _ _ i _ => n - (intOf i).toNat)
    case atStart => exact ⟨0, Nat.zero_le _, rfl, rfl, rfl, hB⟩
    case round =>
      clear hB
      obtain ⟨k, hk, rfl, rfl, rfl, hbel⟩ := hrel
      obtain ⟨hL0, hL1⟩ := left_le HA.out hpos k hk
      obtain ⟨hC0, hC1⟩ := cost_le HA.out hpos k hk
      have HZ := Lib.hid (fun (h0 : leftAt zs q k = 0) => left_zero HA.out h0 n hk (Nat.le_refl _))
      have HV := Lib.hid (show costV zs n q = if leftAt zs q n ≤ 0 then .tuple #[.int .i64 (costAt zs q n), .bool true] else .tuple #[.int .i64 0, .bool false] by simp [costV, costB, HB0.out, hpos])
      have HE1 := Lib.hid (show leftAt zs q (k + 1) = leftAt zs q k - min (leftAt zs q k) (num zs (k * 3 + 1)) from rfl)
      have HE2 := Lib.hid (show costAt zs q (k + 1) = costAt zs q k + num zs (k * 3) * min (leftAt zs q k) (num zs (k * 3 + 1)) from rfl)
      by_cases hlt : k < n
      · obtain ⟨b, o, rfl, hb, c0, c1, c2⟩ := (hl.below hbel).row3 hlt
        have hbd := lv_bounds HA.out hlt
        clear hl
        generalize leftAt zs q k = L at *
        generalize costAt zs q k = C at *
        generalize num zs (k * 3) = p at *
        generalize num zs (k * 3 + 1) = m at *
        generalize num zs (k * 3 + 2) = mm at *
        obtain ⟨hb0, hb1, hb2, hb3⟩ := hbd
        skip
        rcases (show L ≤ m ∨ m < L by omega) with hmin | hmin
        · have E1 : leftAt zs q (k + 1) = L - L := by rw [HE1.out]; congr 1; omega
          have E2 : costAt zs q (k + 1) = C + p * L := by rw [HE2.out]; congr 2; omega
          have HP := mul_le' (p := p) (m := L) (P := 1000000) (M := 20000000) (by omega) (by omega) (by omega) (by omega)
          have HQ : L * p = p * L := Int.mul_comm _ _
          have HF1 := Lib.hid E1
          have HF2 := Lib.hid E2
          have HFQ := Lib.hid HQ
          obtain ⟨hp0, hp1⟩ := HP
          clear E1 E2 HQ
          go_wp2_with fail
          go_roundw
          case rel => exact ⟨k + 1, by omega, by go_num, by rw [HF1.out]; (first | done | go_num), by rw [HF2.out]; (first | done | go_num), hbel.alloc hbel.size _⟩
          case measure => simp [intOf]; omega
        · have E1 : leftAt zs q (k + 1) = L - m := by rw [HE1.out]; congr 1; omega
          have E2 : costAt zs q (k + 1) = C + p * m := by rw [HE2.out]; congr 2; omega
          have HP := mul_le' (p := p) (m := m) (P := 1000000) (M := 20000000) (by omega) (by omega) (by omega) (by omega)
          have HQ : m * p = p * m := Int.mul_comm _ _
          have HF1 := Lib.hid E1
          have HF2 := Lib.hid E2
          have HFQ := Lib.hid HQ
          obtain ⟨hp0, hp1⟩ := HP
          clear E1 E2 HQ
          go_wp2_with fail
          go_roundw
          case rel => exact ⟨k + 1, by omega, by go_num, by rw [HF1.out]; (first | done | go_num), by rw [HF2.out]; (first | done | go_num), hbel.alloc hbel.size _⟩
          case measure => simp [intOf]; omega
      · obtain rfl : k = n := by omega
        clear hl HE1 HE2 HZ
        generalize leftAt zs q k = L at *
        generalize costAt zs q k = C at *
        by_cases hz : 0 < L
        · have HR : Hid (costV zs k q = .tuple #[.int .i64 0, .bool false]) := Lib.hid (by rw [HV.out, if_neg (by omega)])
          go_wp2_with fail
          refine bodyPost_ret (v := .tuple #[.int .i64 0, .bool false]) (by simp [results, Try.results34, go_sem]) rfl ⟨by rw [HR.out], hbel⟩
        · have HR : Hid (costV zs k q = .tuple #[.int .i64 C, .bool true]) := Lib.hid (by rw [HV.out, if_pos (by omega)])
          go_wp2_with fail
          refine bodyPost_ret (v := .tuple #[.int .i64 C, .bool true]) (by simp [results, Try.results34, go_sem]) rfl ⟨by rw [HR.out], hbel⟩
end Go.Proofs.Ytdjmejjponlfoab
