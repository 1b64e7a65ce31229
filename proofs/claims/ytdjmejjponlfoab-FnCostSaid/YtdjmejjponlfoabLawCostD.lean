/-
  The drawn law of a cost.
-/
import Derived.Test.YtdjmejjponlfoabDrawLev
import Derived.Test.YtdjmejjponlfoabCost
import Derived.Test.YtdjmejjponlfoabLawInts
namespace Go.Proofs.Ytdjmejjponlfoab
open Go.RowKit Wire

/-- all that the first levels hold, and what it is worth -/
def qtyS (zs : List Int) : Nat → Int
  | 0 => 0
  | k + 1 => qtyS zs k + num zs (k * 3 + 1)
def wrtS (zs : List Int) : Nat → Int
  | 0 => 0
  | k + 1 => wrtS zs k + num zs (k * 3 + 1) * num zs (k * 3)
theorem qtyS_le {zs : List Int} {n : Nat} (h : lvsB 1 zs n = true ∨ lvsB 2 zs n = true) : ∀ k, k ≤ n → 0 ≤ qtyS zs k ∧ qtyS zs k ≤ 20000000 * k
  | 0, _ => by simp [qtyS]
  | k + 1, hk => by
    have h1 := qtyS_le h k (by omega)
    have h2 := lv_bounds h (show k < n by omega)
    simp only [qtyS]
    omega
theorem wrtS_le {zs : List Int} {n : Nat} (h : lvsB 1 zs n = true ∨ lvsB 2 zs n = true) : ∀ k, k ≤ n → 0 ≤ wrtS zs k ∧ wrtS zs k ≤ 20000000000000 * k
  | 0, _ => by simp [wrtS]
  | k + 1, hk => by
    have h1 := wrtS_le h k (by omega)
    have h2 := lv_bounds h (show k < n by omega)
    have h4 := mul_le' (p := num zs (k * 3 + 1)) (m := num zs (k * 3)) (P := 20000000) (M := 1000000) (by omega) (by omega) (by omega) (by omega)
    simp only [wrtS]
    omega
theorem qtyS_mono {zs : List Int} {n : Nat} (h : lvsB 1 zs n = true ∨ lvsB 2 zs n = true) {j : Nat} : ∀ {k : Nat}, j ≤ k → k ≤ n → qtyS zs j ≤ qtyS zs k
  | 0, hj, _ => by
    obtain rfl : j = 0 := by omega
    exact Int.le_refl _
  | k + 1, hj, hk => by
    rcases Nat.eq_or_lt_of_le hj with rfl | hj
    · exact Int.le_refl _
    · have := qtyS_mono h (show j ≤ k by omega) (by omega)
      have h2 := lv_bounds h (show k < n by omega)
      simp only [qtyS]
      omega
theorem left_all {zs : List Int} {n : Nat} (h : lvsB 1 zs n = true ∨ lvsB 2 zs n = true) {q : Int} (hq : qtyS zs n ≤ q) : ∀ k, k ≤ n → leftAt zs q k = q - qtyS zs k ∧ costAt zs q k = wrtS zs k
  | 0, _ => by simp [leftAt, costAt, qtyS, wrtS]
  | k + 1, hk => by
    obtain ⟨h1, h2⟩ := left_all h hq k (by omega)
    have h3 := qtyS_mono h hk (Nat.le_refl _)
    simp only [qtyS] at h3
    simp only [leftAt, costAt, qtyS, wrtS, h1, h2]
    rw [show min (q - qtyS zs k) (num zs (k * 3 + 1)) = num zs (k * 3 + 1) by omega, Int.mul_comm (num zs (k * 3))]
    exact ⟨by omega, rfl⟩
theorem left_mono {zs : List Int} {n : Nat} (h : lvsB 1 zs n = true ∨ lvsB 2 zs n = true) {p q : Int} (hpq : p ≤ q) (hp : 0 ≤ p) : ∀ k, k ≤ n → leftAt zs p k ≤ leftAt zs q k ∧ costAt zs p k ≤ costAt zs q k
  | 0, _ => by simpa [leftAt, costAt] using hpq
  | k + 1, hk => by
    obtain ⟨h1, h2⟩ := left_mono h hpq hp k (by omega)
    have h3 := lv_bounds h (show k < n by omega)
    have h4 : num zs (k * 3) * min (leftAt zs p k) (num zs (k * 3 + 1)) ≤ num zs (k * 3) * min (leftAt zs q k) (num zs (k * 3 + 1)) := Int.mul_le_mul_of_nonneg_left (by omega) (by omega)
    simp only [leftAt, costAt]
    exact ⟨by omega, by omega⟩
theorem left_ge {zs : List Int} {q : Int} : ∀ k, q - qtyS zs k ≤ leftAt zs q k
  | 0 => by simp [leftAt, qtyS]
  | k + 1 => by
    have := left_ge (zs := zs) (q := q) k
    simp only [leftAt, qtyS]
    omega
/-- what the law says of a cost that is paid -/
theorem cost_law {zs : List Int} {n : Nat} {q : Int} (hc : costB zs n q = true ∧ leftAt zs q n ≤ 0) :
    (lvsB 1 zs n = true ∨ lvsB 2 zs n = true) ∧ 0 ≤ q ∧ costV zs n q = .tuple #[.int .i64 (costAt zs q n), .bool true] ∧ costV zs n (qtyS zs n) = .tuple #[.int .i64 (wrtS zs n), .bool true] ∧ costV zs n (qtyS zs n + 1) = .tuple #[.int .i64 0, .bool false] ∧
    costV zs n (q / 2) = .tuple #[.int .i64 (costAt zs (q / 2) n), .bool true] ∧ costAt zs (q / 2) n ≤ costAt zs q n ∧ costAt zs q n ≤ wrtS zs n := by
  obtain ⟨hb, hl⟩ := hc
  have hb2 := hb
  simp only [costB, Bool.and_eq_true, Bool.or_eq_true, decide_eq_true_eq] at hb2
  obtain ⟨h, hq⟩ := hb2
  have hB : ∀ p, 0 ≤ p → costB zs n p = true := fun p hp => by
    simp only [costB, Bool.and_eq_true, Bool.or_eq_true, decide_eq_true_eq]
    exact ⟨h, hp⟩
  have hall := (qtyS_le h n (Nat.le_refl _)).1
  have ha := left_all h (Int.le_refl (qtyS zs n)) n (Nat.le_refl _)
  have ha1 := left_all h (show qtyS zs n ≤ qtyS zs n + 1 by omega) n (Nat.le_refl _)
  have hqa := left_ge (zs := zs) (q := q) n
  have hm := left_mono h (show q / 2 ≤ q by omega) (show 0 ≤ q / 2 by omega) n (Nat.le_refl _)
  have hm2 := left_mono h (show q ≤ qtyS zs n by omega) hq n (Nat.le_refl _)
  refine ⟨h, hq, if_pos ⟨hb, hl⟩, ?_, ?_, if_pos ⟨hB _ (by omega), by omega⟩, hm.2, by rw [← ha.2]; exact hm2.2⟩
  · rw [costV, if_pos ⟨hB _ hall, by omega⟩, ha.2]
  · rw [costV, if_neg (fun hx => by have := hx.2; omega)]
set_option linter.unusedSimpArgs false in
set_option linter.unusedVariables false in
set_option maxHeartbeats 6400000 in
set_option maxRecDepth 100000 in
theorem law_CostD (A : Option Addr) (len cap : Nat) (ys : List Int) (w : World) (hrow : IsRow .u8 w A len cap ys) :
    Calls Try.prog 7 #[.slice A len cap] w fun e w' => e = .returned (.bool true) ∧ Below w.heap.size w w' := by
  have hs := src_of_row hrow
  have hl := row_len hrow
  clear hrow
  have hsrc : ∀ w', Below w.heap.size w w' → Src w' w'.heap.size A len := fun w' hb i hi => by
    obtain ⟨b, o, n, h1, h2, h3, h4, h5⟩ := hs i hi
    exact ⟨b, o, n, h1, Nat.lt_of_lt_of_le h2 hb.size, h3, h4, (hb.cell (p := ⟨b, o + i, none⟩) h2).trans h5⟩
  by_cases hbig : 1048576 < len
  · go_enter Try.func7, Try.ntmps7
    go_wp2_with (go_at_call 9; go_in)
    go_ret
    exact ⟨rfl, Below.refl _ _⟩
  go_enter Try.func7, Try.ntmps7
  go_wp2_with (go_at_call 9; go_in)
  refine (DrawCost_any A len cap _ hs hl).mono ?_
  rintro e w1 ⟨r, n, zs, q, rfl, hq, hn, TL, D⟩
  obtain ⟨A1, c, rfl, _, _⟩ := own_slice TL
  go_wp2_with fail
  by_cases hc : costB zs n q = true ∧ leftAt zs q n ≤ 0
  · obtain ⟨h, hq0, e1, e2, e3, e4, e5, e6⟩ := cost_law hc
    clear hc
    have hcb := cost_le h hq0 n (Nat.le_refl _)
    have hcw := wrtS_le h n (Nat.le_refl _)
    have hqb := qtyS_le h n (Nat.le_refl _)
    have hdv : Int.tdiv q 2 = q / 2 := Int.tdiv_eq_ediv_of_nonneg (by omega)
    have E1 := Lib.hid e1
    have E2 := Lib.hid e2
    have E3 := Lib.hid e3
    have E4 := Lib.hid e4
    clear e1 e2 e3 e4
    obtain ⟨hI1, hI2⟩ := hq
    have hcon := impl_Cost A1 n c zs (q) w1 (Lst.of_own TL) (by omega) ⟨hI1, hI2⟩
    rw [E1.out] at hcon
    refine hcon.mono ?_
    clear hcon
    rintro e w2 ⟨rfl, hb⟩
    replace TL := own_below TL hb
    replace D := D.trans (hb.mono D.size)
    clear hb
    go_wp2_with fail
    have hcon := spec_Cost A1 n c zs (q) w2 (Lst.of_own TL) (by omega) ⟨hI1, hI2⟩
    rw [E1.out] at hcon
    refine hcon.mono ?_
    clear hcon
    rintro e w3 ⟨rfl, hb⟩
    replace TL := own_below TL hb
    replace D := D.trans (hb.mono D.size)
    clear hb
    go_wp2_with fail
    go_loopw [9, 10, 11] (fun a s i wr => ∃ k : Nat, k ≤ n ∧ i = .int .i64 (k : Int) ∧ a = .int .i64 (qtyS zs k) ∧ s = .int .i64 (wrtS zs k) ∧ Below w3.heap.size w3 wr) (fun _ _ i _ => n - (intOf i).toNat)
    case atStart => exact ⟨0, Nat.zero_le _, rfl, rfl, rfl, Below.refl _ _⟩
    case round =>
      obtain ⟨k, hk, rfl, rfl, rfl, hbr⟩ := hrel
      replace TL := own_below TL hbr
      replace D := D.trans (hbr.mono D.size)
      by_cases hlt : k < n
      · obtain ⟨b, o, hax, hbo, c0, c1, c2⟩ := (Lst.of_own TL).row3 hlt
        subst hax
        have g1 := qtyS_le h k hk
        have g2 := wrtS_le h k hk
        have g3 := lv_bounds h hlt
        have g4 := mul_le' (p := num zs (k * 3 + 1)) (m := num zs (k * 3)) (P := 20000000) (M := 1000000) (by omega) (by omega) (by omega) (by omega)
        have F1 := Lib.hid (show qtyS zs (k + 1) = qtyS zs k + num zs (k * 3 + 1) from rfl)
        have F2 := Lib.hid (show wrtS zs (k + 1) = wrtS zs k + num zs (k * 3 + 1) * num zs (k * 3) from rfl)
        generalize qtyS zs k = sq at *
        generalize wrtS zs k = sw at *
        generalize num zs (k * 3 + 1) = lq at *
        generalize num zs (k * 3) = lp at *
        have hw1 : IntKind.i64.wrap (sq + lq) = sq + lq := by rw [IntKind.wrap_i64]; omega
        have hw2 : IntKind.i64.wrap (lq * lp) = lq * lp := by rw [IntKind.wrap_i64]; omega
        have hw3 : IntKind.i64.wrap (sw + lq * lp) = sw + lq * lp := by rw [IntKind.wrap_i64]; omega
        clear g1 g2 g3 g4
        go_upto_region 14 with fail
        go_quiet (fail)
        go_wp2_with fail
        go_roundw
        case rel => exact ⟨k + 1, by omega, by go_num, by rw [F1.out], by rw [F2.out], by have hZ := hbr; exact ⟨hZ.os, hZ.tape, hZ.output, hZ.size, hZ.block⟩⟩
        case measure => simp [intOf]; omega
      · obtain rfl : n = k := by omega
        clear hbr
        generalize hQ : qtyS zs n = sq at *
        generalize hS : wrtS zs n = sw at *
        have HQ := Lib.hid hQ
        have HS := Lib.hid hS
        clear hQ hS
        generalize hC : costAt zs q n = C at *
        generalize hC2 : costAt zs (q / 2) n = C2 at *
        have HC := Lib.hid hC
        have HC2 := Lib.hid hC2
        clear hC hC2
        go_wp2_with fail
        have hcon := impl_Cost A1 n c zs (sq) _ (Lst.of_own TL) (by omega) ⟨by omega, by omega⟩
        rw [E2.out] at hcon
        refine hcon.mono ?_
        clear hcon
        rintro e wa ⟨rfl, hb⟩
        replace TL := own_below TL hb
        replace D := D.trans (hb.mono D.size)
        clear hb
        have hw1 : IntKind.i64.wrap (sq + 1) = sq + 1 := by rw [IntKind.wrap_i64]; omega
        go_wp2_with fail
        have hcon := impl_Cost A1 n c zs (sq + 1) wa (Lst.of_own TL) (by omega) ⟨by omega, by omega⟩
        rw [E3.out] at hcon
        refine hcon.mono ?_
        clear hcon
        rintro e wb ⟨rfl, hb⟩
        replace TL := own_below TL hb
        replace D := D.trans (hb.mono D.size)
        clear hb
        have hw2 : IntKind.i64.wrap (q / 2) = q / 2 := by rw [IntKind.wrap_i64]; omega
        go_wp2_with fail
        have hcon := impl_Cost A1 n c zs (q / 2) wb (Lst.of_own TL) (by omega) ⟨by omega, by omega⟩
        rw [E4.out] at hcon
        refine hcon.mono ?_
        clear hcon
        rintro e wc ⟨rfl, hb⟩
        replace TL := own_below TL hb
        replace D := D.trans (hb.mono D.size)
        clear hb
        have l1 : decide (C2 ≤ C) = true := by simp; omega
        have l2 : decide (C ≤ sw) = true := by simp; omega
        go_wp2_with fail
        go_ret
        exact ⟨by first | rfl | (simp; done) | (simp; omega), D⟩
  · have hV : costV zs n q = .tuple #[.int .i64 0, .bool false] := if_neg hc
    clear hc
    have hcon := impl_Cost A1 n c zs (q) w1 (Lst.of_own TL) (by omega) hq
    rw [hV] at hcon
    refine hcon.mono ?_
    clear hcon
    rintro e w2 ⟨rfl, hb⟩
    replace TL := own_below TL hb
    replace D := D.trans (hb.mono D.size)
    clear hb
    go_wp2_with fail
    have hcon := spec_Cost A1 n c zs (q) w2 (Lst.of_own TL) (by omega) hq
    rw [hV] at hcon
    refine hcon.mono ?_
    clear hcon
    rintro e w3 ⟨rfl, hb⟩
    replace TL := own_below TL hb
    replace D := D.trans (hb.mono D.size)
    clear hb
    go_wp2_with fail
    go_ret
    exact ⟨by first | rfl | simp, D⟩
end Go.Proofs.Ytdjmejjponlfoab
