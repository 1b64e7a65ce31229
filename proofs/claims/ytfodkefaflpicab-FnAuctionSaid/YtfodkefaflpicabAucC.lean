/-
  The best price of an auction: the program's comparison.
-/
import Derived.Test.YtfodkefaflpicabAucP
import Derived.Test.YtfodkefaflpicabOwn
namespace Go.Proofs.Ytfodkefaflpicab
open Go.RowKit Wire

def cmpZ (a b : Int) : Int := if a < b then -1 else if b < a then 1 else 0
def orZ (a b c : Int) : Int := if a ≠ 0 then a else if b ≠ 0 then b else c
theorem pref_key {V G : Int → Int} {p r : Int} : (orZ (cmpZ (V r) (V p)) (cmpZ (G p) (G r)) (cmpZ p r) ≤ 0) ↔ ¬ (keyB V G r p = true) := by
  simp only [orZ, cmpZ, keyB]
  simp only [Bool.or_eq_true, Bool.and_eq_true, decide_eq_true_eq, beq_iff_eq]
  repeat' split
  all_goals omega
theorem cmp_isNaN (a : Int) (w : World) : Calls Try.prog 105 #[.int .i64 a] w fun e w' => e = .returned (.bool false) ∧ w = w' := by
  have t : (a != a) = false := by simp
  go_enter Try.func105, Try.ntmps105
  go_wp2_with fail
  go_ret
  exact ⟨by first | rfl | simp, rfl⟩
theorem cmp_Compare (a b : Int) (w : World) : Calls Try.prog 74 #[.int .i64 a, .int .i64 b] w fun e w' => e = .returned (.int .i64 (cmpZ a b)) ∧ w = w' := by
  rcases (show a < b ∨ (¬ a < b ∧ b < a) ∨ (¬ a < b ∧ ¬ b < a) by omega) with h | ⟨h1, h⟩ | ⟨h1, h⟩
  · have HZ := Lib.hid (show cmpZ a b = -1 by simp [cmpZ, h])
    go_enter Try.func74, Try.ntmps74
    go_wp2_with (go_at_call 105; refine (cmp_isNaN _ _).mono ?_; rintro e w' ⟨rfl, rfl⟩)
    go_ret
    exact ⟨by rw [HZ.out]; rfl, rfl⟩
  · have HZ := Lib.hid (show cmpZ a b = 1 by simp [cmpZ, h, h1])
    go_enter Try.func74, Try.ntmps74
    go_wp2_with (go_at_call 105; refine (cmp_isNaN _ _).mono ?_; rintro e w' ⟨rfl, rfl⟩)
    go_ret
    exact ⟨by rw [HZ.out]; rfl, rfl⟩
  · have HZ := Lib.hid (show cmpZ a b = 0 by simp [cmpZ, h, h1])
    go_enter Try.func74, Try.ntmps74
    go_wp2_with (go_at_call 105; refine (cmp_isNaN _ _).mono ?_; rintro e w' ⟨rfl, rfl⟩)
    go_ret
    exact ⟨by rw [HZ.out]; rfl, rfl⟩
set_option maxHeartbeats 800000 in
theorem cmp_Or (g : Nat) (a b c : Int) (w : World) (hk : w.heap[g]? = some (.cells #[.int .i64 a, .int .i64 b, .int .i64 c] 3 (0, 0))) :
    Calls Try.prog 73 #[.slice (some ⟨g, 0, none⟩) 3 3] w fun e w' => e = .returned (.int .i64 (orZ a b c)) ∧ Below w.heap.size w w' := by
  obtain ⟨x0, x1, x2, _, _, _⟩ := auc_cell3 hk
  have hc : ∀ k : Nat, k < 3 → w.cell? ⟨g, k, none⟩ = some (.int .i64 (num [a, b, c] k)) := fun k hk => by
    rcases (show k = 0 ∨ k = 1 ∨ k = 2 by omega) with rfl | rfl | rfl
    · exact x0
    · exact x1
    · exact x2
  have hlt : g < w.heap.size := (Array.getElem?_eq_some_iff.1 hk).1
  clear x0 x1 x2 hk
  go_enter Try.func73, Try.ntmps73
  go_wp2_with fail
  go_loopw [8] (fun i wr => ∃ k : Nat, k ≤ 3 ∧ i = .int .i64 (k : Int) ∧ (∀ j, j < k → num [a, b, c] j = 0) ∧ Below w.heap.size w wr) (fun i _ => 3 - (intOf i).toNat)
  case atStart => exact ⟨0, Nat.zero_le _, rfl, fun j hj => absurd hj (Nat.not_lt_zero j), Below.refl _ _⟩
  case round =>
    obtain ⟨k, hk, rfl, hno, hbel⟩ := hrel
    have HN := Lib.hid hno
    clear hno
    by_cases hlt3 : k < 3
    · have c0 := (hbel.cell (p := ⟨g, k, none⟩) hlt).trans (hc k hlt3)
      by_cases hz : num [a, b, c] k = 0
      · have HZ := Lib.hid hz
        rw [hz] at c0
        clear hz hc
        go_wp2_with fail
        go_roundw
        case rel => exact ⟨k + 1, by omega, by go_num, fun j hj => by
          rcases Nat.lt_or_ge j k with h | h
          · exact HN.out j h
          · obtain rfl : j = k := by omega
            exact HZ.out, hbel⟩
        case measure => simp [intOf]; omega
      · have HZ := Lib.hid hz
        have t : (num [a, b, c] k != 0) = true := by simpa using hz
        clear hz hc
        go_wp2_with fail
        go_ret
        refine ⟨?_, hbel⟩
        have h0 := HN.out 0
        have h1 := HN.out 1
        have h2 := HZ.out
        rcases (show k = 0 ∨ k = 1 ∨ k = 2 by omega) with rfl | rfl | rfl
        · have e : a ≠ 0 := h2
          show Ending.returned (.int .i64 a) = _
          simp [orZ, e]
        · have e : b ≠ 0 := h2
          have e0 : a = 0 := h0 (by omega)
          show Ending.returned (.int .i64 b) = _
          simp [orZ, e, e0]
        · have e0 : a = 0 := h0 (by omega)
          have e1 : b = 0 := h1 (by omega)
          show Ending.returned (.int .i64 c) = _
          simp [orZ, e0, e1]
    · obtain rfl : k = 3 := by omega
      clear hc
      go_wp2_with fail
      go_ret
      refine ⟨?_, hbel⟩
      have e0 : a = 0 := HN.out 0 (by omega)
      have e1 : b = 0 := HN.out 1 (by omega)
      have e2 : c = 0 := HN.out 2 (by omega)
      simp [orZ, e0, e1, e2]
set_option linter.unusedVariables false in
set_option linter.unusedSimpArgs false in
set_option maxHeartbeats 3200000 in
set_option maxRecDepth 100000 in
theorem impl_preferred (p1 v1 g1 p2 v2 g2 : Int) (w : World) :
    Calls Try.prog 34 #[.agg #[.int .i64 p1, .int .i64 v1, .int .i64 g1], .agg #[.int .i64 p2, .int .i64 v2, .int .i64 g2]] w fun e w' => e = .returned (if orZ (cmpZ v2 v1) (cmpZ g1 g2) (cmpZ p1 p2) ≤ 0 then .agg #[.int .i64 p1, .int .i64 v1, .int .i64 g1] else .agg #[.int .i64 p2, .int .i64 v2, .int .i64 g2]) ∧ Below w.heap.size w w' := by
  obtain ⟨k0, k1, k2⟩ := three_blocks w (.cells #[.int .i64 p1, .int .i64 v1, .int .i64 g1] 67) (.cells #[.int .i64 p2, .int .i64 v2, .int .i64 g2] 67) (.cells #[.int .i64 0, .int .i64 0, .int .i64 0] 67)
  have hbw : Below w.heap.size w (((w.alloc (.cells #[.int .i64 p1, .int .i64 v1, .int .i64 g1] 67)).alloc (.cells #[.int .i64 p2, .int .i64 v2, .int .i64 g2] 67)).alloc (.cells #[.int .i64 0, .int .i64 0, .int .i64 0] 67)) := (((Below.refl _ _).alloc (Nat.le_refl _) _).alloc (by simp) _).alloc (by simp; omega) _
  go_enter Try.func34, Try.ntmps34
  go_upto_region 1 with fail
  generalize ((w.alloc (.cells #[.int .i64 p1, .int .i64 v1, .int .i64 g1] 67)).alloc (.cells #[.int .i64 p2, .int .i64 v2, .int .i64 g2] 67)).alloc (.cells #[.int .i64 0, .int .i64 0, .int .i64 0] 67) = wp at *
  obtain ⟨a0, a1, a2, _, _, _⟩ := auc_cell3 k0
  obtain ⟨b0, b1, b2, _, _, _⟩ := auc_cell3 k1
  have hk := k2
  have hlta : w.heap.size < wp.heap.size := (Array.getElem?_eq_some_iff.1 k0).1
  have hltb : w.heap.size + 1 < wp.heap.size := (Array.getElem?_eq_some_iff.1 k1).1
  have hlt2 : w.heap.size + 1 + 1 < wp.heap.size := (Array.getElem?_eq_some_iff.1 k2).1
  have hB2 : w.heap.size ≤ w.heap.size + 1 + 1 := by omega
  clear k0 k1 k2
  by_cases hP : orZ (cmpZ v2 v1) (cmpZ g1 g2) (cmpZ p1 p2) ≤ 0
  · have HP := Lib.hid hP
    refine wp_region_held_drew (S := (fun w' => Below wp.heap.size wp w')) (by kernel_rfl) ?hSm23 (fun hHeld => ?restm23)
    case hSm23 => exact (Below.refl _ _).drew
    refine wpAnyH_take (i := 0) (oi := ?oim24) (v := ?vm24) ?him24 (by kernel_rfl) (by kernel_rfl) (by kernel_rfl) ?hQm24 (Or.inl ⟨?hwm24, ?hym24⟩) (by assumption) ?restm24
    case him24 => simp only [List.getElem?_toArray, List.getElem?_cons_succ, List.getElem?_cons_zero]; exact rfl
    case hQm24 => exact fun _ _ _ h => h
    case hwm24 => rfl
    case hym24 => ((intro w hSw; (try dsimp only at hSw); go_simp) <;> with_reducible rfl)
    try simp only [Act.put, List.setIfInBounds_toArray, List.set_cons_zero, List.set_cons_succ]
    refine wpAnyH_take (i := 1) (oi := ?oim25) (v := ?vm25) ?him25 (by kernel_rfl) (by kernel_rfl) (by kernel_rfl) ?hQm25 (Or.inl ⟨?hwm25, ?hym25⟩) (by assumption) ?restm25
    case him25 => simp only [List.getElem?_toArray, List.getElem?_cons_succ, List.getElem?_cons_zero]; exact rfl
    case hQm25 => exact fun _ _ _ h => h
    case hwm25 => rfl
    case hym25 => ((intro wS hSw; have t0 := (hSw.cell (p := ⟨w.heap.size + 1, 1, none⟩) hltb).trans b1; go_simp) <;> with_reducible rfl)
    try simp only [Act.put, List.setIfInBounds_toArray, List.set_cons_zero, List.set_cons_succ]
    refine wpAnyH_take (i := 2) (oi := ?oim26) (v := ?vm26) ?him26 (by kernel_rfl) (by kernel_rfl) (by kernel_rfl) ?hQm26 (Or.inl ⟨?hwm26, ?hym26⟩) (by assumption) ?restm26
    case him26 => simp only [List.getElem?_toArray, List.getElem?_cons_succ, List.getElem?_cons_zero]; exact rfl
    case hQm26 => exact fun _ _ _ h => h
    case hwm26 => rfl
    case hym26 => ((intro w hSw; (try dsimp only at hSw); go_simp) <;> with_reducible rfl)
    try simp only [Act.put, List.setIfInBounds_toArray, List.set_cons_zero, List.set_cons_succ]
    refine wpAnyH_take (i := 3) (oi := ?oim27) (v := ?vm27) ?him27 (by kernel_rfl) (by kernel_rfl) (by kernel_rfl) ?hQm27 (Or.inl ⟨?hwm27, ?hym27⟩) (by assumption) ?restm27
    case him27 => simp only [List.getElem?_toArray, List.getElem?_cons_succ, List.getElem?_cons_zero]; exact rfl
    case hQm27 => exact fun _ _ _ h => h
    case hwm27 => rfl
    case hym27 => ((intro wS hSw; have t0 := (hSw.cell (p := ⟨w.heap.size, 1, none⟩) hlta).trans a1; go_simp) <;> with_reducible rfl)
    try simp only [Act.put, List.setIfInBounds_toArray, List.set_cons_zero, List.set_cons_succ]
    refine wpAnyH_take (i := 5) (oi := ?oim28) (v := ?vm28) ?him28 (by kernel_rfl) (by kernel_rfl) (by kernel_rfl) ?hQm28 (Or.inl ⟨?hwm28, ?hym28⟩) (by assumption) ?restm28
    case him28 => simp only [List.getElem?_toArray, List.getElem?_cons_succ, List.getElem?_cons_zero]; exact rfl
    case hQm28 => exact fun _ _ _ h => h
    case hwm28 => rfl
    case hym28 => ((intro w hSw; (try dsimp only at hSw); go_simp) <;> with_reducible rfl)
    try simp only [Act.put, List.setIfInBounds_toArray, List.set_cons_zero, List.set_cons_succ]
    refine wpAnyH_take (i := 6) (oi := ?oim29) (v := ?vm29) ?him29 (by kernel_rfl) (by kernel_rfl) (by kernel_rfl) ?hQm29 (Or.inl ⟨?hwm29, ?hym29⟩) (by assumption) ?restm29
    case him29 => simp only [List.getElem?_toArray, List.getElem?_cons_succ, List.getElem?_cons_zero]; exact rfl
    case hQm29 => exact fun _ _ _ h => h
    case hwm29 => rfl
    case hym29 => ((intro wS hSw; have t0 := (hSw.cell (p := ⟨w.heap.size, 2, none⟩) hlta).trans a2; go_simp) <;> with_reducible rfl)
    try simp only [Act.put, List.setIfInBounds_toArray, List.set_cons_zero, List.set_cons_succ]
    refine wpAnyH_take (i := 7) (oi := ?oim30) (v := ?vm30) ?him30 (by kernel_rfl) (by kernel_rfl) (by kernel_rfl) ?hQm30 (Or.inl ⟨?hwm30, ?hym30⟩) (by assumption) ?restm30
    case him30 => simp only [List.getElem?_toArray, List.getElem?_cons_succ, List.getElem?_cons_zero]; exact rfl
    case hQm30 => exact fun _ _ _ h => h
    case hwm30 => rfl
    case hym30 => ((intro w hSw; (try dsimp only at hSw); go_simp) <;> with_reducible rfl)
    try simp only [Act.put, List.setIfInBounds_toArray, List.set_cons_zero, List.set_cons_succ]
    refine wpAnyH_take (i := 8) (oi := ?oim31) (v := ?vm31) ?him31 (by kernel_rfl) (by kernel_rfl) (by kernel_rfl) ?hQm31 (Or.inl ⟨?hwm31, ?hym31⟩) (by assumption) ?restm31
    case him31 => simp only [List.getElem?_toArray, List.getElem?_cons_succ, List.getElem?_cons_zero]; exact rfl
    case hQm31 => exact fun _ _ _ h => h
    case hwm31 => rfl
    case hym31 => ((intro wS hSw; have t0 := (hSw.cell (p := ⟨w.heap.size + 1, 2, none⟩) hltb).trans b2; go_simp) <;> with_reducible rfl)
    try simp only [Act.put, List.setIfInBounds_toArray, List.set_cons_zero, List.set_cons_succ]
    refine wpAnyH_take (i := 10) (oi := ?oim32) (v := ?vm32) ?him32 (by kernel_rfl) (by kernel_rfl) (by kernel_rfl) ?hQm32 (Or.inl ⟨?hwm32, ?hym32⟩) (by assumption) ?restm32
    case him32 => simp only [List.getElem?_toArray, List.getElem?_cons_succ, List.getElem?_cons_zero]; exact rfl
    case hQm32 => exact fun _ _ _ h => h
    case hwm32 => rfl
    case hym32 => ((intro w hSw; (try dsimp only at hSw); go_simp) <;> with_reducible rfl)
    try simp only [Act.put, List.setIfInBounds_toArray, List.set_cons_zero, List.set_cons_succ]
    refine wpAnyH_take (i := 11) (oi := ?oim33) (v := ?vm33) ?him33 (by kernel_rfl) (by kernel_rfl) (by kernel_rfl) ?hQm33 (Or.inl ⟨?hwm33, ?hym33⟩) (by assumption) ?restm33
    case him33 => simp only [List.getElem?_toArray, List.getElem?_cons_succ, List.getElem?_cons_zero]; exact rfl
    case hQm33 => exact fun _ _ _ h => h
    case hwm33 => rfl
    case hym33 => ((intro wS hSw; have t0 := (hSw.cell (p := ⟨w.heap.size, 0, none⟩) hlta).trans a0; go_simp) <;> with_reducible rfl)
    try simp only [Act.put, List.setIfInBounds_toArray, List.set_cons_zero, List.set_cons_succ]
    refine wpAnyH_take (i := 12) (oi := ?oim34) (v := ?vm34) ?him34 (by kernel_rfl) (by kernel_rfl) (by kernel_rfl) ?hQm34 (Or.inl ⟨?hwm34, ?hym34⟩) (by assumption) ?restm34
    case him34 => simp only [List.getElem?_toArray, List.getElem?_cons_succ, List.getElem?_cons_zero]; exact rfl
    case hQm34 => exact fun _ _ _ h => h
    case hwm34 => rfl
    case hym34 => ((intro w hSw; (try dsimp only at hSw); go_simp) <;> with_reducible rfl)
    try simp only [Act.put, List.setIfInBounds_toArray, List.set_cons_zero, List.set_cons_succ]
    refine wpAnyH_take (i := 13) (oi := ?oim35) (v := ?vm35) ?him35 (by kernel_rfl) (by kernel_rfl) (by kernel_rfl) ?hQm35 (Or.inl ⟨?hwm35, ?hym35⟩) (by assumption) ?restm35
    case him35 => simp only [List.getElem?_toArray, List.getElem?_cons_succ, List.getElem?_cons_zero]; exact rfl
    case hQm35 => exact fun _ _ _ h => h
    case hwm35 => rfl
    case hym35 => ((intro wS hSw; have t0 := (hSw.cell (p := ⟨w.heap.size + 1, 0, none⟩) hltb).trans b0; go_simp) <;> with_reducible rfl)
    try simp only [Act.put, List.setIfInBounds_toArray, List.set_cons_zero, List.set_cons_succ]
    refine wpAnyH_ready (rs := [4]) (by kernel_rfl) (by simp) ?_
    refine AllReadyH.cons (o := ?or36_4) ?hor36_4 (fun K hK => ?stepr36_4) (AllReadyH.nil)
    case hor36_4 => simp only [List.getElem?_toArray, List.getElem?_cons_succ, List.getElem?_cons_zero]; exact rfl
    case stepr36_4 =>
      go_simp
      refine (cmp_Compare _ _ _).mono ?_
      rintro e v5 ⟨rfl, rfl⟩
      refine hK.out _ _ ?hSr36_4 (fun hHeld => ?restr36_4)
      case hSr36_4 => exact hHeld
      clear hK K
      try simp only [Act.put, List.setIfInBounds_toArray, List.set_cons_zero, List.set_cons_succ]
      refine wpAnyH_ready (rs := [9]) (by kernel_rfl) (by simp) ?_
      refine AllReadyH.cons (o := ?or37_9) ?hor37_9 (fun K hK => ?stepr37_9) (AllReadyH.nil)
      case hor37_9 => simp only [List.getElem?_toArray, List.getElem?_cons_succ, List.getElem?_cons_zero]; exact rfl
      case stepr37_9 =>
        go_simp
        refine (cmp_Compare _ _ _).mono ?_
        rintro e v5 ⟨rfl, rfl⟩
        refine hK.out _ _ ?hSr37_9 (fun hHeld => ?restr37_9)
        case hSr37_9 => exact hHeld
        clear hK K
        try simp only [Act.put, List.setIfInBounds_toArray, List.set_cons_zero, List.set_cons_succ]
        refine wpAnyH_ready (rs := [14]) (by kernel_rfl) (by simp) ?_
        refine AllReadyH.cons (o := ?or38_14) ?hor38_14 (fun K hK => ?stepr38_14) (AllReadyH.nil)
        case hor38_14 => simp only [List.getElem?_toArray, List.getElem?_cons_succ, List.getElem?_cons_zero]; exact rfl
        case stepr38_14 =>
          go_simp
          refine (cmp_Compare _ _ _).mono ?_
          rintro e v5 ⟨rfl, rfl⟩
          refine hK.out _ _ ?hSr38_14 (fun hHeld => ?restr38_14)
          case hSr38_14 => exact hHeld
          clear hK K
          try simp only [Act.put, List.setIfInBounds_toArray, List.set_cons_zero, List.set_cons_succ]
          refine wpAnyH_ready (rs := [15]) (by kernel_rfl) (by simp) ?_
          refine AllReadyH.cons (o := ?or39_15) ?hor39_15 (fun K hK => ?stepr39_15) (AllReadyH.nil)
          case hor39_15 => simp only [List.getElem?_toArray, List.getElem?_cons_succ, List.getElem?_cons_zero]; exact rfl
          case stepr39_15 =>
            go_simp
            have kZ := heap_alloc_new wp.drew (.cells #[.int .i64 (cmpZ v2 v1), .int .i64 (cmpZ g1 g2), .int .i64 (cmpZ p1 p2)] 3)
            have hZb : Below wp.heap.size wp (wp.drew.alloc (.cells #[.int .i64 (cmpZ v2 v1), .int .i64 (cmpZ g1 g2), .int .i64 (cmpZ p1 p2)] 3)) := Below.alloc hHeld (Below.size hHeld) _
            refine hK.out _ _ ?hSr39_15 (fun hHeld => ?restr39_15)
            case hSr39_15 => exact hZb
            clear hK K
            try simp only [Act.put, List.setIfInBounds_toArray, List.set_cons_zero, List.set_cons_succ]
            refine wpAnyH_ready (rs := [16]) (by kernel_rfl) (by simp) ?_
            refine AllReadyH.cons (o := ?or40_16) ?hor40_16 (fun K hK => ?stepr40_16) (AllReadyH.nil)
            case hor40_16 => simp only [List.getElem?_toArray, List.getElem?_cons_succ, List.getElem?_cons_zero]; exact rfl
            case stepr40_16 =>
              go_simp
              refine (cmp_Or _ _ _ _ _ kZ).mono ?_
              rintro e v6 ⟨rfl, hb6⟩
              have hZc : Below wp.heap.size wp v6 := hZb.trans (hb6.mono (Below.size hZb))
              refine hK.out _ _ ?hSr40_16 (fun hHeld => ?restr40_16)
              case hSr40_16 => exact hZc
              clear hK K
              try simp only [Act.put, List.setIfInBounds_toArray, List.set_cons_zero, List.set_cons_succ]
              refine wpAnyH_take (i := 17) (oi := ?oim41) (v := ?vm41) ?him41 (by kernel_rfl) (by kernel_rfl) (by kernel_rfl) ?hQm41 (Or.inl ⟨?hwm41, ?hym41⟩) (by assumption) ?restm41
              case him41 => simp only [List.getElem?_toArray, List.getElem?_cons_succ, List.getElem?_cons_zero]; exact rfl
              case hQm41 => exact fun _ _ _ h => h
              case hwm41 => rfl
              case hym41 => ((intro w hSw; (try dsimp only at hSw); go_simp) <;> with_reducible rfl)
              try simp only [Act.put, List.setIfInBounds_toArray, List.set_cons_zero, List.set_cons_succ]
              refine wpAnyH_done (by kernel_rfl) ?_ _
              have hbz : Below wp.heap.size wp v6 := hZc
              clear hHeld hZc hZb kZ hb6
              have c0 := (hbz.cell (p := ⟨w.heap.size, 0, none⟩) hlta).trans a0
              have c1 := (hbz.cell (p := ⟨w.heap.size, 1, none⟩) hlta).trans a1
              have c2 := (hbz.cell (p := ⟨w.heap.size, 2, none⟩) hlta).trans a2
              have hk2 := (hbz.block (w.heap.size + 1 + 1) hlt2).trans hk
              obtain ⟨d0, d1, d2, f0, f1, f2⟩ := auc_cell3 hk2
              have HK := Lib.hid hk2
              replace hbw := hbw.trans (hbz.mono hbw.size)
              clear hk2 hk hbz a0 a1 a2 b0 b1 b2
              go_wp2_with fail
              have r := auc_put3 (u0 := .int .i64 p1) (u1 := .int .i64 v1) (u2 := .int .i64 g1) HK.out
              obtain ⟨e0, e1, e2, _, _, _⟩ := auc_cell3 r
              refine bodyPost_ret (v := .agg #[.int .i64 p1, .int .i64 v1, .int .i64 g1]) (by simp [results, Try.results34, go_sem, e0, e1, e2]) rfl ⟨by first | rfl | (rw [if_pos HP.out]), ?_⟩
              exact ((hbw.setCell (p := ⟨w.heap.size + 1 + 1, 0, none⟩) hB2 _).setCell (p := ⟨w.heap.size + 1 + 1, 1, none⟩) hB2 _).setCell (p := ⟨w.heap.size + 1 + 1, 2, none⟩) hB2 _
  · have HP := Lib.hid hP
    refine wp_region_held_drew (S := (fun w' => Below wp.heap.size wp w')) (by kernel_rfl) ?hSm42 (fun hHeld => ?restm42)
    case hSm42 => exact (Below.refl _ _).drew
    refine wpAnyH_take (i := 0) (oi := ?oim43) (v := ?vm43) ?him43 (by kernel_rfl) (by kernel_rfl) (by kernel_rfl) ?hQm43 (Or.inl ⟨?hwm43, ?hym43⟩) (by assumption) ?restm43
    case him43 => simp only [List.getElem?_toArray, List.getElem?_cons_succ, List.getElem?_cons_zero]; exact rfl
    case hQm43 => exact fun _ _ _ h => h
    case hwm43 => rfl
    case hym43 => ((intro w hSw; (try dsimp only at hSw); go_simp) <;> with_reducible rfl)
    try simp only [Act.put, List.setIfInBounds_toArray, List.set_cons_zero, List.set_cons_succ]
    refine wpAnyH_take (i := 1) (oi := ?oim44) (v := ?vm44) ?him44 (by kernel_rfl) (by kernel_rfl) (by kernel_rfl) ?hQm44 (Or.inl ⟨?hwm44, ?hym44⟩) (by assumption) ?restm44
    case him44 => simp only [List.getElem?_toArray, List.getElem?_cons_succ, List.getElem?_cons_zero]; exact rfl
    case hQm44 => exact fun _ _ _ h => h
    case hwm44 => rfl
    case hym44 => ((intro wS hSw; have t0 := (hSw.cell (p := ⟨w.heap.size + 1, 1, none⟩) hltb).trans b1; go_simp) <;> with_reducible rfl)
    try simp only [Act.put, List.setIfInBounds_toArray, List.set_cons_zero, List.set_cons_succ]
    refine wpAnyH_take (i := 2) (oi := ?oim45) (v := ?vm45) ?him45 (by kernel_rfl) (by kernel_rfl) (by kernel_rfl) ?hQm45 (Or.inl ⟨?hwm45, ?hym45⟩) (by assumption) ?restm45
    case him45 => simp only [List.getElem?_toArray, List.getElem?_cons_succ, List.getElem?_cons_zero]; exact rfl
    case hQm45 => exact fun _ _ _ h => h
    case hwm45 => rfl
    case hym45 => ((intro w hSw; (try dsimp only at hSw); go_simp) <;> with_reducible rfl)
    try simp only [Act.put, List.setIfInBounds_toArray, List.set_cons_zero, List.set_cons_succ]
    refine wpAnyH_take (i := 3) (oi := ?oim46) (v := ?vm46) ?him46 (by kernel_rfl) (by kernel_rfl) (by kernel_rfl) ?hQm46 (Or.inl ⟨?hwm46, ?hym46⟩) (by assumption) ?restm46
    case him46 => simp only [List.getElem?_toArray, List.getElem?_cons_succ, List.getElem?_cons_zero]; exact rfl
    case hQm46 => exact fun _ _ _ h => h
    case hwm46 => rfl
    case hym46 => ((intro wS hSw; have t0 := (hSw.cell (p := ⟨w.heap.size, 1, none⟩) hlta).trans a1; go_simp) <;> with_reducible rfl)
    try simp only [Act.put, List.setIfInBounds_toArray, List.set_cons_zero, List.set_cons_succ]
    refine wpAnyH_take (i := 5) (oi := ?oim47) (v := ?vm47) ?him47 (by kernel_rfl) (by kernel_rfl) (by kernel_rfl) ?hQm47 (Or.inl ⟨?hwm47, ?hym47⟩) (by assumption) ?restm47
    case him47 => simp only [List.getElem?_toArray, List.getElem?_cons_succ, List.getElem?_cons_zero]; exact rfl
    case hQm47 => exact fun _ _ _ h => h
    case hwm47 => rfl
    case hym47 => ((intro w hSw; (try dsimp only at hSw); go_simp) <;> with_reducible rfl)
    try simp only [Act.put, List.setIfInBounds_toArray, List.set_cons_zero, List.set_cons_succ]
    refine wpAnyH_take (i := 6) (oi := ?oim48) (v := ?vm48) ?him48 (by kernel_rfl) (by kernel_rfl) (by kernel_rfl) ?hQm48 (Or.inl ⟨?hwm48, ?hym48⟩) (by assumption) ?restm48
    case him48 => simp only [List.getElem?_toArray, List.getElem?_cons_succ, List.getElem?_cons_zero]; exact rfl
    case hQm48 => exact fun _ _ _ h => h
    case hwm48 => rfl
    case hym48 => ((intro wS hSw; have t0 := (hSw.cell (p := ⟨w.heap.size, 2, none⟩) hlta).trans a2; go_simp) <;> with_reducible rfl)
    try simp only [Act.put, List.setIfInBounds_toArray, List.set_cons_zero, List.set_cons_succ]
    refine wpAnyH_take (i := 7) (oi := ?oim49) (v := ?vm49) ?him49 (by kernel_rfl) (by kernel_rfl) (by kernel_rfl) ?hQm49 (Or.inl ⟨?hwm49, ?hym49⟩) (by assumption) ?restm49
    case him49 => simp only [List.getElem?_toArray, List.getElem?_cons_succ, List.getElem?_cons_zero]; exact rfl
    case hQm49 => exact fun _ _ _ h => h
    case hwm49 => rfl
    case hym49 => ((intro w hSw; (try dsimp only at hSw); go_simp) <;> with_reducible rfl)
    try simp only [Act.put, List.setIfInBounds_toArray, List.set_cons_zero, List.set_cons_succ]
    refine wpAnyH_take (i := 8) (oi := ?oim50) (v := ?vm50) ?him50 (by kernel_rfl) (by kernel_rfl) (by kernel_rfl) ?hQm50 (Or.inl ⟨?hwm50, ?hym50⟩) (by assumption) ?restm50
    case him50 => simp only [List.getElem?_toArray, List.getElem?_cons_succ, List.getElem?_cons_zero]; exact rfl
    case hQm50 => exact fun _ _ _ h => h
    case hwm50 => rfl
    case hym50 => ((intro wS hSw; have t0 := (hSw.cell (p := ⟨w.heap.size + 1, 2, none⟩) hltb).trans b2; go_simp) <;> with_reducible rfl)
    try simp only [Act.put, List.setIfInBounds_toArray, List.set_cons_zero, List.set_cons_succ]
    refine wpAnyH_take (i := 10) (oi := ?oim51) (v := ?vm51) ?him51 (by kernel_rfl) (by kernel_rfl) (by kernel_rfl) ?hQm51 (Or.inl ⟨?hwm51, ?hym51⟩) (by assumption) ?restm51
    case him51 => simp only [List.getElem?_toArray, List.getElem?_cons_succ, List.getElem?_cons_zero]; exact rfl
    case hQm51 => exact fun _ _ _ h => h
    case hwm51 => rfl
    case hym51 => ((intro w hSw; (try dsimp only at hSw); go_simp) <;> with_reducible rfl)
    try simp only [Act.put, List.setIfInBounds_toArray, List.set_cons_zero, List.set_cons_succ]
    refine wpAnyH_take (i := 11) (oi := ?oim52) (v := ?vm52) ?him52 (by kernel_rfl) (by kernel_rfl) (by kernel_rfl) ?hQm52 (Or.inl ⟨?hwm52, ?hym52⟩) (by assumption) ?restm52
    case him52 => simp only [List.getElem?_toArray, List.getElem?_cons_succ, List.getElem?_cons_zero]; exact rfl
    case hQm52 => exact fun _ _ _ h => h
    case hwm52 => rfl
    case hym52 => ((intro wS hSw; have t0 := (hSw.cell (p := ⟨w.heap.size, 0, none⟩) hlta).trans a0; go_simp) <;> with_reducible rfl)
    try simp only [Act.put, List.setIfInBounds_toArray, List.set_cons_zero, List.set_cons_succ]
    refine wpAnyH_take (i := 12) (oi := ?oim53) (v := ?vm53) ?him53 (by kernel_rfl) (by kernel_rfl) (by kernel_rfl) ?hQm53 (Or.inl ⟨?hwm53, ?hym53⟩) (by assumption) ?restm53
    case him53 => simp only [List.getElem?_toArray, List.getElem?_cons_succ, List.getElem?_cons_zero]; exact rfl
    case hQm53 => exact fun _ _ _ h => h
    case hwm53 => rfl
    case hym53 => ((intro w hSw; (try dsimp only at hSw); go_simp) <;> with_reducible rfl)
    try simp only [Act.put, List.setIfInBounds_toArray, List.set_cons_zero, List.set_cons_succ]
    refine wpAnyH_take (i := 13) (oi := ?oim54) (v := ?vm54) ?him54 (by kernel_rfl) (by kernel_rfl) (by kernel_rfl) ?hQm54 (Or.inl ⟨?hwm54, ?hym54⟩) (by assumption) ?restm54
    case him54 => simp only [List.getElem?_toArray, List.getElem?_cons_succ, List.getElem?_cons_zero]; exact rfl
    case hQm54 => exact fun _ _ _ h => h
    case hwm54 => rfl
    case hym54 => ((intro wS hSw; have t0 := (hSw.cell (p := ⟨w.heap.size + 1, 0, none⟩) hltb).trans b0; go_simp) <;> with_reducible rfl)
    try simp only [Act.put, List.setIfInBounds_toArray, List.set_cons_zero, List.set_cons_succ]
    refine wpAnyH_ready (rs := [4]) (by kernel_rfl) (by simp) ?_
    refine AllReadyH.cons (o := ?or55_4) ?hor55_4 (fun K hK => ?stepr55_4) (AllReadyH.nil)
    case hor55_4 => simp only [List.getElem?_toArray, List.getElem?_cons_succ, List.getElem?_cons_zero]; exact rfl
    case stepr55_4 =>
      go_simp
      refine (cmp_Compare _ _ _).mono ?_
      rintro e v5 ⟨rfl, rfl⟩
      refine hK.out _ _ ?hSr55_4 (fun hHeld => ?restr55_4)
      case hSr55_4 => exact hHeld
      clear hK K
      try simp only [Act.put, List.setIfInBounds_toArray, List.set_cons_zero, List.set_cons_succ]
      refine wpAnyH_ready (rs := [9]) (by kernel_rfl) (by simp) ?_
      refine AllReadyH.cons (o := ?or56_9) ?hor56_9 (fun K hK => ?stepr56_9) (AllReadyH.nil)
      case hor56_9 => simp only [List.getElem?_toArray, List.getElem?_cons_succ, List.getElem?_cons_zero]; exact rfl
      case stepr56_9 =>
        go_simp
        refine (cmp_Compare _ _ _).mono ?_
        rintro e v5 ⟨rfl, rfl⟩
        refine hK.out _ _ ?hSr56_9 (fun hHeld => ?restr56_9)
        case hSr56_9 => exact hHeld
        clear hK K
        try simp only [Act.put, List.setIfInBounds_toArray, List.set_cons_zero, List.set_cons_succ]
        refine wpAnyH_ready (rs := [14]) (by kernel_rfl) (by simp) ?_
        refine AllReadyH.cons (o := ?or57_14) ?hor57_14 (fun K hK => ?stepr57_14) (AllReadyH.nil)
        case hor57_14 => simp only [List.getElem?_toArray, List.getElem?_cons_succ, List.getElem?_cons_zero]; exact rfl
        case stepr57_14 =>
          go_simp
          refine (cmp_Compare _ _ _).mono ?_
          rintro e v5 ⟨rfl, rfl⟩
          refine hK.out _ _ ?hSr57_14 (fun hHeld => ?restr57_14)
          case hSr57_14 => exact hHeld
          clear hK K
          try simp only [Act.put, List.setIfInBounds_toArray, List.set_cons_zero, List.set_cons_succ]
          refine wpAnyH_ready (rs := [15]) (by kernel_rfl) (by simp) ?_
          refine AllReadyH.cons (o := ?or58_15) ?hor58_15 (fun K hK => ?stepr58_15) (AllReadyH.nil)
          case hor58_15 => simp only [List.getElem?_toArray, List.getElem?_cons_succ, List.getElem?_cons_zero]; exact rfl
          case stepr58_15 =>
            go_simp
            have kZ := heap_alloc_new wp.drew (.cells #[.int .i64 (cmpZ v2 v1), .int .i64 (cmpZ g1 g2), .int .i64 (cmpZ p1 p2)] 3)
            have hZb : Below wp.heap.size wp (wp.drew.alloc (.cells #[.int .i64 (cmpZ v2 v1), .int .i64 (cmpZ g1 g2), .int .i64 (cmpZ p1 p2)] 3)) := Below.alloc hHeld (Below.size hHeld) _
            refine hK.out _ _ ?hSr58_15 (fun hHeld => ?restr58_15)
            case hSr58_15 => exact hZb
            clear hK K
            try simp only [Act.put, List.setIfInBounds_toArray, List.set_cons_zero, List.set_cons_succ]
            refine wpAnyH_ready (rs := [16]) (by kernel_rfl) (by simp) ?_
            refine AllReadyH.cons (o := ?or59_16) ?hor59_16 (fun K hK => ?stepr59_16) (AllReadyH.nil)
            case hor59_16 => simp only [List.getElem?_toArray, List.getElem?_cons_succ, List.getElem?_cons_zero]; exact rfl
            case stepr59_16 =>
              go_simp
              refine (cmp_Or _ _ _ _ _ kZ).mono ?_
              rintro e v6 ⟨rfl, hb6⟩
              have hZc : Below wp.heap.size wp v6 := hZb.trans (hb6.mono (Below.size hZb))
              refine hK.out _ _ ?hSr59_16 (fun hHeld => ?restr59_16)
              case hSr59_16 => exact hZc
              clear hK K
              try simp only [Act.put, List.setIfInBounds_toArray, List.set_cons_zero, List.set_cons_succ]
              refine wpAnyH_take (i := 17) (oi := ?oim60) (v := ?vm60) ?him60 (by kernel_rfl) (by kernel_rfl) (by kernel_rfl) ?hQm60 (Or.inl ⟨?hwm60, ?hym60⟩) (by assumption) ?restm60
              case him60 => simp only [List.getElem?_toArray, List.getElem?_cons_succ, List.getElem?_cons_zero]; exact rfl
              case hQm60 => exact fun _ _ _ h => h
              case hwm60 => rfl
              case hym60 => ((intro w hSw; (try dsimp only at hSw); go_simp) <;> with_reducible rfl)
              try simp only [Act.put, List.setIfInBounds_toArray, List.set_cons_zero, List.set_cons_succ]
              refine wpAnyH_done (by kernel_rfl) ?_ _
              have hbz : Below wp.heap.size wp v6 := hZc
              clear hHeld hZc hZb kZ hb6
              have c0 := (hbz.cell (p := ⟨w.heap.size + 1, 0, none⟩) hltb).trans b0
              have c1 := (hbz.cell (p := ⟨w.heap.size + 1, 1, none⟩) hltb).trans b1
              have c2 := (hbz.cell (p := ⟨w.heap.size + 1, 2, none⟩) hltb).trans b2
              have hk2 := (hbz.block (w.heap.size + 1 + 1) hlt2).trans hk
              obtain ⟨d0, d1, d2, f0, f1, f2⟩ := auc_cell3 hk2
              have HK := Lib.hid hk2
              replace hbw := hbw.trans (hbz.mono hbw.size)
              clear hk2 hk hbz a0 a1 a2 b0 b1 b2
              go_wp2_with fail
              have r := auc_put3 (u0 := .int .i64 p2) (u1 := .int .i64 v2) (u2 := .int .i64 g2) HK.out
              obtain ⟨e0, e1, e2, _, _, _⟩ := auc_cell3 r
              refine bodyPost_ret (v := .agg #[.int .i64 p2, .int .i64 v2, .int .i64 g2]) (by simp [results, Try.results34, go_sem, e0, e1, e2]) rfl ⟨by first | rfl | (rw [if_neg (by have := HP.out; omega)]), ?_⟩
              exact ((hbw.setCell (p := ⟨w.heap.size + 1 + 1, 0, none⟩) hB2 _).setCell (p := ⟨w.heap.size + 1 + 1, 1, none⟩) hB2 _).setCell (p := ⟨w.heap.size + 1 + 1, 2, none⟩) hB2 _
/-- the first rows of a list, and those behind them -/
theorem Lst.takeA {w : World} {B n sz : Nat} {A : Option Addr} {zs : List Int} (h : Lst w B sz A n zs) {k : Nat} (hk : k ≤ n) : Lst w B sz A k (zs.take (k * sz)) := by
  have hle : k * sz ≤ n * sz := Nat.mul_le_mul_right _ hk
  refine ⟨by rw [List.length_take, h.1, Nat.min_eq_left hle], fun h0 => ?_⟩
  obtain ⟨b, o, e, hb, hc⟩ := h.2 (by omega)
  refine ⟨b, o, e, hb, fun j hj => ?_⟩
  rw [hc j (by omega)]
  simp [num, hj]
theorem Lst.dropA {w : World} {B n sz b o : Nat} {zs : List Int} (h : Lst w B sz (some ⟨b, o, none⟩) n zs) {k : Nat} (hk : k ≤ n) : Lst w B sz (some ⟨b, o + k * sz, none⟩) (n - k) (zs.drop (k * sz)) := by
  refine ⟨by rw [List.length_drop, h.1, Nat.sub_mul], fun h0 => ?_⟩
  obtain ⟨b', o', e, hb, hc⟩ := h.2 (by omega)
  injection e with e
  injection e with e1 e2 _
  subst e1 e2
  refine ⟨_, _, rfl, hb, fun j hj => ?_⟩
  rw [Nat.sub_mul] at hj
  rw [Nat.add_assoc, hc (k * sz + j) (by omega)]
  simp [num]
/-- what the closure has captured: both sides, and itself -/
structure AuCap (w : World) (X1 X2 X3 : Nat) (A : Option Addr) (n c : Nat) (za : List Int) (B : Option Addr) (m d : Nat) (zb : List Int) : Prop where
  x1 : w.cell? ⟨X1, 0, none⟩ = some (.slice A n c)
  x2 : w.cell? ⟨X2, 0, none⟩ = some (.slice B m d)
  x3 : w.cell? ⟨X3, 0, none⟩ = some (.func (.func 32) #[] #[.pointer (some ⟨X1, 0, none⟩), .pointer (some ⟨X2, 0, none⟩), .pointer (some ⟨X3, 0, none⟩)])
  l1 : X1 < w.heap.size
  l2 : X2 < w.heap.size
  l3 : X3 < w.heap.size
  la : Lst w w.heap.size 4 A n za
  lb : Lst w w.heap.size 4 B m zb
theorem AuCap.later {w w' : World} {X1 X2 X3 n c m d : Nat} {A B : Option Addr} {za zb : List Int} (h : AuCap w X1 X2 X3 A n c za B m d zb) (hb : Below w.heap.size w w') : AuCap w' X1 X2 X3 A n c za B m d zb :=
  ⟨(hb.cell (p := ⟨X1, 0, none⟩) h.l1).trans h.x1, (hb.cell (p := ⟨X2, 0, none⟩) h.l2).trans h.x2, (hb.cell (p := ⟨X3, 0, none⟩) h.l3).trans h.x3, Nat.lt_of_lt_of_le h.l1 hb.size, Nat.lt_of_lt_of_le h.l2 hb.size, Nat.lt_of_lt_of_le h.l3 hb.size, h.la.later hb, h.lb.later hb⟩
theorem pref_val {V G : Int → Int} {p r : Int} : (if orZ (cmpZ (V r) (V p)) (cmpZ (G p) (G r)) (cmpZ p r) ≤ 0 then (.agg #[.int .i64 p, .int .i64 (V p), .int .i64 (G p)] : Value) else .agg #[.int .i64 r, .int .i64 (V r), .int .i64 (G r)]) = .agg #[.int .i64 (if keyB V G r p = true then r else p), .int .i64 (V (if keyB V G r p = true then r else p)), .int .i64 (G (if keyB V G r p = true then r else p))] := by
  by_cases h : keyB V G r p = true
  · rw [if_neg (fun e => pref_key.1 e h), if_pos h]
  · rw [if_pos (pref_key.2 h), if_neg h]
theorem auc_clr (A : Option Addr) (n c : Nat) (za : List Int) (B : Option Addr) (m d : Nat) (zb : List Int) (p : Int) (w : World) (hl : Lst w w.heap.size 4 A n za) (hn : n ≤ 60) (hoa : allO za n = true) (hr : Lst w w.heap.size 4 B m zb) (hm : m ≤ 60) (hob : allO zb m = true) :
    Calls Try.prog 33 #[.slice A n c, .slice B m d, .int .i64 p] w fun e w' => e = .returned (.agg #[.int .i64 p, .int .i64 (avV za zb n m p), .int .i64 (avG za zb n m p)]) ∧ Below w.heap.size w w' := auc_clearing A n c za B m d zb p w hl hn hoa hr hm hob
set_option linter.unusedVariables false in
set_option linter.unusedSimpArgs false in
set_option maxHeartbeats 3200000 in
set_option maxRecDepth 100000 in
theorem auc_best (X1 X2 X3 : Nat) (A : Option Addr) (n c : Nat) (za : List Int) (B : Option Addr) (m d : Nat) (zb : List Int) (hn : n ≤ 60) (hoa : allO za n = true) (hm : m ≤ 60) (hob : allO zb m = true) :
    ∀ (N : Nat) (D : Option Addr) (k e : Nat) (zs : List Int) (w : World), k ≤ N → k ≤ e → e ≤ maxLen → Lst w w.heap.size 4 D k zs → AuCap w X1 X2 X3 A n c za B m d zb →
    Calls Try.prog 32 #[.slice D k e, .pointer (some ⟨X1, 0, none⟩), .pointer (some ⟨X2, 0, none⟩), .pointer (some ⟨X3, 0, none⟩)] w fun x w' => ((k = 0 ∧ x = .returned (.agg #[.int .i64 0, .int .i64 0, .int .i64 0])) ∨ ∃ r, AuBest (avV za zb n m) (avG za zb n m) zs k r ∧ x = .returned (.agg #[.int .i64 r, .int .i64 (avV za zb n m r), .int .i64 (avG za zb n m r)])) ∧ Below w.heap.size w w' := by
  intro N
  induction N with
  | zero =>
    intro D k e zs w hk he hcm hl hC
    obtain rfl : k = 0 := by omega
    have hk0 := heap_alloc_new w (.cells #[.int .i64 0, .int .i64 0, .int .i64 0] 67)
    have hbw : Below w.heap.size w (w.alloc (.cells #[.int .i64 0, .int .i64 0, .int .i64 0] 67)) := (Below.refl _ _).alloc (Nat.le_refl _) _
    obtain ⟨d0, d1, d2, f0, f1, f2⟩ := auc_cell3 hk0
    have hBs := Lib.hid hbw
    have HK := Lib.hid hk0
    clear hk0 hl hC
    go_enter Try.func32, Try.ntmps32
    go_wp2_with fail
    obtain ⟨e0, e1, e2, _, _, _⟩ := auc_cell3 HK.out
    refine bodyPost_ret (v := .agg #[.int .i64 0, .int .i64 0, .int .i64 0]) (by simp [results, Try.results32, go_sem, e0, e1, e2]) rfl ⟨.inl ⟨by first | trivial | rfl, rfl⟩, hBs.out⟩
  | succ N ih =>
    intro D k e zs w hk he hcm hl hC
    have hcm2 := hcm
    unfold maxLen at hcm
    have hk0 := heap_alloc_new w (.cells #[.int .i64 0, .int .i64 0, .int .i64 0] 67)
    have hbw : Below w.heap.size w (w.alloc (.cells #[.int .i64 0, .int .i64 0, .int .i64 0] 67)) := (Below.refl _ _).alloc (Nat.le_refl _) _
    have hlt0 : w.heap.size < (w.alloc (.cells #[.int .i64 0, .int .i64 0, .int .i64 0] 67)).heap.size := by simp
    rcases (show k = 0 ∨ k = 1 ∨ 2 ≤ k by omega) with rfl | rfl | h2
    · skip
      obtain ⟨d0, d1, d2, f0, f1, f2⟩ := auc_cell3 hk0
      have hBs := Lib.hid hbw
      have HK := Lib.hid hk0
      clear hk0 hl hC
      go_enter Try.func32, Try.ntmps32
      go_wp2_with fail
      obtain ⟨e0, e1, e2, _, _, _⟩ := auc_cell3 HK.out
      refine bodyPost_ret (v := .agg #[.int .i64 0, .int .i64 0, .int .i64 0]) (by simp [results, Try.results32, go_sem, e0, e1, e2]) rfl ⟨.inl ⟨by first | trivial | rfl, rfl⟩, hBs.out⟩
    · obtain ⟨b, o, rfl, hb, c0, c1, c2, c3⟩ := hl.row4 (show 0 < 1 by omega)
      have hbe := Lib.hid (au_first (V := avV za zb n m) (G := avG za zb n m) (zs := zs))
      simp only [Nat.zero_mul, Nat.zero_add, Nat.add_zero] at c2
      generalize num zs 2 = p at *
      go_enter Try.func32, Try.ntmps32
      go_upto_region 5 with fail
      have hk1 : (w.alloc (.cells #[.int .i64 0, .int .i64 0, .int .i64 0] 67)).drew.heap[w.heap.size]? = some (.cells #[.int .i64 0, .int .i64 0, .int .i64 0] 67 (0, 0)) := hk0
      generalize w.alloc (.cells #[.int .i64 0, .int .i64 0, .int .i64 0] 67) = wq at *
      refine wp_region_held_drew (S := (fun w' => Below w.heap.size w w')) (by kernel_rfl) ?hSm1 (fun hHeld => ?restm1)
      case hSm1 => exact hbw.drew
      refine wpAnyH_take (i := 0) (oi := ?oim2) (v := ?vm2) ?him2 (by kernel_rfl) (by kernel_rfl) (by kernel_rfl) ?hQm2 (Or.inl ⟨?hwm2, ?hym2⟩) (by assumption) ?restm2
      case him2 => simp only [List.getElem?_toArray, List.getElem?_cons_succ, List.getElem?_cons_zero]; exact rfl
      case hQm2 => exact fun _ _ _ h => h
      case hwm2 => rfl
      case hym2 => ((intro wS hSw; have t0 := (hSw.cell (p := ⟨X1, 0, none⟩) hC.l1).trans hC.x1; go_simp) <;> with_reducible rfl)
      try simp only [Act.put, List.setIfInBounds_toArray, List.set_cons_zero, List.set_cons_succ]
      refine wpAnyH_take (i := 1) (oi := ?oim3) (v := ?vm3) ?him3 (by kernel_rfl) (by kernel_rfl) (by kernel_rfl) ?hQm3 (Or.inl ⟨?hwm3, ?hym3⟩) (by assumption) ?restm3
      case him3 => simp only [List.getElem?_toArray, List.getElem?_cons_succ, List.getElem?_cons_zero]; exact rfl
      case hQm3 => exact fun _ _ _ h => h
      case hwm3 => rfl
      case hym3 => ((intro wS hSw; have t0 := (hSw.cell (p := ⟨X2, 0, none⟩) hC.l2).trans hC.x2; go_simp) <;> with_reducible rfl)
      try simp only [Act.put, List.setIfInBounds_toArray, List.set_cons_zero, List.set_cons_succ]
      refine wpAnyH_take (i := 2) (oi := ?oim4) (v := ?vm4) ?him4 (by kernel_rfl) (by kernel_rfl) (by kernel_rfl) ?hQm4 (Or.inl ⟨?hwm4, ?hym4⟩) (by assumption) ?restm4
      case him4 => simp only [List.getElem?_toArray, List.getElem?_cons_succ, List.getElem?_cons_zero]; exact rfl
      case hQm4 => exact fun _ _ _ h => h
      case hwm4 => rfl
      case hym4 => ((intro w hSw; (try dsimp only at hSw); go_simp) <;> with_reducible rfl)
      try simp only [Act.put, List.setIfInBounds_toArray, List.set_cons_zero, List.set_cons_succ]
      refine wpAnyH_take (i := 3) (oi := ?oim5) (v := ?vm5) ?him5 (by kernel_rfl) (by kernel_rfl) (by kernel_rfl) ?hQm5 (Or.inl ⟨?hwm5, ?hym5⟩) (by assumption) ?restm5
      case him5 => simp only [List.getElem?_toArray, List.getElem?_cons_succ, List.getElem?_cons_zero]; exact rfl
      case hQm5 => exact fun _ _ _ h => h
      case hwm5 => rfl
      case hym5 => ((intro w hSw; (try dsimp only at hSw); go_simp) <;> with_reducible rfl)
      try simp only [Act.put, List.setIfInBounds_toArray, List.set_cons_zero, List.set_cons_succ]
      refine wpAnyH_take (i := 4) (oi := ?oim6) (v := ?vm6) ?him6 (by kernel_rfl) (by kernel_rfl) (by kernel_rfl) ?hQm6 (Or.inl ⟨?hwm6, ?hym6⟩) (by assumption) ?restm6
      case him6 => simp only [List.getElem?_toArray, List.getElem?_cons_succ, List.getElem?_cons_zero]; exact rfl
      case hQm6 => exact fun _ _ _ h => h
      case hwm6 => rfl
      case hym6 => ((intro w hSw; (try dsimp only at hSw); go_simp) <;> with_reducible rfl)
      try simp only [Act.put, List.setIfInBounds_toArray, List.set_cons_zero, List.set_cons_succ]
      refine wpAnyH_take (i := 5) (oi := ?oim7) (v := ?vm7) ?him7 (by kernel_rfl) (by kernel_rfl) (by kernel_rfl) ?hQm7 (Or.inl ⟨?hwm7, ?hym7⟩) (by assumption) ?restm7
      case him7 => simp only [List.getElem?_toArray, List.getElem?_cons_succ, List.getElem?_cons_zero]; exact rfl
      case hQm7 => exact fun _ _ _ h => h
      case hwm7 => rfl
      case hym7 => ((intro wS hSw; have t0 := (hSw.cell (p := ⟨b, o + 2, none⟩) hb).trans c2; go_simp) <;> with_reducible rfl)
      try simp only [Act.put, List.setIfInBounds_toArray, List.set_cons_zero, List.set_cons_succ]
      refine wpAnyH_ready (rs := [6]) (by kernel_rfl) (by simp) ?_
      refine AllReadyH.cons (o := ?or8_6) ?hor8_6 (fun K hK => ?stepr8_6) (AllReadyH.nil)
      case hor8_6 => simp only [List.getElem?_toArray, List.getElem?_cons_succ, List.getElem?_cons_zero]; exact rfl
      case stepr8_6 =>
        go_simp
        refine (auc_clr A n c za B m d zb p _ (hC.later hHeld).la hn hoa (hC.later hHeld).lb hm hob).mono ?_
        rintro e v5 ⟨rfl, hb5⟩
        have hk5 := (hb5.block w.heap.size hlt0).trans hk1
        have hB5 := Below.trans hHeld (hb5.mono (Below.size hHeld))
        refine hK.out _ _ ?hSr8_6 (fun hHeld => ?restr8_6)
        case hSr8_6 => exact hB5
        clear hK K
        try simp only [Act.put, List.setIfInBounds_toArray, List.set_cons_zero, List.set_cons_succ]
        refine wpAnyH_ready (rs := [7]) (by kernel_rfl) (by simp) ?_
        refine AllReadyH.cons (o := ?or9_7) ?hor9_7 (fun K hK => ?stepr9_7) (AllReadyH.nil)
        case hor9_7 => simp only [List.getElem?_toArray, List.getElem?_cons_succ, List.getElem?_cons_zero]; exact rfl
        case stepr9_7 =>
          obtain ⟨d0, d1, d2, f0, f1, f2⟩ := auc_cell3 hk5
          have HK := Lib.hid hk5
          have hBz := (((hB5.setCell (p := ⟨w.heap.size, 0, none⟩) (Nat.le_refl _) (.int .i64 p)).setCell (p := ⟨w.heap.size, 1, none⟩) (Nat.le_refl _) (.int .i64 (avV za zb n m p))).setCell (p := ⟨w.heap.size, 2, none⟩) (Nat.le_refl _) (.int .i64 (avG za zb n m p)))
          go_simp
          refine hK.out _ _ ?hSr9_7 (fun hHeld => ?restr9_7)
          case hSr9_7 => exact hBz
          clear hK K
          try simp only [Act.put, List.setIfInBounds_toArray, List.set_cons_zero, List.set_cons_succ]
          refine wpAnyH_done (by kernel_rfl) ?_ _
          have r := auc_put3 (u0 := .int .i64 p) (u1 := .int .i64 (avV za zb n m p)) (u2 := .int .i64 (avG za zb n m p)) HK.out
          have HBZ := Lib.hid hBz
          clear hHeld hBz
          obtain ⟨e0, e1, e2, _, _, _⟩ := auc_cell3 r
          have HR := Lib.hid r
          clear r
          generalize (((v5.setCell ⟨w.heap.size, 0, none⟩ (.int .i64 p)).setCell ⟨w.heap.size, 1, none⟩ (.int .i64 (avV za zb n m p))).setCell ⟨w.heap.size, 2, none⟩ (.int .i64 (avG za zb n m p))) = wz at *
          go_wp2_with fail
          refine bodyPost_ret (v := .agg #[.int .i64 p, .int .i64 (avV za zb n m p), .int .i64 (avG za zb n m p)]) (by simp [results, Try.results32, go_sem, e0, e1, e2]) rfl ⟨.inr ⟨p, hbe.out, rfl⟩, HBZ.out⟩
    · have hh1 : 1 ≤ k / 2 := by omega
      have hh2 : k / 2 ≤ N := by omega
      have hh3 : k - k / 2 ≤ N := by omega
      have HIH : ∀ (D : Option Addr) (k' e' : Nat) (zs' : List Int) (w' : World), 1 ≤ k' → k' ≤ N → k' ≤ e' → e' ≤ maxLen → Lst w' w'.heap.size 4 D k' zs' → AuCap w' X1 X2 X3 A n c za B m d zb →
          Calls Try.prog 32 #[.slice D k' e', .pointer (some ⟨X1, 0, none⟩), .pointer (some ⟨X2, 0, none⟩), .pointer (some ⟨X3, 0, none⟩)] w' fun x w2 => (∃ r, AuBest (avV za zb n m) (avG za zb n m) zs' k' r ∧ x = .returned (.agg #[.int .i64 r, .int .i64 (avV za zb n m r), .int .i64 (avG za zb n m r)])) ∧ Below w'.heap.size w' w2 := fun D k' e' zs' w' g1 g2 g3 g4 g5 g6 => (ih D k' e' zs' w' g2 g3 g4 g5 g6).mono fun x w2 h => by
        obtain ⟨h | h, hb⟩ := h
        · omega
        · exact ⟨h, hb⟩
      have HI := Lib.hid HIH
      clear ih HIH
      obtain ⟨b, o, rfl, hb, _, _, _, _⟩ := hl.row4 (show 0 < k by omega)
      have hq1 : ¬ ((k : Int) = 0) := by omega
      have hq2 : ¬ ((k : Int) = 1) := by omega
      have hq3 : ((k : Int) == 0) = false := beq_eq_false_iff_ne.2 hq1
      have hq4 : ((k : Int) == 1) = false := beq_eq_false_iff_ne.2 hq2
      go_enter Try.func32, Try.ntmps32
      go_upto_region 7 with fail
      have hk1 : (w.alloc (.cells #[.int .i64 0, .int .i64 0, .int .i64 0] 67)).drew.heap[w.heap.size]? = some (.cells #[.int .i64 0, .int .i64 0, .int .i64 0] 67 (0, 0)) := hk0
      rw [show (k : Int) / 2 = ((k / 2 : Nat) : Int) by omega]
      have hkk : k / 2 < k := by omega
      generalize k / 2 = hf at *
      generalize w.alloc (.cells #[.int .i64 0, .int .i64 0, .int .i64 0] 67) = wq at *
      have g1 : (hf : Int) ≤ (k : Int) := by omega
      have g2 : (k : Int) ≤ (e : Int) := by omega
      have g3 : (hf : Int) ≤ (e : Int) := by omega
      have g4 : ¬ (e = hf) := by omega
      clear hq1 hq2 hq3 hq4
      refine wp_region_held_drew (S := (fun w' => Below w.heap.size w w')) (by kernel_rfl) ?hSm10 (fun hHeld => ?restm10)
      case hSm10 => exact hbw.drew
      refine wpAnyH_take (i := 0) (oi := ?oim11) (v := ?vm11) ?him11 (by kernel_rfl) (by kernel_rfl) (by kernel_rfl) ?hQm11 (Or.inl ⟨?hwm11, ?hym11⟩) (by assumption) ?restm11
      case him11 => simp only [List.getElem?_toArray, List.getElem?_cons_succ, List.getElem?_cons_zero]; exact rfl
      case hQm11 => exact fun _ _ _ h => h
      case hwm11 => rfl
      case hym11 => ((intro wS hSw; have t0 := (hSw.cell (p := ⟨X3, 0, none⟩) hC.l3).trans hC.x3; go_simp) <;> with_reducible rfl)
      try simp only [Act.put, List.setIfInBounds_toArray, List.set_cons_zero, List.set_cons_succ]
      refine wpAnyH_take (i := 1) (oi := ?oim12) (v := ?vm12) ?him12 (by kernel_rfl) (by kernel_rfl) (by kernel_rfl) ?hQm12 (Or.inl ⟨?hwm12, ?hym12⟩) (by assumption) ?restm12
      case him12 => simp only [List.getElem?_toArray, List.getElem?_cons_succ, List.getElem?_cons_zero]; exact rfl
      case hQm12 => exact fun _ _ _ h => h
      case hwm12 => rfl
      case hym12 => ((intro w hSw; (try dsimp only at hSw); go_simp) <;> with_reducible rfl)
      try simp only [Act.put, List.setIfInBounds_toArray, List.set_cons_zero, List.set_cons_succ]
      refine wpAnyH_take (i := 2) (oi := ?oim13) (v := ?vm13) ?him13 (by kernel_rfl) (by kernel_rfl) (by kernel_rfl) ?hQm13 (Or.inl ⟨?hwm13, ?hym13⟩) (by assumption) ?restm13
      case him13 => simp only [List.getElem?_toArray, List.getElem?_cons_succ, List.getElem?_cons_zero]; exact rfl
      case hQm13 => exact fun _ _ _ h => h
      case hwm13 => rfl
      case hym13 => ((intro w hSw; (try dsimp only at hSw); go_simp) <;> with_reducible rfl)
      try simp only [Act.put, List.setIfInBounds_toArray, List.set_cons_zero, List.set_cons_succ]
      refine wpAnyH_take (i := 3) (oi := ?oim14) (v := ?vm14) ?him14 (by kernel_rfl) (by kernel_rfl) (by kernel_rfl) ?hQm14 (Or.inl ⟨?hwm14, ?hym14⟩) (by assumption) ?restm14
      case him14 => simp only [List.getElem?_toArray, List.getElem?_cons_succ, List.getElem?_cons_zero]; exact rfl
      case hQm14 => exact fun _ _ _ h => h
      case hwm14 => rfl
      case hym14 => ((intro w hSw; (try dsimp only at hSw); go_simp) <;> with_reducible rfl)
      try simp only [Act.put, List.setIfInBounds_toArray, List.set_cons_zero, List.set_cons_succ]
      refine wpAnyH_take (i := 5) (oi := ?oim15) (v := ?vm15) ?him15 (by kernel_rfl) (by kernel_rfl) (by kernel_rfl) ?hQm15 (Or.inl ⟨?hwm15, ?hym15⟩) (by assumption) ?restm15
      case him15 => simp only [List.getElem?_toArray, List.getElem?_cons_succ, List.getElem?_cons_zero]; exact rfl
      case hQm15 => exact fun _ _ _ h => h
      case hwm15 => rfl
      case hym15 => ((intro wS hSw; have t0 := (hSw.cell (p := ⟨X3, 0, none⟩) hC.l3).trans hC.x3; go_simp) <;> with_reducible rfl)
      try simp only [Act.put, List.setIfInBounds_toArray, List.set_cons_zero, List.set_cons_succ]
      refine wpAnyH_take (i := 6) (oi := ?oim16) (v := ?vm16) ?him16 (by kernel_rfl) (by kernel_rfl) (by kernel_rfl) ?hQm16 (Or.inl ⟨?hwm16, ?hym16⟩) (by assumption) ?restm16
      case him16 => simp only [List.getElem?_toArray, List.getElem?_cons_succ, List.getElem?_cons_zero]; exact rfl
      case hQm16 => exact fun _ _ _ h => h
      case hwm16 => rfl
      case hym16 => ((intro w hSw; (try dsimp only at hSw); go_simp) <;> with_reducible rfl)
      try simp only [Act.put, List.setIfInBounds_toArray, List.set_cons_zero, List.set_cons_succ]
      refine wpAnyH_take (i := 7) (oi := ?oim17) (v := ?vm17) ?him17 (by kernel_rfl) (by kernel_rfl) (by kernel_rfl) ?hQm17 (Or.inl ⟨?hwm17, ?hym17⟩) (by assumption) ?restm17
      case him17 => simp only [List.getElem?_toArray, List.getElem?_cons_succ, List.getElem?_cons_zero]; exact rfl
      case hQm17 => exact fun _ _ _ h => h
      case hwm17 => rfl
      case hym17 => ((intro w hSw; (try dsimp only at hSw); go_simp) <;> with_reducible rfl)
      try simp only [Act.put, List.setIfInBounds_toArray, List.set_cons_zero, List.set_cons_succ]
      refine wpAnyH_take (i := 8) (oi := ?oim18) (v := ?vm18) ?him18 (by kernel_rfl) (by kernel_rfl) (by kernel_rfl) ?hQm18 (Or.inl ⟨?hwm18, ?hym18⟩) (by assumption) ?restm18
      case him18 => simp only [List.getElem?_toArray, List.getElem?_cons_succ, List.getElem?_cons_zero]; exact rfl
      case hQm18 => exact fun _ _ _ h => h
      case hwm18 => rfl
      case hym18 => ((intro w hSw; (try dsimp only at hSw); go_simp) <;> with_reducible rfl)
      try simp only [Act.put, List.setIfInBounds_toArray, List.set_cons_zero, List.set_cons_succ]
      refine wpAnyH_ready (rs := [4]) (by kernel_rfl) (by simp) ?_
      refine AllReadyH.cons (o := ?or19_4) ?hor19_4 (fun K hK => ?stepr19_4) (AllReadyH.nil)
      case hor19_4 => simp only [List.getElem?_toArray, List.getElem?_cons_succ, List.getElem?_cons_zero]; exact rfl
      case stepr19_4 =>
        go_simp
        refine (HI.out _ hf e (zs.take (hf * 4)) _ hh1 hh2 (by omega) hcm2 ((hl.later hHeld).takeA (by omega)) (hC.later hHeld)).mono ?_
        rintro x v5 ⟨⟨r1, hr1, rfl⟩, hb5⟩
        have hk5 := (hb5.block w.heap.size hlt0).trans hk1
        have hz5 := Nat.lt_of_lt_of_le hlt0 hb5.size
        have hB5 := Below.trans hHeld (hb5.mono (Below.size hHeld))
        refine hK.out _ _ ?hSr19_4 (fun hHeld => ?restr19_4)
        case hSr19_4 => exact hB5
        clear hK K
        try simp only [Act.put, List.setIfInBounds_toArray, List.set_cons_zero, List.set_cons_succ]
        refine wpAnyH_ready (rs := [9]) (by kernel_rfl) (by simp) ?_
        refine AllReadyH.cons (o := ?or20_9) ?hor20_9 (fun K hK => ?stepr20_9) (AllReadyH.nil)
        case hor20_9 => simp only [List.getElem?_toArray, List.getElem?_cons_succ, List.getElem?_cons_zero]; exact rfl
        case stepr20_9 =>
          go_simp
          refine (HI.out _ (k - hf) (e - hf) (zs.drop (hf * 4)) _ (by omega) hh3 (by omega) (by unfold maxLen; omega) ((hl.later hHeld).dropA (by omega)) (hC.later hHeld)).mono ?_
          rintro x v6 ⟨⟨r2, hr2, rfl⟩, hb6⟩
          have hk6 := (hb6.block w.heap.size hz5).trans hk5
          have hz6 := Nat.lt_of_lt_of_le hz5 hb6.size
          have hB6 := Below.trans hHeld (hb6.mono (Below.size hHeld))
          refine hK.out _ _ ?hSr20_9 (fun hHeld => ?restr20_9)
          case hSr20_9 => exact hB6
          clear hK K
          try simp only [Act.put, List.setIfInBounds_toArray, List.set_cons_zero, List.set_cons_succ]
          refine wpAnyH_ready (rs := [10]) (by kernel_rfl) (by simp) ?_
          refine AllReadyH.cons (o := ?or21_10) ?hor21_10 (fun K hK => ?stepr21_10) (AllReadyH.nil)
          case hor21_10 => simp only [List.getElem?_toArray, List.getElem?_cons_succ, List.getElem?_cons_zero]; exact rfl
          case stepr21_10 =>
            go_simp
            refine (impl_preferred _ _ _ _ _ _ _).mono ?_
            rw [pref_val]
            have HBE := Lib.hid (au_two (show hf ≤ k by omega) (au_take hr1) hr2)
            generalize (if keyB (avV za zb n m) (avG za zb n m) r2 r1 = true then r2 else r1) = rr at *
            rintro x v7 ⟨rfl, hb7⟩
            have hk7 := (hb7.block w.heap.size hz6).trans hk6
            have hB7 := Below.trans hHeld (hb7.mono (Below.size hHeld))
            refine hK.out _ _ ?hSr21_10 (fun hHeld => ?restr21_10)
            case hSr21_10 => exact hB7
            clear hK K
            try simp only [Act.put, List.setIfInBounds_toArray, List.set_cons_zero, List.set_cons_succ]
            refine wpAnyH_ready (rs := [11]) (by kernel_rfl) (by simp) ?_
            refine AllReadyH.cons (o := ?or22_11) ?hor22_11 (fun K hK => ?stepr22_11) (AllReadyH.nil)
            case hor22_11 => simp only [List.getElem?_toArray, List.getElem?_cons_succ, List.getElem?_cons_zero]; exact rfl
            case stepr22_11 =>
              obtain ⟨d0, d1, d2, f0, f1, f2⟩ := auc_cell3 hk7
              have HK := Lib.hid hk7
              have hBz := (((hB7.setCell (p := ⟨w.heap.size, 0, none⟩) (Nat.le_refl _) (.int .i64 rr)).setCell (p := ⟨w.heap.size, 1, none⟩) (Nat.le_refl _) (.int .i64 (avV za zb n m rr))).setCell (p := ⟨w.heap.size, 2, none⟩) (Nat.le_refl _) (.int .i64 (avG za zb n m rr)))
              go_simp
              refine hK.out _ _ ?hSr22_11 (fun hHeld => ?restr22_11)
              case hSr22_11 => exact hBz
              clear hK K
              try simp only [Act.put, List.setIfInBounds_toArray, List.set_cons_zero, List.set_cons_succ]
              refine wpAnyH_done (by kernel_rfl) ?_ _
              have r := auc_put3 (u0 := .int .i64 rr) (u1 := .int .i64 (avV za zb n m rr)) (u2 := .int .i64 (avG za zb n m rr)) HK.out
              have HBZ := Lib.hid hBz
              clear hHeld hBz
              obtain ⟨e0, e1, e2, _, _, _⟩ := auc_cell3 r
              have HR := Lib.hid r
              clear r
              generalize (((v7.setCell ⟨w.heap.size, 0, none⟩ (.int .i64 rr)).setCell ⟨w.heap.size, 1, none⟩ (.int .i64 (avV za zb n m rr))).setCell ⟨w.heap.size, 2, none⟩ (.int .i64 (avG za zb n m rr))) = wz at *
              go_wp2_with fail
              refine bodyPost_ret (v := .agg #[.int .i64 rr, .int .i64 (avV za zb n m rr), .int .i64 (avG za zb n m rr)]) (by simp [results, Try.results32, go_sem, e0, e1, e2]) rfl ⟨.inr ⟨rr, HBE.out, rfl⟩, HBZ.out⟩
end Go.Proofs.Ytfodkefaflpicab
