/-
  What of an order is filled in a list of records, in both programs.
-/
import Derived.Test.YthmoddohkchhfaaListRec
namespace Go.Proofs.Ythmoddohkchhfaa
open Go.RowKit Wire

/-- record k of a list is right -/
def okAt (zs : List Int) (k : Nat) : Bool := recB (num zs (k * 8)) (num zs (k * 8 + 1)) (num zs (k * 8 + 2)) (num zs (k * 8 + 3)) (num zs (k * 8 + 4)) (num zs (k * 8 + 5)) (num zs (k * 8 + 6)) (num zs (k * 8 + 7))
/-- the first k records are right -/
def okTo (zs : List Int) : Nat → Bool
  | 0 => true
  | k + 1 => okTo zs k && okAt zs k
/-- record k fills the order -/
def fillAt (zs : List Int) (id : Int) (k : Nat) : Bool := (num zs (k * 8 + 1) == 3) && ((num zs (k * 8 + 4) == id) || (num zs (k * 8 + 5) == id))
/-- what the first k records fill -/
def sumTo (zs : List Int) (id : Int) : Nat → Int
  | 0 => 0
  | k + 1 => sumTo zs id k + if fillAt zs id k = true then num zs (k * 8 + 7) else 0
def filledI (zs : List Int) (n : Nat) (id : Int) : Int := if okTo zs n = true then sumTo zs id n else -1
theorem okTo_no {zs : List Int} {k : Nat} (h : okAt zs k = false) : ∀ n, k < n → okTo zs n = false
  | 0, hk => by omega
  | n + 1, hk => by
    rcases Nat.lt_or_ge k n with hlt | hge
    · simp [okTo, okTo_no h n hlt]
    · obtain rfl : k = n := by omega
      simp [okTo, h]
theorem okAt_qty {zs : List Int} {k : Nat} (h : okAt zs k = true) : 0 ≤ num zs (k * 8 + 7) ∧ num zs (k * 8 + 7) ≤ 1000000 := by
  have := rec_fits h
  omega
theorem okTo_step {zs : List Int} {k : Nat} (h : okTo zs k = true) (h1 : okAt zs k = true) : okTo zs (k + 1) = true := by simp [okTo, h, h1]
theorem okTo_at {zs : List Int} : ∀ n k, okTo zs n = true → k < n → okAt zs k = true
  | 0, k, _, hk => by omega
  | n + 1, k, h, hk => by
    simp only [okTo, Bool.and_eq_true] at h
    rcases Nat.lt_or_ge k n with hlt | hge
    · exact okTo_at n k h.1 hlt
    · obtain rfl : k = n := by omega
      exact h.2
theorem sumTo_le {zs : List Int} {id : Int} : ∀ k, okTo zs k = true → 0 ≤ sumTo zs id k ∧ sumTo zs id k ≤ 1000000 * k
  | 0, _ => by simp [sumTo]
  | k + 1, h => by
    simp only [okTo, Bool.and_eq_true] at h
    have h1 := sumTo_le (id := id) k h.1
    have h2 := okAt_qty h.2
    simp only [sumTo]
    split <;> omega
theorem filledI_no {zs : List Int} {n k : Nat} {id : Int} (h : okAt zs k = false) (hk : k < n) : filledI zs n id = -1 := by
  simp [filledI, okTo_no h n hk]
theorem filledI_yes {zs : List Int} {n : Nat} {id : Int} (h : okTo zs n = true) : filledI zs n id = sumTo zs id n := by
  simp [filledI, h]

set_option maxHeartbeats 1600000 in
set_option maxRecDepth 100000 in
theorem impl_recsOk (A : Option Addr) (n c : Nat) (zs : List Int) (w : World) (hl : Lst w w.heap.size 8 A n zs) (hn : n ≤ 1048576) :
    Calls Try.prog 135 #[.slice A n c] w fun e w' => e = .returned (.bool (okTo zs n)) ∧ Below w.heap.size w w' := by
  go_enter Try.func135, Try.ntmps135
  go_wp2_with fail
  go_loopw [7] (fun i wr => ∃ k : Nat, k ≤ n ∧ i = .int .i64 (k : Int) ∧ okTo zs k = true ∧ Below w.heap.size w wr) (fun i _ => n - (intOf i).toNat)
  case atStart => exact ⟨0, Nat.zero_le _, rfl, rfl, Below.refl _ _⟩
  case round =>
    obtain ⟨k, hk, rfl, hok, hbel⟩ := hrel
    by_cases hlt : k < n
    · obtain ⟨b, o, rfl, hb, c0, c1, c2, c3, c4, c5, c6, c7⟩ := (hl.below hbel).row8 hlt
      have hok2 := fun h => okTo_step (k := k) hok h
      have hno := fun h => @okTo_no zs k h n hlt
      have HA : Hid (okAt zs k = recB (num zs (k * 8)) (num zs (k * 8 + 1)) (num zs (k * 8 + 2)) (num zs (k * 8 + 3)) (num zs (k * 8 + 4)) (num zs (k * 8 + 5)) (num zs (k * 8 + 6)) (num zs (k * 8 + 7))) := Lib.hid rfl
      generalize num zs (k * 8) = z0 at *
      generalize num zs (k * 8 + 1) = z1 at *
      generalize num zs (k * 8 + 2) = z2 at *
      generalize num zs (k * 8 + 3) = z3 at *
      generalize num zs (k * 8 + 4) = z4 at *
      generalize num zs (k * 8 + 5) = z5 at *
      generalize num zs (k * 8 + 6) = z6 at *
      generalize num zs (k * 8 + 7) = z7 at *
      clear hl hok
      rcases Bool.eq_false_or_eq_true (okAt zs k) with hat | hat
      · have HO := Lib.hid (hok2 hat)
        have HR : Hid (recB z0 z1 z2 z3 z4 z5 z6 z7 = true) := Lib.hid (HA.out ▸ hat)
        clear hok2 hno hat HA
        go_wp2_with fail
        refine (impl_RecOk _ _ _ _ _ _ _ _ _).mono ?_
        rw [HR.out]
        rintro e w1 ⟨rfl, hb1⟩
        have hbel1 : Below w.heap.size w w1 := hbel.trans ((below_alloc hb1).mono hbel.size)
        clear hb1 hbel c0 c1 c2 c3 c4 c5 c6 c7
        go_wp2_with fail
        go_roundw
        case rel => exact ⟨k + 1, by omega, by go_num, HO.out, hbel1⟩
        case measure => simp [intOf]; omega
      · have hno := Lib.hid (hno hat)
        have HR : Hid (recB z0 z1 z2 z3 z4 z5 z6 z7 = false) := Lib.hid (HA.out ▸ hat)
        clear hok2 hat HA
        go_wp2_with fail
        refine (impl_RecOk _ _ _ _ _ _ _ _ _).mono ?_
        rw [HR.out]
        rintro e w1 ⟨rfl, hb1⟩
        go_wp2_with fail
        go_ret
        exact ⟨by rw [hno.out]; rfl, hbel.trans ((below_alloc hb1).mono hbel.size)⟩
    · obtain rfl : k = n := by omega
      have HN := Lib.hid hok
      clear hok hl
      go_wp2_with fail
      go_ret
      exact ⟨by rw [HN.out]; rfl, hbel⟩
/-- a record fills an order -/
def fillB (z1 z4 z5 id : Int) : Bool := (z1 == 3) && ((z4 == id) || (z5 == id))
theorem fillAt_eq (zs : List Int) (id : Int) (k : Nat) : fillAt zs id k = fillB (num zs (k * 8 + 1)) (num zs (k * 8 + 4)) (num zs (k * 8 + 5)) id := rfl
set_option maxHeartbeats 1600000 in
set_option maxRecDepth 100000 in
theorem impl_isFillOf (z0 z1 z2 z3 z4 z5 z6 z7 id : Int) (w : World) :
    Calls Try.prog 136 #[.agg #[.int .i64 z0, .int .i64 z1, .int .i64 z2, .int .i64 z3, .int .i64 z4, .int .i64 z5, .int .i64 z6, .int .i64 z7], .int .i64 id] w fun e w' => e = .returned (.bool (fillB z1 z4 z5 id)) ∧ Below w.heap.size w w' := by
  unfold fillB
  rcases Bool.eq_false_or_eq_true (z1 == 3) with t1 | t1
  · rcases Bool.eq_false_or_eq_true (z4 == id) with t2 | t2
    · go_enter Try.func136, Try.ntmps136
      go_wp2_with fail
      go_ret
      exact ⟨by simp [t1, t2], by go_grown⟩
    · rcases Bool.eq_false_or_eq_true (z5 == id) with t3 | t3
      all_goals
        go_enter Try.func136, Try.ntmps136
        go_wp2_with fail
        go_ret
        exact ⟨by simp [t1, t2, t3], by go_grown⟩
  · go_enter Try.func136, Try.ntmps136
    go_wp2_with fail
    go_ret
    exact ⟨by simp [t1], by go_grown⟩
set_option maxHeartbeats 1600000 in
set_option maxRecDepth 100000 in
theorem impl_Filled (A : Option Addr) (n c : Nat) (zs : List Int) (id : Int) (w : World) (hl : Lst w w.heap.size 8 A n zs) (hn : n ≤ 1048576) :
    Calls Try.prog 92 #[.slice A n c, .int .i64 id] w fun e w' => e = .returned (.int .i64 (filledI zs n id)) ∧ Below w.heap.size w w' := by
  rcases Bool.eq_false_or_eq_true (okTo zs n) with hall | hall
  · have HN := Lib.hid (filledI_yes (id := id) hall)
    have Hall := Lib.hid (fun k => okTo_at n k hall)
    have Hn := Lib.hid hall
    clear hall
    go_enter Try.func92, Try.ntmps92
    go_wp2_with fail
    refine (impl_recsOk _ _ _ zs _ hl hn).mono ?_
    rw [Hn.out]
    rintro e w0 ⟨rfl, hb0⟩
    go_wp2_with fail
    go_loopw [5, 13] (fun s i wr => ∃ k : Nat, k ≤ n ∧ i = .int .i64 (k : Int) ∧ s = .int .i64 (sumTo zs id k) ∧ okTo zs k = true ∧ Below w.heap.size w wr) (fun _ i _ => n - (intOf i).toNat)
    case atStart => exact ⟨0, Nat.zero_le _, rfl, rfl, rfl, hb0⟩
    case round =>
      obtain ⟨k, hk, rfl, rfl, hok, hbel⟩ := hrel
      by_cases hlt : k < n
      · obtain ⟨b, o, rfl, hb, c0, c1, c2, c3, c4, c5, c6, c7⟩ := (hl.below hbel).row8 hlt
        have HS := Lib.hid (show sumTo zs id (k + 1) = sumTo zs id k + if fillAt zs id k = true then num zs (k * 8 + 7) else 0 from rfl)
        have HF := Lib.hid (fillAt_eq zs id k)
        have hs := sumTo_le (id := id) k hok
        have hat := Hall.out k hlt
        have HO := Lib.hid (okTo_step (k := k) hok hat)
        have hq := okAt_qty hat
        generalize num zs (k * 8) = z0 at *
        generalize num zs (k * 8 + 1) = z1 at *
        generalize num zs (k * 8 + 2) = z2 at *
        generalize num zs (k * 8 + 3) = z3 at *
        generalize num zs (k * 8 + 4) = z4 at *
        generalize num zs (k * 8 + 5) = z5 at *
        generalize num zs (k * 8 + 6) = z6 at *
        generalize num zs (k * 8 + 7) = z7 at *
        clear hl hok hat Hall hb0
        rcases Bool.eq_false_or_eq_true (fillB z1 z4 z5 id) with t1 | t1
        all_goals
          have T1 := Lib.hid t1
          clear t1
          go_wp2_with fail
          refine (impl_isFillOf _ _ _ _ _ _ _ _ _ _).mono ?_
          rw [T1.out]
          rintro e w1 ⟨rfl, hb1⟩
          have e7 := box_cell hb1 7
          simp at e7
          have hbel1 : Below w.heap.size w w1 := hbel.trans ((below_alloc hb1).mono hbel.size)
          clear hb1 hbel c0 c1 c2 c3 c4 c5 c6 c7
          go_wp2_with fail
          go_roundw
          case rel => exact ⟨k + 1, by omega, by go_num, by rw [HS.out, HF.out, T1.out]; simp, HO.out, hbel1⟩
          case measure => simp [intOf]; omega
      · obtain rfl : k = n := by omega
        clear hok hl
        go_wp2_with fail
        go_ret
        exact ⟨by rw [HN.out]; rfl, hbel⟩
  · have HN : Hid (filledI zs n id = -1) := Lib.hid (by simp [filledI, hall])
    have Hn := Lib.hid hall
    clear hall
    go_enter Try.func92, Try.ntmps92
    go_wp2_with fail
    refine (impl_recsOk _ _ _ zs _ hl hn).mono ?_
    rw [Hn.out]
    rintro e w0 ⟨rfl, hb0⟩
    go_wp2_with fail
    go_ret
    exact ⟨by rw [HN.out]; rfl, hb0⟩
set_option maxHeartbeats 1600000 in
set_option maxRecDepth 100000 in
theorem l3Filled_any (A : Option Addr) (n c : Nat) (zs : List Int) (id : Int) (w : World) (hl : Lst w w.heap.size 8 A n zs) (hn : n ≤ 1048576) (hok : okTo zs n = true) :
    Calls Try.prog 134 #[.slice A n c, .int .i64 id] w fun e w' => e = .returned (.int .i64 (sumTo zs id n)) ∧ Below w.heap.size w w' := by
  have hall := Lib.hid (fun k => okTo_at n k hok)
  clear hok
  go_enter Try.func134, Try.ntmps134
  go_wp2_with fail
  go_loopw [5, 6] (fun s i wr => ∃ k : Nat, k ≤ n ∧ i = .int .i64 (k : Int) ∧ s = .int .i64 (sumTo zs id k) ∧ okTo zs k = true ∧ Below w.heap.size w wr) (fun _ i _ => n - (intOf i).toNat)
  case atStart => exact ⟨0, Nat.zero_le _, rfl, rfl, rfl, Below.refl _ _⟩
  case round =>
    obtain ⟨k, hk, rfl, rfl, hok, hbel⟩ := hrel
    by_cases hlt : k < n
    · obtain ⟨b, o, rfl, hb, c0, c1, c2, c3, c4, c5, c6, c7⟩ := (hl.below hbel).row8 hlt
      have HS := Lib.hid (show sumTo zs id (k + 1) = sumTo zs id k + if fillAt zs id k = true then num zs (k * 8 + 7) else 0 from rfl)
      have HF := Lib.hid (show fillAt zs id k = ((num zs (k * 8 + 1) == 3) && ((num zs (k * 8 + 4) == id) || (num zs (k * 8 + 5) == id))) from rfl)
      have hs := sumTo_le (id := id) k hok
      have hat := hall.out k hlt
      have HO := Lib.hid (okTo_step (k := k) hok hat)
      have hq := @okAt_qty zs k hat
      generalize num zs (k * 8) = z0 at *
      generalize num zs (k * 8 + 1) = z1 at *
      generalize num zs (k * 8 + 2) = z2 at *
      generalize num zs (k * 8 + 3) = z3 at *
      generalize num zs (k * 8 + 4) = z4 at *
      generalize num zs (k * 8 + 5) = z5 at *
      generalize num zs (k * 8 + 6) = z6 at *
      generalize num zs (k * 8 + 7) = z7 at *
      clear hl hok hat hall
      rcases Bool.eq_false_or_eq_true (z1 == 3) with t1 | t1
      · rcases Bool.eq_false_or_eq_true (z4 == id) with t2 | t2
        · go_wp2_with fail
          go_roundw
          case rel => exact ⟨k + 1, by omega, by go_num, by rw [HS.out, HF.out]; simp [t1, t2], HO.out, hbel⟩
          case measure => simp [intOf]; omega
        · rcases Bool.eq_false_or_eq_true (z5 == id) with t3 | t3
          · go_wp2_with fail
            go_roundw
            case rel => exact ⟨k + 1, by omega, by go_num, by rw [HS.out, HF.out]; simp [t1, t2, t3], HO.out, hbel⟩
            case measure => simp [intOf]; omega
          · go_wp2_with fail
            go_roundw
            case rel => exact ⟨k + 1, by omega, by go_num, by rw [HS.out, HF.out]; simp [t1, t2, t3], HO.out, hbel⟩
            case measure => simp [intOf]; omega
      · go_wp2_with fail
        go_roundw
        case rel => exact ⟨k + 1, by omega, by go_num, by rw [HS.out, HF.out]; simp [t1], HO.out, hbel⟩
        case measure => simp [intOf]; omega
    · obtain rfl : k = n := by omega
      go_wp2_with fail
      go_ret
      exact ⟨rfl, hbel⟩
end Go.Proofs.Ythmoddohkchhfaa
