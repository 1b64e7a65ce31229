/-
  What an account would buy and sell, in both programs.
-/
import Derived.Test.YtmbafeiacaamoaaEngOk
namespace Go.Proofs.Ytmbafeiacaamoaa
open Go.RowKit Wire

/-- how much of the first k orders is of an account -/
def qtO (zs : List Int) (a : Int) : Nat → Int
  | 0 => 0
  | k + 1 => qtO zs a k + (if num zs (k * 4 + 1) = a then num zs (k * 4 + 3) else 0)
def QtyOk (zs : List Int) (n : Nat) : Prop := ∀ k, k < n → 0 ≤ num zs (k * 4 + 3) ∧ num zs (k * 4 + 3) ≤ 1000000
theorem qtO_in {zs : List Int} {a : Int} {n : Nat} (h : QtyOk zs n) : ∀ k, k ≤ n → 0 ≤ qtO zs a k ∧ qtO zs a k ≤ (k : Int) * 1000000
  | 0, _ => by simp [qtO]
  | k + 1, hk => by
    have h1 := qtO_in (a := a) h k (by omega)
    have h2 := h k (by omega)
    rw [qtO]
    split <;> omega
theorem allO_qty {zs : List Int} {n : Nat} (h : allO zs n = true) : QtyOk zs n := fun k hk => by
  have h1 := allO_at n k h hk
  rw [ordB_eq] at h1
  simp only [ordI, inB, Bool.and_eq_true, decide_eq_true_eq] at h1
  omega
theorem bookB_qty {za zb : List Int} {n m : Nat} (h : bookB za n zb m = true) : QtyOk za n ∧ QtyOk zb m := by
  unfold bookB sideB at h
  simp only [Bool.and_eq_true] at h
  exact ⟨allO_qty h.1.2.1, allO_qty h.2.1.2.1⟩
theorem bkTo_at {is : List Int} {m : Nat} {bs : List (List Int × List Int)} : ∀ n k, bkTo is m bs n = true → k < n → bkB is m (bs.getD k ([], [])) = true
  | 0, k, _, hk => absurd hk (Nat.not_lt_zero k)
  | n + 1, k, h, hk => by
    simp only [bkTo, Bool.and_eq_true] at h
    rcases Nat.lt_or_ge k n with hlt | hge
    · exact bkTo_at n k h.1 hlt
    · obtain rfl : k = n := by omega
      exact h.2
theorem qtO_yes {zs : List Int} {a : Int} {k : Nat} {t s q : Int} (h : qtO zs a k = t) (hc : num zs (k * 4 + 1) = a) (hq : num zs (k * 4 + 3) = q) (hs : t + q = s) : qtO zs a (k + 1) = s := by rw [qtO, h, if_pos hc, hq, hs]
theorem qtO_no {zs : List Int} {a : Int} {k : Nat} {t : Int} (h : qtO zs a k = t) (hc : ¬ num zs (k * 4 + 1) = a) : qtO zs a (k + 1) = t := by rw [qtO, h, if_neg hc]; omega
set_option maxHeartbeats 800000 in
set_option maxRecDepth 100000 in
theorem impl_qtyOf (A : Option Addr) (n c : Nat) (zs : List Int) (a : Int) (w : World) (hl : Lst w w.heap.size 4 A n zs) (hn : n ≤ 20) (hq : QtyOk zs n) :
    Calls Try.prog 34 #[.slice A n c, .int .i64 a] w fun e w' => e = .returned (.int .i64 (qtO zs a n)) ∧ Below w.heap.size w w' := by
  go_enter Try.func34, Try.ntmps34
  go_wp2_with fail
  go_loopw [5, 10] (fun qv i wr => ∃ (k : Nat) (t : Int), k ≤ n ∧ i = .int .i64 (k : Int) ∧ qv = .int .i64 t ∧ Hid (qtO zs a k = t) ∧ 0 ≤ t ∧ t ≤ 20000000 ∧ Below w.heap.size w wr) (fun _ i _ => n - (intOf i).toNat)
  case atStart => exact ⟨0, 0, Nat.zero_le _, rfl, rfl, rfl, by omega, by omega, Below.refl _ _⟩
  case round =>
    obtain ⟨k, t, hk, rfl, rfl, ht, ht0, ht1, hbel⟩ := hrel
    by_cases hlt : k < n
    · obtain ⟨b, o, rfl, hb, c0, c1, c2, c3⟩ := (hl.below hbel).row4 hlt
      have hqk := hq k hlt
      have htk := qtO_in (a := a) hq k (by omega)
      rw [ht.out] at htk
      have HY := Lib.hid (fun (s : Int) (h1 : num zs (k * 4 + 1) = a) (h2 : t + num zs (k * 4 + 3) = s) => qtO_yes ht.out h1 rfl h2)
      have HN := Lib.hid (fun (h1 : ¬ num zs (k * 4 + 1) = a) => qtO_no ht.out h1)
      have hba := hbel.alloc hbel.size (.cells #[.int .i64 (num zs (k * 4)), .int .i64 (num zs (k * 4 + 1)), .int .i64 (num zs (k * 4 + 2)), .int .i64 (num zs (k * 4 + 3))] 84)
      clear hl hq ht
      generalize num zs (k * 4) = y0 at *
      generalize num zs (k * 4 + 1) = y1 at *
      generalize num zs (k * 4 + 2) = y2 at *
      generalize num zs (k * 4 + 3) = y3 at *
      by_cases hya : y1 = a
      · have H := Lib.hid (HY.out (t + y3) hya rfl)
        clear HY HN
        subst hya
        go_wp2_with fail
        go_roundw
        case rel => exact ⟨k + 1, t + y3, by omega, by go_num, rfl, H, by omega, by omega, hba⟩
        case measure => simp [intOf]; omega
      · have H := Lib.hid (HN.out hya)
        have ty : (y1 == a) = false := beq_eq_false_iff_ne.2 hya
        clear HY HN
        go_wp2_with fail
        go_roundw
        case rel => exact ⟨k + 1, t, by omega, by go_num, rfl, H, by omega, by omega, hba⟩
        case measure => simp [intOf]; omega
    · obtain rfl : k = n := by omega
      go_wp2_with fail
      go_ret
      exact ⟨ret_int ht.out.symm, hbel⟩
set_option maxHeartbeats 1600000 in
set_option maxRecDepth 100000 in
theorem spec_l14Open (A : Option Addr) (n c : Nat) (B : Option Addr) (m d : Nat) (za zb : List Int) (a : Int) (w : World) (ha : Lst w w.heap.size 4 A n za) (hb : Lst w w.heap.size 4 B m zb) (hn : n ≤ 20) (hm : m ≤ 20) (hq : QtyOk za n) (hr : QtyOk zb m) :
    Calls Try.prog 30 #[.agg #[.slice A n c, .slice B m d], .int .i64 a] w fun e w' => e = .returned (.tuple #[.int .i64 (qtO za a n), .int .i64 (qtO zb a m)]) ∧ Below w.heap.size w w' := by
  have hb0 : Below w.heap.size w (w.alloc (.cells #[.slice A n c, .slice B m d] 58)) := (Below.refl _ _).alloc (Nat.le_refl _) _
  have k0 := heap_alloc_new w (.cells #[.slice A n c, .slice B m d] 58)
  have ha0 := ha.later hb0
  have hbb0 := hb.later hb0
  clear ha hb
  go_enter Try.func30, Try.ntmps30
  go_wp2_with fail
  generalize (w.alloc (.cells #[.slice A n c, .slice B m d] 58)) = w0 at *
  have x0 := cell_of_row w0 w.heap.size 0 _ _ (0, 0) k0
  have x1 := cell_of_row w0 w.heap.size 1 _ _ (0, 0) k0
  simp at x0 x1
  clear k0
  go_loop [6, 8] (fun qv i => ∃ (k : Nat) (t : Int), k ≤ n ∧ i = .int .i64 (k : Int) ∧ qv = .int .i64 t ∧ Hid (qtO za a k = t) ∧ 0 ≤ t ∧ t ≤ 20000000) (fun _ i => n - (intOf i).toNat)
  case atStart => exact ⟨0, 0, Nat.zero_le _, rfl, rfl, rfl, by omega, by omega⟩
  case round =>
    obtain ⟨k, t, hk, rfl, rfl, ht, ht0, ht1⟩ := hrel
    by_cases hlt : k < n
    · obtain ⟨b, o, rfl, hb, c0, c1, c2, c3⟩ := ha0.row4 hlt
      have hqk := hq k hlt
      have htk := qtO_in (a := a) hq k (by omega)
      rw [ht.out] at htk
      have HY := Lib.hid (fun (s : Int) (h1 : num za (k * 4 + 1) = a) (h2 : t + num za (k * 4 + 3) = s) => qtO_yes ht.out h1 rfl h2)
      have HN := Lib.hid (fun (h1 : ¬ num za (k * 4 + 1) = a) => qtO_no ht.out h1)
      clear ha0 hbb0 hq hr ht
      generalize num za (k * 4) = y0 at *
      generalize num za (k * 4 + 1) = y1 at *
      generalize num za (k * 4 + 2) = y2 at *
      generalize num za (k * 4 + 3) = y3 at *
      by_cases hya : y1 = a
      · have H := Lib.hid (HY.out (t + y3) hya rfl)
        clear HY HN
        subst hya
        go_wp2_with fail
        go_round
        case rel => exact ⟨k + 1, t + y3, by omega, by go_num, rfl, H, by omega, by omega⟩
        case measure => simp [intOf]; omega
      · have H := Lib.hid (HN.out hya)
        have ty : (y1 == a) = false := beq_eq_false_iff_ne.2 hya
        clear HY HN
        go_wp2_with fail
        go_round
        case rel => exact ⟨k + 1, t, by omega, by go_num, rfl, H, by omega, by omega⟩
        case measure => simp [intOf]; omega
    · obtain rfl : k = n := by omega
      have HT := ht
      clear ht
      go_wp2_with fail
      go_loop [7, 9] (fun qv i => ∃ (j : Nat) (s : Int), j ≤ m ∧ i = .int .i64 (j : Int) ∧ qv = .int .i64 s ∧ Hid (qtO zb a j = s) ∧ 0 ≤ s ∧ s ≤ 20000000) (fun _ i => m - (intOf i).toNat)
      case atStart => exact ⟨0, 0, Nat.zero_le _, rfl, rfl, rfl, by omega, by omega⟩
      case round =>
        obtain ⟨j, s, hj, rfl, rfl, hs, hs0, hs1⟩ := hrel
        by_cases hlt2 : j < m
        · obtain ⟨b, o, rfl, hb, c0, c1, c2, c3⟩ := hbb0.row4 hlt2
          have hqk := hr j hlt2
          have htk := qtO_in (a := a) hr j (by omega)
          rw [hs.out] at htk
          have HY := Lib.hid (fun (q : Int) (h1 : num zb (j * 4 + 1) = a) (h2 : s + num zb (j * 4 + 3) = q) => qtO_yes hs.out h1 rfl h2)
          have HN := Lib.hid (fun (h1 : ¬ num zb (j * 4 + 1) = a) => qtO_no hs.out h1)
          clear ha0 hbb0 hq hr hs
          generalize num zb (j * 4) = y0 at *
          generalize num zb (j * 4 + 1) = y1 at *
          generalize num zb (j * 4 + 2) = y2 at *
          generalize num zb (j * 4 + 3) = y3 at *
          by_cases hya : y1 = a
          · have H := Lib.hid (HY.out (s + y3) hya rfl)
            clear HY HN
            subst hya
            go_wp2_with fail
            go_round
            case rel => exact ⟨j + 1, s + y3, by omega, by go_num, rfl, H, by omega, by omega⟩
            case measure => simp [intOf]; omega
          · have H := Lib.hid (HN.out hya)
            have ty : (y1 == a) = false := beq_eq_false_iff_ne.2 hya
            clear HY HN
            go_wp2_with fail
            go_round
            case rel => exact ⟨j + 1, s, by omega, by go_num, rfl, H, by omega, by omega⟩
            case measure => simp [intOf]; omega
        · obtain rfl : j = m := by omega
          go_wp2_with fail
          refine bodyPost_ret (v := .tuple #[.int .i64 t, .int .i64 s]) (by simp [results, Try.results30, go_sem]) rfl ⟨by rw [HT.out, hs.out], hb0⟩
end Go.Proofs.Ytmbafeiacaamoaa
