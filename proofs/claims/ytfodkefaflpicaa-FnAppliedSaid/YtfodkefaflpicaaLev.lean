/-
  Levels: when a list of them is right, in both programs.
-/
import Derived.Test.YtfodkefaflpicaaNum
import Derived.Test.YtfodkefaflpicaaPod
import Derived.Deep.Cut
import Derived.Deep.CutBlock
namespace Go.Proofs.Ytfodkefaflpicaa
open Go.RowKit Wire

def sdB (side : Int) : Bool := decide (side = 1) || decide (side = 2)
def ahdB (side a b : Int) : Bool := if side = 1 then decide (b < a) else decide (a < b)
/-- a level: price, quantity, how many -/
def lvI (p q m : Int) : Bool := inB 1 p 1000000 && (inB 1 m 20 && inB m q 20000000)
def lvAt (zs : List Int) (k : Nat) : Bool := lvI (num zs (k * 3)) (num zs (k * 3 + 1)) (num zs (k * 3 + 2))
/-- the first levels are right and stand in order -/
def lvTo (side : Int) (zs : List Int) : Nat → Bool
  | 0 => true
  | k + 1 => lvTo side zs k && (lvAt zs k && (decide (k = 0) || ahdB side (num zs ((k - 1) * 3)) (num zs (k * 3))))
def lvsB (side : Int) (zs : List Int) (n : Nat) : Bool := sdB side && (decide (n ≤ 40) && lvTo side zs n)
theorem lvTo_no {side : Int} {zs : List Int} {k : Nat} (h : (lvAt zs k && (decide (k = 0) || ahdB side (num zs ((k - 1) * 3)) (num zs (k * 3)))) = false) : ∀ n, k < n → lvTo side zs n = false
  | 0, hk => absurd hk (Nat.not_lt_zero k)
  | n + 1, hk => by
    rw [lvTo]
    rcases Nat.lt_or_ge k n with hlt | hge
    · rw [lvTo_no h n hlt]; rfl
    · obtain rfl : k = n := by omega
      rw [h, Bool.and_false]
theorem lvTo_step {side : Int} {zs : List Int} {k : Nat} (h : lvTo side zs k = true) (h1 : lvAt zs k = true) (h2 : k = 0 ∨ ahdB side (num zs ((k - 1) * 3)) (num zs (k * 3)) = true) : lvTo side zs (k + 1) = true := by
  rw [lvTo, h, h1]
  rcases h2 with h2 | h2 <;> simp [h2]
theorem lvTo_at {side : Int} {zs : List Int} : ∀ n k, lvTo side zs n = true → k < n → lvAt zs k = true
  | 0, k, _, hk => absurd hk (Nat.not_lt_zero k)
  | n + 1, k, h, hk => by
    simp only [lvTo, Bool.and_eq_true] at h
    rcases Nat.lt_or_ge k n with hlt | hge
    · exact lvTo_at n k h.1 hlt
    · obtain rfl : k = n := by omega
      exact h.2.1
theorem lvsB_no {side : Int} {zs : List Int} {n : Nat} (h : lvTo side zs n = false) : lvsB side zs n = false := by simp [lvsB, h]
theorem lev_sideOk (side : Int) (w : World) :
    Calls Try.prog 49 #[.int .i64 side] w fun e w' => e = .returned (.bool (sdB side)) ∧ w = w' := by
  unfold sdB
  by_cases h1 : side = 1
  · subst h1
    go_enter Try.func49, Try.ntmps49
    go_wp2_with fail
    go_ret
    exact ⟨rfl, rfl⟩
  · have t1 : (side == 1) = false := beq_eq_false_iff_ne.2 h1
    by_cases h2 : side = 2
    · subst h2
      go_enter Try.func49, Try.ntmps49
      go_wp2_with fail
      go_ret
      exact ⟨rfl, rfl⟩
    · have t2 : (side == 2) = false := beq_eq_false_iff_ne.2 h2
      go_enter Try.func49, Try.ntmps49
      go_wp2_with fail
      go_ret
      exact ⟨by simp [h1, h2], rfl⟩
theorem lev_isSide (side : Int) (w : World) :
    Calls Try.prog 108 #[.int .i64 side] w fun e w' => e = .returned (.bool (sdB side)) ∧ w = w' := by
  have h : inB 1 side 2 = sdB side := by
    unfold inB sdB
    rw [Bool.eq_iff_iff]
    simp
    omega
  go_enter Try.func108, Try.ntmps108
  go_wp2_with (go_at_call 69; refine (l1In_any _ _ _ _).mono ?_; rintro e w' ⟨rfl, rfl⟩)
  go_ret
  exact ⟨rfl, rfl⟩
theorem lev_better (side a b : Int) (w : World) :
    Calls Try.prog 73 #[.int .i64 side, .int .i64 a, .int .i64 b] w fun x w' => x = .returned (.bool (ahdB side a b)) ∧ w = w' := by
  unfold ahdB
  by_cases h : side = 1
  · subst h
    rw [if_pos rfl]
    go_enter Try.func73, Try.ntmps73
    go_wp2_with fail
    go_ret
    exact ⟨rfl, rfl⟩
  · rw [if_neg h]
    have t : (side == 1) = false := beq_eq_false_iff_ne.2 h
    go_enter Try.func73, Try.ntmps73
    go_wp2_with fail
    go_ret
    exact ⟨rfl, rfl⟩
theorem lev_ahead (side a b : Int) (w : World) :
    Calls Try.prog 116 #[.int .i64 side, .int .i64 a, .int .i64 b] w fun x w' => x = .returned (.bool (ahdB side a b)) ∧ w = w' := by
  unfold ahdB
  by_cases h : side = 1
  · subst h
    rw [if_pos rfl]
    go_enter Try.func116, Try.ntmps116
    go_wp2_with fail
    go_ret
    exact ⟨rfl, rfl⟩
  · rw [if_neg h]
    have t : (side == 1) = false := beq_eq_false_iff_ne.2 h
    go_enter Try.func116, Try.ntmps116
    go_wp2_with fail
    go_ret
    exact ⟨rfl, rfl⟩
set_option maxHeartbeats 800000 in
set_option maxRecDepth 100000 in
theorem lev_spec (p q m : Int) (w : World) :
    Calls Try.prog 70 #[.agg #[.int .i64 p, .int .i64 q, .int .i64 m]] w fun x w' => x = .returned (.bool (lvI p q m)) ∧ Below w.heap.size w w' := by
  go_enter Try.func70, Try.ntmps70
  go_wp2_with (go_at_call 69; refine (l1In_any _ _ _ _).mono ?_; rintro e w' ⟨rfl, rfl⟩)
  all_goals
    go_ret
    refine ⟨ret_bool ?_, (Below.refl _ _).alloc (Nat.le_refl _) _⟩
    simp [lvI, *]
set_option maxHeartbeats 800000 in
set_option maxRecDepth 100000 in
theorem lev_impl (p q m : Int) (w : World) :
    Calls Try.prog 72 #[.agg #[.int .i64 p, .int .i64 q, .int .i64 m]] w fun x w' => x = .returned (.bool (lvI p q m)) ∧ Below w.heap.size w w' := by
  go_enter Try.func72, Try.ntmps72
  go_wp2_with (go_at_call 50; refine (within_any _ _ _ _).mono ?_; rintro e w' ⟨rfl, rfl⟩)
  all_goals
    go_ret
    refine ⟨ret_bool ?_, (Below.refl _ _).alloc (Nat.le_refl _) _⟩
    simp [lvI, *]
set_option linter.unusedSimpArgs false in
set_option maxHeartbeats 3200000 in
set_option maxRecDepth 100000 in
theorem spec_LevelsOk (A : Option Addr) (n c : Nat) (zs : List Int) (side : Int) (w : World) (hl : Lst w w.heap.size 3 A n zs) (hn : n ≤ 1048576) :
    Calls Try.prog 64 #[.slice A n c, .int .i64 side] w fun e w' => e = .returned (.bool (lvsB side zs n)) ∧ Below w.heap.size w w' := by
  go_enter Try.func64, Try.ntmps64
  go_wp2_with fail
  go_loopw [5] (fun i wr => ∃ k : Nat, k ≤ n ∧ i = .int .i64 (k : Int) ∧ lvTo side zs k = true ∧ Below w.heap.size w wr) (fun i _ => n - (intOf i).toNat)
  case atStart => exact ⟨0, Nat.zero_le _, rfl, rfl, Below.refl _ _⟩
  case round =>
    obtain ⟨k, hk, rfl, hok, hbel⟩ := hrel
    have HL := Lib.hid hok
    have HB := Lib.hid hbel
    clear hok
    by_cases hlt : k < n
    · rcases Bool.eq_false_or_eq_true (lvAt zs k) with hat | hat
      · have HO := Lib.hid hat
        have hOB : lvI (num zs (k * 3)) (num zs (k * 3 + 1)) (num zs (k * 3 + 2)) = true := hat
        clear hat
        rcases k with _ | j
        · obtain ⟨b, o, rfl, hb, c0, c1, c2⟩ := (hl.below hbel).row3 hlt
          have hbw : b < wr.heap.size := Nat.lt_of_lt_of_le hb hbel.size
          simp at c0 c1 c2
          replace hOB : lvI (num zs 0) (num zs 1) (num zs 2) = true := hOB
          clear hbel
          go_upto_region 4 with fail
          refine wp_region_held_drew (S := (fun w' => Below wr.heap.size wr w' ∧ w'.cell? ⟨b, o, none⟩ = some (.int .i64 (num zs 0)) ∧ w'.cell? ⟨b, o + 1, none⟩ = some (.int .i64 (num zs 1)) ∧ w'.cell? ⟨b, o + 2, none⟩ = some (.int .i64 (num zs 2)))) (by kernel_rfl) ?hSq1xs (fun hHeld => ?restq1xs)
          case hSq1xs => ((first | assumption | ((((try dsimp only); repeat' apply And.intro) <;> (first | assumption | (refine below_later ?_ (by assumption); first | assumption | (simp only [*]; done) | (go_grown; done)) | (refine cell_later (by assumption) ?_; first | assumption | (simp only [*]; done) | (simp [go_sem]; done)) | (go_grown; done) | (simp [go_sem]; done))))))
          refine wpAnyH_take (i := 0) (oi := ?oiq1x1) (v := ?vq1x1) ?hiq1x1 (by kernel_rfl) (by kernel_rfl) (by kernel_rfl) ?hQq1x1 (Or.inl ⟨?hwq1x1, ?hyq1x1⟩) (by assumption) ?restq1x1
          case hiq1x1 => simp only [List.getElem?_toArray, List.getElem?_cons_succ, List.getElem?_cons_zero]; exact rfl
          case hQq1x1 => exact fun _ _ _ h => h
          case hwq1x1 => rfl
          case hyq1x1 => ((intro w hSw; (try dsimp only at hSw); go_simp) <;> with_reducible rfl)
          try simp only [Act.put, List.setIfInBounds_toArray, List.set_cons_zero, List.set_cons_succ]
          refine wpAnyH_take (i := 1) (oi := ?oiq1x2) (v := ?vq1x2) ?hiq1x2 (by kernel_rfl) (by kernel_rfl) (by kernel_rfl) ?hQq1x2 (Or.inl ⟨?hwq1x2, ?hyq1x2⟩) (by assumption) ?restq1x2
          case hiq1x2 => simp only [List.getElem?_toArray, List.getElem?_cons_succ, List.getElem?_cons_zero]; exact rfl
          case hQq1x2 => exact fun _ _ _ h => h
          case hwq1x2 => rfl
          case hyq1x2 => ((intro w hSw; (try dsimp only at hSw); go_simp) <;> with_reducible rfl)
          try simp only [Act.put, List.setIfInBounds_toArray, List.set_cons_zero, List.set_cons_succ]
          refine wpAnyH_take (i := 2) (oi := ?oiq1x3) (v := ?vq1x3) ?hiq1x3 (by kernel_rfl) (by kernel_rfl) (by kernel_rfl) ?hQq1x3 (Or.inl ⟨?hwq1x3, ?hyq1x3⟩) (by assumption) ?restq1x3
          case hiq1x3 => simp only [List.getElem?_toArray, List.getElem?_cons_succ, List.getElem?_cons_zero]; exact rfl
          case hQq1x3 => exact fun _ _ _ h => h
          case hwq1x3 => rfl
          case hyq1x3 => ((intro w hSw; (try dsimp only at hSw); go_simp) <;> with_reducible rfl)
          try simp only [Act.put, List.setIfInBounds_toArray, List.set_cons_zero, List.set_cons_succ]
          refine wpAnyH_take (i := 3) (oi := ?oiq1x4) (v := ?vq1x4) ?hiq1x4 (by kernel_rfl) (by kernel_rfl) (by kernel_rfl) ?hQq1x4 (Or.inl ⟨?hwq1x4, ?hyq1x4⟩) (by assumption) ?restq1x4
          case hiq1x4 => simp only [List.getElem?_toArray, List.getElem?_cons_succ, List.getElem?_cons_zero]; exact rfl
          case hQq1x4 => exact fun _ _ _ h => h
          case hwq1x4 => rfl
          case hyq1x4 => ((intro w hSw; (try dsimp only at hSw); go_simp) <;> with_reducible rfl)
          try simp only [Act.put, List.setIfInBounds_toArray, List.set_cons_zero, List.set_cons_succ]
          refine wpAnyH_ready (rs := [4]) (by kernel_rfl) (by simp) ?_
          refine AllReadyH.cons (o := ?oq1x5) ?hoq1x5 (fun K hK => ?stepq1x5) ?moreq1x5
          case hoq1x5 => simp only [List.getElem?_toArray, List.getElem?_cons_succ, List.getElem?_cons_zero]; exact rfl
          case moreq1x5 => exact AllReadyH.nil
          go_simp
          (go_at_call 70; refine (lev_spec _ _ _ _).mono ?_; rw [hOB]; rintro e w' ⟨rfl, hb⟩)
          refine hK.out _ _ ?hSq1x5 (fun hHeld => ?restq1x5)
          case hSq1x5 => ((first | assumption | ((((try dsimp only); repeat' apply And.intro) <;> (first | assumption | (refine below_later ?_ (by assumption); first | assumption | (simp only [*]; done) | (go_grown; done)) | (refine cell_later (by assumption) ?_; first | assumption | (simp only [*]; done) | (simp [go_sem]; done)) | (go_grown; done) | (simp [go_sem]; done))))))
          clear hK K
          try simp only [Act.put, List.setIfInBounds_toArray, List.set_cons_zero, List.set_cons_succ]
          refine wpAnyH_take (i := 5) (oi := ?oiq1x6) (v := ?vq1x6) ?hiq1x6 (by kernel_rfl) (by kernel_rfl) (by kernel_rfl) ?hQq1x6 (Or.inl ⟨?hwq1x6, ?hyq1x6⟩) (by assumption) ?restq1x6
          case hiq1x6 => simp only [List.getElem?_toArray, List.getElem?_cons_succ, List.getElem?_cons_zero]; exact rfl
          case hQq1x6 => exact fun _ _ _ h => h
          case hwq1x6 => rfl
          case hyq1x6 => ((intro w hSw; (try dsimp only at hSw); go_simp) <;> with_reducible rfl)
          try simp only [Act.put, List.setIfInBounds_toArray, List.set_cons_zero, List.set_cons_succ]
          refine wpAnyH_take (i := 6) (oi := ?oiq1x7) (v := ?vq1x7) ?hiq1x7 (by kernel_rfl) (by kernel_rfl) (by kernel_rfl) ?hQq1x7 (Or.inl ⟨?hwq1x7, ?hyq1x7⟩) (by assumption) ?restq1x7
          case hiq1x7 => simp only [List.getElem?_toArray, List.getElem?_cons_succ, List.getElem?_cons_zero]; exact rfl
          case hQq1x7 => exact fun _ _ _ h => h
          case hwq1x7 => rfl
          case hyq1x7 => ((intro w hSw; (try dsimp only at hSw); go_simp) <;> with_reducible rfl)
          try simp only [Act.put, List.setIfInBounds_toArray, List.set_cons_zero, List.set_cons_succ]
          refine wpAnyH_take (i := 7) (oi := ?oiq1x8) (v := ?vq1x8) ?hiq1x8 (by kernel_rfl) (by kernel_rfl) (by kernel_rfl) ?hQq1x8 (Or.inl ⟨?hwq1x8, ?hyq1x8⟩) (by assumption) ?restq1x8
          case hiq1x8 => simp only [List.getElem?_toArray, List.getElem?_cons_succ, List.getElem?_cons_zero]; exact rfl
          case hQq1x8 => exact fun _ _ _ h => h
          case hwq1x8 => rfl
          case hyq1x8 => ((intro w hSw; (try dsimp only at hSw); go_simp) <;> with_reducible rfl)
          try simp only [Act.put, List.setIfInBounds_toArray, List.set_cons_zero, List.set_cons_succ]
          refine wpAnyH_take (i := 8) (oi := ?oiq1x9) (v := ?vq1x9) ?hiq1x9 (by kernel_rfl) (by kernel_rfl) (by kernel_rfl) ?hQq1x9 (Or.inl ⟨?hwq1x9, ?hyq1x9⟩) (by assumption) ?restq1x9
          case hiq1x9 => simp only [List.getElem?_toArray, List.getElem?_cons_succ, List.getElem?_cons_zero]; exact rfl
          case hQq1x9 => exact fun _ _ _ h => h
          case hwq1x9 => rfl
          case hyq1x9 => ((intro w hSw; (try dsimp only at hSw); go_simp) <;> with_reducible rfl)
          try simp only [Act.put, List.setIfInBounds_toArray, List.set_cons_zero, List.set_cons_succ]
          refine wpAnyH_take (i := 9) (oi := ?oiq1x10) (v := ?vq1x10) ?hiq1x10 (by kernel_rfl) (by kernel_rfl) (by kernel_rfl) ?hQq1x10 (Or.inl ⟨?hwq1x10, ?hyq1x10⟩) (by assumption) ?restq1x10
          case hiq1x10 => simp only [List.getElem?_toArray, List.getElem?_cons_succ, List.getElem?_cons_zero]; exact rfl
          case hQq1x10 => exact fun _ _ _ h => h
          case hwq1x10 => rfl
          case hyq1x10 => ((intro w hSw; (try dsimp only at hSw); go_simp) <;> with_reducible rfl)
          try simp only [Act.put, List.setIfInBounds_toArray, List.set_cons_zero, List.set_cons_succ]
          refine wpAnyH_take (i := 10) (oi := ?oiq1x11) (v := _) ?hiq1x11 (by kernel_rfl) (by kernel_rfl) (by kernel_rfl) ?hQq1x11 (Or.inr ⟨?hwq1x11, rfl⟩) (by assumption) ?restq1x11
          case hiq1x11 => simp only [List.getElem?_toArray, List.getElem?_cons_succ, List.getElem?_cons_zero]; exact rfl
          case hQq1x11 => exact fun _ _ _ h => h
          case hwq1x11 => rfl
          try simp only [Act.put, List.setIfInBounds_toArray, List.set_cons_zero, List.set_cons_succ]
          refine wpAnyH_take (i := 11) (oi := ?oiq1x12) (v := _) ?hiq1x12 (by kernel_rfl) (by kernel_rfl) (by kernel_rfl) ?hQq1x12 (Or.inr ⟨?hwq1x12, rfl⟩) (by assumption) ?restq1x12
          case hiq1x12 => simp only [List.getElem?_toArray, List.getElem?_cons_succ, List.getElem?_cons_zero]; exact rfl
          case hQq1x12 => exact fun _ _ _ h => h
          case hwq1x12 => rfl
          try simp only [Act.put, List.setIfInBounds_toArray, List.set_cons_zero, List.set_cons_succ]
          refine wpAnyH_take (i := 12) (oi := ?oiq1x13) (v := _) ?hiq1x13 (by kernel_rfl) (by kernel_rfl) (by kernel_rfl) ?hQq1x13 (Or.inr ⟨?hwq1x13, rfl⟩) (by assumption) ?restq1x13
          case hiq1x13 => simp only [List.getElem?_toArray, List.getElem?_cons_succ, List.getElem?_cons_zero]; exact rfl
          case hQq1x13 => exact fun _ _ _ h => h
          case hwq1x13 => rfl
          try simp only [Act.put, List.setIfInBounds_toArray, List.set_cons_zero, List.set_cons_succ]
          refine wpAnyH_take (i := 13) (oi := ?oiq1x14) (v := _) ?hiq1x14 (by kernel_rfl) (by kernel_rfl) (by kernel_rfl) ?hQq1x14 (Or.inr ⟨?hwq1x14, rfl⟩) (by assumption) ?restq1x14
          case hiq1x14 => simp only [List.getElem?_toArray, List.getElem?_cons_succ, List.getElem?_cons_zero]; exact rfl
          case hQq1x14 => exact fun _ _ _ h => h
          case hwq1x14 => rfl
          try simp only [Act.put, List.setIfInBounds_toArray, List.set_cons_zero, List.set_cons_succ]
          refine wpAnyH_take (i := 14) (oi := ?oiq1x15) (v := _) ?hiq1x15 (by kernel_rfl) (by kernel_rfl) (by kernel_rfl) ?hQq1x15 (Or.inr ⟨?hwq1x15, rfl⟩) (by assumption) ?restq1x15
          case hiq1x15 => simp only [List.getElem?_toArray, List.getElem?_cons_succ, List.getElem?_cons_zero]; exact rfl
          case hQq1x15 => exact fun _ _ _ h => h
          case hwq1x15 => rfl
          try simp only [Act.put, List.setIfInBounds_toArray, List.set_cons_zero, List.set_cons_succ]
          refine wpAnyH_take (i := 15) (oi := ?oiq1x16) (v := _) ?hiq1x16 (by kernel_rfl) (by kernel_rfl) (by kernel_rfl) ?hQq1x16 (Or.inr ⟨?hwq1x16, rfl⟩) (by assumption) ?restq1x16
          case hiq1x16 => simp only [List.getElem?_toArray, List.getElem?_cons_succ, List.getElem?_cons_zero]; exact rfl
          case hQq1x16 => exact fun _ _ _ h => h
          case hwq1x16 => rfl
          try simp only [Act.put, List.setIfInBounds_toArray, List.set_cons_zero, List.set_cons_succ]
          refine wpAnyH_take (i := 16) (oi := ?oiq1x17) (v := _) ?hiq1x17 (by kernel_rfl) (by kernel_rfl) (by kernel_rfl) ?hQq1x17 (Or.inr ⟨?hwq1x17, rfl⟩) (by assumption) ?restq1x17
          case hiq1x17 => simp only [List.getElem?_toArray, List.getElem?_cons_succ, List.getElem?_cons_zero]; exact rfl
          case hQq1x17 => exact fun _ _ _ h => h
          case hwq1x17 => rfl
          try simp only [Act.put, List.setIfInBounds_toArray, List.set_cons_zero, List.set_cons_succ]
          refine wpAnyH_take (i := 17) (oi := ?oiq1x18) (v := _) ?hiq1x18 (by kernel_rfl) (by kernel_rfl) (by kernel_rfl) ?hQq1x18 (Or.inr ⟨?hwq1x18, rfl⟩) (by assumption) ?restq1x18
          case hiq1x18 => simp only [List.getElem?_toArray, List.getElem?_cons_succ, List.getElem?_cons_zero]; exact rfl
          case hQq1x18 => exact fun _ _ _ h => h
          case hwq1x18 => rfl
          try simp only [Act.put, List.setIfInBounds_toArray, List.set_cons_zero, List.set_cons_succ]
          refine wpAnyH_take (i := 18) (oi := ?oiq1x19) (v := _) ?hiq1x19 (by kernel_rfl) (by kernel_rfl) (by kernel_rfl) ?hQq1x19 (Or.inr ⟨?hwq1x19, rfl⟩) (by assumption) ?restq1x19
          case hiq1x19 => simp only [List.getElem?_toArray, List.getElem?_cons_succ, List.getElem?_cons_zero]; exact rfl
          case hQq1x19 => exact fun _ _ _ h => h
          case hwq1x19 => rfl
          try simp only [Act.put, List.setIfInBounds_toArray, List.set_cons_zero, List.set_cons_succ]
          refine wpAnyH_take (i := 19) (oi := ?oiq1x20) (v := _) ?hiq1x20 (by kernel_rfl) (by kernel_rfl) (by kernel_rfl) ?hQq1x20 (Or.inr ⟨?hwq1x20, rfl⟩) (by assumption) ?restq1x20
          case hiq1x20 => simp only [List.getElem?_toArray, List.getElem?_cons_succ, List.getElem?_cons_zero]; exact rfl
          case hQq1x20 => exact fun _ _ _ h => h
          case hwq1x20 => rfl
          try simp only [Act.put, List.setIfInBounds_toArray, List.set_cons_zero, List.set_cons_succ]
          refine wpAnyH_take (i := 20) (oi := ?oiq1x21) (v := _) ?hiq1x21 (by kernel_rfl) (by kernel_rfl) (by kernel_rfl) ?hQq1x21 (Or.inr ⟨?hwq1x21, rfl⟩) (by assumption) ?restq1x21
          case hiq1x21 => simp only [List.getElem?_toArray, List.getElem?_cons_succ, List.getElem?_cons_zero]; exact rfl
          case hQq1x21 => exact fun _ _ _ h => h
          case hwq1x21 => rfl
          try simp only [Act.put, List.setIfInBounds_toArray, List.set_cons_zero, List.set_cons_succ]
          refine wpAnyH_take (i := 21) (oi := ?oiq1x22) (v := _) ?hiq1x22 (by kernel_rfl) (by kernel_rfl) (by kernel_rfl) ?hQq1x22 (Or.inr ⟨?hwq1x22, rfl⟩) (by assumption) ?restq1x22
          case hiq1x22 => simp only [List.getElem?_toArray, List.getElem?_cons_succ, List.getElem?_cons_zero]; exact rfl
          case hQq1x22 => exact fun _ _ _ h => h
          case hwq1x22 => rfl
          try simp only [Act.put, List.setIfInBounds_toArray, List.set_cons_zero, List.set_cons_succ]
          refine wpAnyH_ready (rs := [22]) (by kernel_rfl) (by simp) ?_
          refine AllReadyH.cons (o := ?oq1x23) ?hoq1x23 (fun K hK => ?stepq1x23) ?moreq1x23
          case hoq1x23 => simp only [List.getElem?_toArray, List.getElem?_cons_succ, List.getElem?_cons_zero]; exact rfl
          case moreq1x23 => exact AllReadyH.nil
          go_simp
          refine hK.out _ _ ?hSq1x23 (fun hHeld => ?restq1x23)
          case hSq1x23 => ((first | assumption | ((((try dsimp only); repeat' apply And.intro) <;> (first | assumption | (refine below_later ?_ (by assumption); first | assumption | (simp only [*]; done) | (go_grown; done)) | (refine cell_later (by assumption) ?_; first | assumption | (simp only [*]; done) | (simp [go_sem]; done)) | (go_grown; done) | (simp [go_sem]; done))))))
          clear hK K
          try simp only [Act.put, List.setIfInBounds_toArray, List.set_cons_zero, List.set_cons_succ]
          refine wpAnyH_take (i := 23) (oi := ?oiq1x24) (v := _) ?hiq1x24 (by kernel_rfl) (by kernel_rfl) (by kernel_rfl) ?hQq1x24 (Or.inr ⟨?hwq1x24, rfl⟩) (by assumption) ?restq1x24
          case hiq1x24 => simp only [List.getElem?_toArray, List.getElem?_cons_succ, List.getElem?_cons_zero]; exact rfl
          case hQq1x24 => exact fun _ _ _ h => h
          case hwq1x24 => rfl
          try simp only [Act.put, List.setIfInBounds_toArray, List.set_cons_zero, List.set_cons_succ]
          refine wpAnyH_take (i := 24) (oi := ?oiq1x25) (v := ?vq1x25) ?hiq1x25 (by kernel_rfl) (by kernel_rfl) (by kernel_rfl) ?hQq1x25 (Or.inl ⟨?hwq1x25, ?hyq1x25⟩) (by assumption) ?restq1x25
          case hiq1x25 => simp only [List.getElem?_toArray, List.getElem?_cons_succ, List.getElem?_cons_zero]; exact rfl
          case hQq1x25 => exact fun _ _ _ h => h
          case hwq1x25 => rfl
          case hyq1x25 => ((intro w hSw; (try dsimp only at hSw); go_simp) <;> with_reducible rfl)
          try simp only [Act.put, List.setIfInBounds_toArray, List.set_cons_zero, List.set_cons_succ]
          refine wpAnyH_take (i := 25) (oi := ?oiq1x26) (v := ?vq1x26) ?hiq1x26 (by kernel_rfl) (by kernel_rfl) (by kernel_rfl) ?hQq1x26 (Or.inl ⟨?hwq1x26, ?hyq1x26⟩) (by assumption) ?restq1x26
          case hiq1x26 => simp only [List.getElem?_toArray, List.getElem?_cons_succ, List.getElem?_cons_zero]; exact rfl
          case hQq1x26 => exact fun _ _ _ h => h
          case hwq1x26 => rfl
          case hyq1x26 => ((intro w hSw; (try dsimp only at hSw); go_simp) <;> with_reducible rfl)
          try simp only [Act.put, List.setIfInBounds_toArray, List.set_cons_zero, List.set_cons_succ]
          refine wpAnyH_done (by kernel_rfl) ?_ _
          have hBz := HB.out.trans (hHeld.1.mono HB.out.size)
          clear hHeld
          go_wp2_with fail
          go_roundw
          case rel => exact ⟨1, by omega, by go_num, lvTo_step HL.out HO.out (.inl rfl), hBz⟩
          case measure => simp [intOf]; omega
        · obtain ⟨b, o, rfl, hb, c0, c1, c2⟩ := (hl.below hbel).row3 hlt
          have hbw : b < wr.heap.size := Nat.lt_of_lt_of_le hb hbel.size
          have hj : j < n := by omega
          have p2 : wr.cell? ⟨b, o + j * 3, none⟩ = some (.int .i64 (num zs (j * 3))) := by
            obtain ⟨b', o', e, _, p2, _⟩ := (hl.below hbel).row3 hj
            injection e with e
            injection e with e1 e2
            subst e1 e2
            exact p2
          have b0 : (0 : Int) ≤ (j : Int) := by omega
          have b1 : (j : Int) < (n : Int) := by omega
          have b2 : (j : Int) + 1 < (n : Int) := by omega
          have b4 : (0 : Int) < (j : Int) + 1 := by omega
          have b8 : (0 : Int) ≤ (j : Int) + 1 := by omega
          have b5 : (j : Int) + 1 - 1 = (j : Int) := by omega
          have b6 : IntKind.i64.wrap ((j : Int) + 1 - 1) = (j : Int) := by rw [IntKind.wrap_i64]; omega
          have b7 : IntKind.i64.wrap (j : Int) = (j : Int) := by rw [IntKind.wrap_i64]; omega
          clear hbel
          rcases Bool.eq_false_or_eq_true (ahdB side (num zs (j * 3)) (num zs ((j + 1) * 3))) with hbt | hbt
          · have HQ := Lib.hid hbt
            have hAB := hbt
            clear hbt
            go_upto_region 4 with fail
            refine wp_region_held_drew (S := (fun w' => Below wr.heap.size wr w' ∧ w'.cell? ⟨b, o + (j + 1) * 3, none⟩ = some (.int .i64 (num zs ((j + 1) * 3))) ∧ w'.cell? ⟨b, o + (j + 1) * 3 + 1, none⟩ = some (.int .i64 (num zs ((j + 1) * 3 + 1))) ∧ w'.cell? ⟨b, o + (j + 1) * 3 + 2, none⟩ = some (.int .i64 (num zs ((j + 1) * 3 + 2))) ∧ w'.cell? ⟨b, o + j * 3, none⟩ = some (.int .i64 (num zs (j * 3))))) (by kernel_rfl) ?hSq2xs (fun hHeld => ?restq2xs)
            case hSq2xs => ((first | assumption | ((((try dsimp only); repeat' apply And.intro) <;> (first | assumption | (refine below_later ?_ (by assumption); first | assumption | (simp only [*]; done) | (go_grown; done)) | (refine cell_later (by assumption) ?_; first | assumption | (simp only [*]; done) | (simp [go_sem]; done)) | (go_grown; done) | (simp [go_sem]; done))))))
            refine wpAnyH_take (i := 0) (oi := ?oiq2x1) (v := ?vq2x1) ?hiq2x1 (by kernel_rfl) (by kernel_rfl) (by kernel_rfl) ?hQq2x1 (Or.inl ⟨?hwq2x1, ?hyq2x1⟩) (by assumption) ?restq2x1
            case hiq2x1 => simp only [List.getElem?_toArray, List.getElem?_cons_succ, List.getElem?_cons_zero]; exact rfl
            case hQq2x1 => exact fun _ _ _ h => h
            case hwq2x1 => rfl
            case hyq2x1 => ((intro w hSw; (try dsimp only at hSw); go_simp) <;> with_reducible rfl)
            try simp only [Act.put, List.setIfInBounds_toArray, List.set_cons_zero, List.set_cons_succ]
            refine wpAnyH_take (i := 1) (oi := ?oiq2x2) (v := ?vq2x2) ?hiq2x2 (by kernel_rfl) (by kernel_rfl) (by kernel_rfl) ?hQq2x2 (Or.inl ⟨?hwq2x2, ?hyq2x2⟩) (by assumption) ?restq2x2
            case hiq2x2 => simp only [List.getElem?_toArray, List.getElem?_cons_succ, List.getElem?_cons_zero]; exact rfl
            case hQq2x2 => exact fun _ _ _ h => h
            case hwq2x2 => rfl
            case hyq2x2 => ((intro w hSw; (try dsimp only at hSw); go_simp) <;> with_reducible rfl)
            try simp only [Act.put, List.setIfInBounds_toArray, List.set_cons_zero, List.set_cons_succ]
            refine wpAnyH_take (i := 2) (oi := ?oiq2x3) (v := ?vq2x3) ?hiq2x3 (by kernel_rfl) (by kernel_rfl) (by kernel_rfl) ?hQq2x3 (Or.inl ⟨?hwq2x3, ?hyq2x3⟩) (by assumption) ?restq2x3
            case hiq2x3 => simp only [List.getElem?_toArray, List.getElem?_cons_succ, List.getElem?_cons_zero]; exact rfl
            case hQq2x3 => exact fun _ _ _ h => h
            case hwq2x3 => rfl
            case hyq2x3 => ((intro w hSw; (try dsimp only at hSw); go_simp) <;> with_reducible rfl)
            try simp only [Act.put, List.setIfInBounds_toArray, List.set_cons_zero, List.set_cons_succ]
            refine wpAnyH_take (i := 3) (oi := ?oiq2x4) (v := ?vq2x4) ?hiq2x4 (by kernel_rfl) (by kernel_rfl) (by kernel_rfl) ?hQq2x4 (Or.inl ⟨?hwq2x4, ?hyq2x4⟩) (by assumption) ?restq2x4
            case hiq2x4 => simp only [List.getElem?_toArray, List.getElem?_cons_succ, List.getElem?_cons_zero]; exact rfl
            case hQq2x4 => exact fun _ _ _ h => h
            case hwq2x4 => rfl
            case hyq2x4 => ((intro w hSw; (try dsimp only at hSw); go_simp) <;> with_reducible rfl)
            try simp only [Act.put, List.setIfInBounds_toArray, List.set_cons_zero, List.set_cons_succ]
            refine wpAnyH_ready (rs := [4]) (by kernel_rfl) (by simp) ?_
            refine AllReadyH.cons (o := ?oq2x5) ?hoq2x5 (fun K hK => ?stepq2x5) ?moreq2x5
            case hoq2x5 => simp only [List.getElem?_toArray, List.getElem?_cons_succ, List.getElem?_cons_zero]; exact rfl
            case moreq2x5 => exact AllReadyH.nil
            go_simp
            (go_at_call 70; refine (lev_spec _ _ _ _).mono ?_; rw [hOB]; rintro e w' ⟨rfl, hb⟩)
            refine hK.out _ _ ?hSq2x5 (fun hHeld => ?restq2x5)
            case hSq2x5 => ((first | assumption | ((((try dsimp only); repeat' apply And.intro) <;> (first | assumption | (refine below_later ?_ (by assumption); first | assumption | (simp only [*]; done) | (go_grown; done)) | (refine cell_later (by assumption) ?_; first | assumption | (simp only [*]; done) | (simp [go_sem]; done)) | (go_grown; done) | (simp [go_sem]; done))))))
            clear hK K
            try simp only [Act.put, List.setIfInBounds_toArray, List.set_cons_zero, List.set_cons_succ]
            refine wpAnyH_take (i := 5) (oi := ?oiq2x6) (v := ?vq2x6) ?hiq2x6 (by kernel_rfl) (by kernel_rfl) (by kernel_rfl) ?hQq2x6 (Or.inl ⟨?hwq2x6, ?hyq2x6⟩) (by assumption) ?restq2x6
            case hiq2x6 => simp only [List.getElem?_toArray, List.getElem?_cons_succ, List.getElem?_cons_zero]; exact rfl
            case hQq2x6 => exact fun _ _ _ h => h
            case hwq2x6 => rfl
            case hyq2x6 => ((intro w hSw; (try dsimp only at hSw); go_simp) <;> with_reducible rfl)
            try simp only [Act.put, List.setIfInBounds_toArray, List.set_cons_zero, List.set_cons_succ]
            refine wpAnyH_take (i := 6) (oi := ?oiq2x7) (v := ?vq2x7) ?hiq2x7 (by kernel_rfl) (by kernel_rfl) (by kernel_rfl) ?hQq2x7 (Or.inl ⟨?hwq2x7, ?hyq2x7⟩) (by assumption) ?restq2x7
            case hiq2x7 => simp only [List.getElem?_toArray, List.getElem?_cons_succ, List.getElem?_cons_zero]; exact rfl
            case hQq2x7 => exact fun _ _ _ h => h
            case hwq2x7 => rfl
            case hyq2x7 => ((intro w hSw; (try dsimp only at hSw); go_simp) <;> with_reducible rfl)
            try simp only [Act.put, List.setIfInBounds_toArray, List.set_cons_zero, List.set_cons_succ]
            refine wpAnyH_take (i := 7) (oi := ?oiq2x8) (v := ?vq2x8) ?hiq2x8 (by kernel_rfl) (by kernel_rfl) (by kernel_rfl) ?hQq2x8 (Or.inl ⟨?hwq2x8, ?hyq2x8⟩) (by assumption) ?restq2x8
            case hiq2x8 => simp only [List.getElem?_toArray, List.getElem?_cons_succ, List.getElem?_cons_zero]; exact rfl
            case hQq2x8 => exact fun _ _ _ h => h
            case hwq2x8 => rfl
            case hyq2x8 => ((intro w hSw; (try dsimp only at hSw); go_simp) <;> with_reducible rfl)
            try simp only [Act.put, List.setIfInBounds_toArray, List.set_cons_zero, List.set_cons_succ]
            refine wpAnyH_take (i := 8) (oi := ?oiq2x9) (v := ?vq2x9) ?hiq2x9 (by kernel_rfl) (by kernel_rfl) (by kernel_rfl) ?hQq2x9 (Or.inl ⟨?hwq2x9, ?hyq2x9⟩) (by assumption) ?restq2x9
            case hiq2x9 => simp only [List.getElem?_toArray, List.getElem?_cons_succ, List.getElem?_cons_zero]; exact rfl
            case hQq2x9 => exact fun _ _ _ h => h
            case hwq2x9 => rfl
            case hyq2x9 => ((intro w hSw; (try dsimp only at hSw); go_simp) <;> with_reducible rfl)
            try simp only [Act.put, List.setIfInBounds_toArray, List.set_cons_zero, List.set_cons_succ]
            refine wpAnyH_take (i := 9) (oi := ?oiq2x10) (v := ?vq2x10) ?hiq2x10 (by kernel_rfl) (by kernel_rfl) (by kernel_rfl) ?hQq2x10 (Or.inl ⟨?hwq2x10, ?hyq2x10⟩) (by assumption) ?restq2x10
            case hiq2x10 => simp only [List.getElem?_toArray, List.getElem?_cons_succ, List.getElem?_cons_zero]; exact rfl
            case hQq2x10 => exact fun _ _ _ h => h
            case hwq2x10 => rfl
            case hyq2x10 => ((intro w hSw; (try dsimp only at hSw); go_simp) <;> with_reducible rfl)
            try simp only [Act.put, List.setIfInBounds_toArray, List.set_cons_zero, List.set_cons_succ]
            refine wpAnyH_take (i := 10) (oi := ?oiq2x11) (v := ?vq2x11) ?hiq2x11 (by kernel_rfl) (by kernel_rfl) (by kernel_rfl) ?hQq2x11 (Or.inl ⟨?hwq2x11, ?hyq2x11⟩) (by assumption) ?restq2x11
            case hiq2x11 => simp only [List.getElem?_toArray, List.getElem?_cons_succ, List.getElem?_cons_zero]; exact rfl
            case hQq2x11 => exact fun _ _ _ h => h
            case hwq2x11 => rfl
            case hyq2x11 => ((intro w hSw; (try dsimp only at hSw); go_simp) <;> with_reducible rfl)
            try simp only [Act.put, List.setIfInBounds_toArray, List.set_cons_zero, List.set_cons_succ]
            refine wpAnyH_take (i := 11) (oi := ?oiq2x12) (v := ?vq2x12) ?hiq2x12 (by kernel_rfl) (by kernel_rfl) (by kernel_rfl) ?hQq2x12 (Or.inl ⟨?hwq2x12, ?hyq2x12⟩) (by assumption) ?restq2x12
            case hiq2x12 => simp only [List.getElem?_toArray, List.getElem?_cons_succ, List.getElem?_cons_zero]; exact rfl
            case hQq2x12 => exact fun _ _ _ h => h
            case hwq2x12 => rfl
            case hyq2x12 => ((intro w hSw; (try dsimp only at hSw); go_simp) <;> with_reducible rfl)
            try simp only [Act.put, List.setIfInBounds_toArray, List.set_cons_zero, List.set_cons_succ]
            refine wpAnyH_take (i := 12) (oi := ?oiq2x13) (v := ?vq2x13) ?hiq2x13 (by kernel_rfl) (by kernel_rfl) (by kernel_rfl) ?hQq2x13 (Or.inl ⟨?hwq2x13, ?hyq2x13⟩) (by assumption) ?restq2x13
            case hiq2x13 => simp only [List.getElem?_toArray, List.getElem?_cons_succ, List.getElem?_cons_zero]; exact rfl
            case hQq2x13 => exact fun _ _ _ h => h
            case hwq2x13 => rfl
            case hyq2x13 => ((intro w hSw; (try dsimp only at hSw); go_simp) <;> with_reducible rfl)
            try simp only [Act.put, List.setIfInBounds_toArray, List.set_cons_zero, List.set_cons_succ]
            refine wpAnyH_take (i := 13) (oi := ?oiq2x14) (v := ?vq2x14) ?hiq2x14 (by kernel_rfl) (by kernel_rfl) (by kernel_rfl) ?hQq2x14 (Or.inl ⟨?hwq2x14, ?hyq2x14⟩) (by assumption) ?restq2x14
            case hiq2x14 => simp only [List.getElem?_toArray, List.getElem?_cons_succ, List.getElem?_cons_zero]; exact rfl
            case hQq2x14 => exact fun _ _ _ h => h
            case hwq2x14 => rfl
            case hyq2x14 => ((intro w hSw; (try dsimp only at hSw); go_simp) <;> with_reducible rfl)
            try simp only [Act.put, List.setIfInBounds_toArray, List.set_cons_zero, List.set_cons_succ]
            refine wpAnyH_take (i := 14) (oi := ?oiq2x15) (v := ?vq2x15) ?hiq2x15 (by kernel_rfl) (by kernel_rfl) (by kernel_rfl) ?hQq2x15 (Or.inl ⟨?hwq2x15, ?hyq2x15⟩) (by assumption) ?restq2x15
            case hiq2x15 => simp only [List.getElem?_toArray, List.getElem?_cons_succ, List.getElem?_cons_zero]; exact rfl
            case hQq2x15 => exact fun _ _ _ h => h
            case hwq2x15 => rfl
            case hyq2x15 => ((intro w hSw; (try dsimp only at hSw); go_simp) <;> with_reducible rfl)
            try simp only [Act.put, List.setIfInBounds_toArray, List.set_cons_zero, List.set_cons_succ]
            refine wpAnyH_take (i := 15) (oi := ?oiq2x16) (v := ?vq2x16) ?hiq2x16 (by kernel_rfl) (by kernel_rfl) (by kernel_rfl) ?hQq2x16 (Or.inl ⟨?hwq2x16, ?hyq2x16⟩) (by assumption) ?restq2x16
            case hiq2x16 => simp only [List.getElem?_toArray, List.getElem?_cons_succ, List.getElem?_cons_zero]; exact rfl
            case hQq2x16 => exact fun _ _ _ h => h
            case hwq2x16 => rfl
            case hyq2x16 => ((intro w hSw; (try dsimp only at hSw); go_simp) <;> with_reducible rfl)
            try simp only [Act.put, List.setIfInBounds_toArray, List.set_cons_zero, List.set_cons_succ]
            refine wpAnyH_take (i := 16) (oi := ?oiq2x17) (v := ?vq2x17) ?hiq2x17 (by kernel_rfl) (by kernel_rfl) (by kernel_rfl) ?hQq2x17 (Or.inl ⟨?hwq2x17, ?hyq2x17⟩) (by assumption) ?restq2x17
            case hiq2x17 => simp only [List.getElem?_toArray, List.getElem?_cons_succ, List.getElem?_cons_zero]; exact rfl
            case hQq2x17 => exact fun _ _ _ h => h
            case hwq2x17 => rfl
            case hyq2x17 => ((intro w hSw; (try dsimp only at hSw); go_simp) <;> with_reducible rfl)
            try simp only [Act.put, List.setIfInBounds_toArray, List.set_cons_zero, List.set_cons_succ]
            refine wpAnyH_take (i := 17) (oi := ?oiq2x18) (v := ?vq2x18) ?hiq2x18 (by kernel_rfl) (by kernel_rfl) (by kernel_rfl) ?hQq2x18 (Or.inl ⟨?hwq2x18, ?hyq2x18⟩) (by assumption) ?restq2x18
            case hiq2x18 => simp only [List.getElem?_toArray, List.getElem?_cons_succ, List.getElem?_cons_zero]; exact rfl
            case hQq2x18 => exact fun _ _ _ h => h
            case hwq2x18 => rfl
            case hyq2x18 => ((intro w hSw; (try dsimp only at hSw); go_simp) <;> with_reducible rfl)
            try simp only [Act.put, List.setIfInBounds_toArray, List.set_cons_zero, List.set_cons_succ]
            refine wpAnyH_take (i := 18) (oi := ?oiq2x19) (v := ?vq2x19) ?hiq2x19 (by kernel_rfl) (by kernel_rfl) (by kernel_rfl) ?hQq2x19 (Or.inl ⟨?hwq2x19, ?hyq2x19⟩) (by assumption) ?restq2x19
            case hiq2x19 => simp only [List.getElem?_toArray, List.getElem?_cons_succ, List.getElem?_cons_zero]; exact rfl
            case hQq2x19 => exact fun _ _ _ h => h
            case hwq2x19 => rfl
            case hyq2x19 => ((intro w hSw; (try dsimp only at hSw); go_simp) <;> with_reducible rfl)
            try simp only [Act.put, List.setIfInBounds_toArray, List.set_cons_zero, List.set_cons_succ]
            refine wpAnyH_take (i := 19) (oi := ?oiq2x20) (v := ?vq2x20) ?hiq2x20 (by kernel_rfl) (by kernel_rfl) (by kernel_rfl) ?hQq2x20 (Or.inl ⟨?hwq2x20, ?hyq2x20⟩) (by assumption) ?restq2x20
            case hiq2x20 => simp only [List.getElem?_toArray, List.getElem?_cons_succ, List.getElem?_cons_zero]; exact rfl
            case hQq2x20 => exact fun _ _ _ h => h
            case hwq2x20 => rfl
            case hyq2x20 => ((intro w hSw; (try dsimp only at hSw); go_simp) <;> with_reducible rfl)
            try simp only [Act.put, List.setIfInBounds_toArray, List.set_cons_zero, List.set_cons_succ]
            refine wpAnyH_take (i := 20) (oi := ?oiq2x21) (v := ?vq2x21) ?hiq2x21 (by kernel_rfl) (by kernel_rfl) (by kernel_rfl) ?hQq2x21 (Or.inl ⟨?hwq2x21, ?hyq2x21⟩) (by assumption) ?restq2x21
            case hiq2x21 => simp only [List.getElem?_toArray, List.getElem?_cons_succ, List.getElem?_cons_zero]; exact rfl
            case hQq2x21 => exact fun _ _ _ h => h
            case hwq2x21 => rfl
            case hyq2x21 => ((intro w hSw; (try dsimp only at hSw); go_simp) <;> with_reducible rfl)
            try simp only [Act.put, List.setIfInBounds_toArray, List.set_cons_zero, List.set_cons_succ]
            refine wpAnyH_take (i := 21) (oi := ?oiq2x22) (v := ?vq2x22) ?hiq2x22 (by kernel_rfl) (by kernel_rfl) (by kernel_rfl) ?hQq2x22 (Or.inl ⟨?hwq2x22, ?hyq2x22⟩) (by assumption) ?restq2x22
            case hiq2x22 => simp only [List.getElem?_toArray, List.getElem?_cons_succ, List.getElem?_cons_zero]; exact rfl
            case hQq2x22 => exact fun _ _ _ h => h
            case hwq2x22 => rfl
            case hyq2x22 => ((intro w hSw; (try dsimp only at hSw); go_simp) <;> with_reducible rfl)
            try simp only [Act.put, List.setIfInBounds_toArray, List.set_cons_zero, List.set_cons_succ]
            refine wpAnyH_ready (rs := [22]) (by kernel_rfl) (by simp) ?_
            refine AllReadyH.cons (o := ?oq2x23) ?hoq2x23 (fun K hK => ?stepq2x23) ?moreq2x23
            case hoq2x23 => simp only [List.getElem?_toArray, List.getElem?_cons_succ, List.getElem?_cons_zero]; exact rfl
            case moreq2x23 => exact AllReadyH.nil
            go_simp
            (go_at_call 116; refine (lev_ahead _ _ _ _).mono ?_; rw [hAB]; rintro e w' ⟨rfl, rfl⟩)
            refine hK.out _ _ ?hSq2x23 (fun hHeld => ?restq2x23)
            case hSq2x23 => ((first | assumption | ((((try dsimp only); repeat' apply And.intro) <;> (first | assumption | (refine below_later ?_ (by assumption); first | assumption | (simp only [*]; done) | (go_grown; done)) | (refine cell_later (by assumption) ?_; first | assumption | (simp only [*]; done) | (simp [go_sem]; done)) | (go_grown; done) | (simp [go_sem]; done))))))
            clear hK K
            try simp only [Act.put, List.setIfInBounds_toArray, List.set_cons_zero, List.set_cons_succ]
            refine wpAnyH_take (i := 23) (oi := ?oiq2x24) (v := ?vq2x24) ?hiq2x24 (by kernel_rfl) (by kernel_rfl) (by kernel_rfl) ?hQq2x24 (Or.inl ⟨?hwq2x24, ?hyq2x24⟩) (by assumption) ?restq2x24
            case hiq2x24 => simp only [List.getElem?_toArray, List.getElem?_cons_succ, List.getElem?_cons_zero]; exact rfl
            case hQq2x24 => exact fun _ _ _ h => h
            case hwq2x24 => rfl
            case hyq2x24 => ((intro w hSw; (try dsimp only at hSw); go_simp) <;> with_reducible rfl)
            try simp only [Act.put, List.setIfInBounds_toArray, List.set_cons_zero, List.set_cons_succ]
            refine wpAnyH_take (i := 24) (oi := ?oiq2x25) (v := ?vq2x25) ?hiq2x25 (by kernel_rfl) (by kernel_rfl) (by kernel_rfl) ?hQq2x25 (Or.inl ⟨?hwq2x25, ?hyq2x25⟩) (by assumption) ?restq2x25
            case hiq2x25 => simp only [List.getElem?_toArray, List.getElem?_cons_succ, List.getElem?_cons_zero]; exact rfl
            case hQq2x25 => exact fun _ _ _ h => h
            case hwq2x25 => rfl
            case hyq2x25 => ((intro w hSw; (try dsimp only at hSw); go_simp) <;> with_reducible rfl)
            try simp only [Act.put, List.setIfInBounds_toArray, List.set_cons_zero, List.set_cons_succ]
            refine wpAnyH_take (i := 25) (oi := ?oiq2x26) (v := ?vq2x26) ?hiq2x26 (by kernel_rfl) (by kernel_rfl) (by kernel_rfl) ?hQq2x26 (Or.inl ⟨?hwq2x26, ?hyq2x26⟩) (by assumption) ?restq2x26
            case hiq2x26 => simp only [List.getElem?_toArray, List.getElem?_cons_succ, List.getElem?_cons_zero]; exact rfl
            case hQq2x26 => exact fun _ _ _ h => h
            case hwq2x26 => rfl
            case hyq2x26 => ((intro w hSw; (try dsimp only at hSw); go_simp) <;> with_reducible rfl)
            try simp only [Act.put, List.setIfInBounds_toArray, List.set_cons_zero, List.set_cons_succ]
            refine wpAnyH_done (by kernel_rfl) ?_ _
            have hBz := HB.out.trans (hHeld.1.mono HB.out.size)
            clear hHeld
            go_wp2_with fail
            go_roundw
            case rel => exact ⟨j + 1 + 1, by omega, by go_num, lvTo_step HL.out HO.out (.inr HQ.out), hBz⟩
            case measure => simp [intOf]; omega
          · have HN := Lib.hid (lvsB_no (lvTo_no (side := side) (zs := zs) (k := j + 1) (by rw [HO.out]; simp; exact hbt) n hlt))
            have hAB := hbt
            clear hbt
            go_upto_region 4 with fail
            refine wp_region_held_drew (S := (fun w' => Below wr.heap.size wr w' ∧ w'.cell? ⟨b, o + (j + 1) * 3, none⟩ = some (.int .i64 (num zs ((j + 1) * 3))) ∧ w'.cell? ⟨b, o + (j + 1) * 3 + 1, none⟩ = some (.int .i64 (num zs ((j + 1) * 3 + 1))) ∧ w'.cell? ⟨b, o + (j + 1) * 3 + 2, none⟩ = some (.int .i64 (num zs ((j + 1) * 3 + 2))) ∧ w'.cell? ⟨b, o + j * 3, none⟩ = some (.int .i64 (num zs (j * 3))))) (by kernel_rfl) ?hSq3xs (fun hHeld => ?restq3xs)
            case hSq3xs => ((first | assumption | ((((try dsimp only); repeat' apply And.intro) <;> (first | assumption | (refine below_later ?_ (by assumption); first | assumption | (simp only [*]; done) | (go_grown; done)) | (refine cell_later (by assumption) ?_; first | assumption | (simp only [*]; done) | (simp [go_sem]; done)) | (go_grown; done) | (simp [go_sem]; done))))))
            refine wpAnyH_take (i := 0) (oi := ?oiq3x1) (v := ?vq3x1) ?hiq3x1 (by kernel_rfl) (by kernel_rfl) (by kernel_rfl) ?hQq3x1 (Or.inl ⟨?hwq3x1, ?hyq3x1⟩) (by assumption) ?restq3x1
            case hiq3x1 => simp only [List.getElem?_toArray, List.getElem?_cons_succ, List.getElem?_cons_zero]; exact rfl
            case hQq3x1 => exact fun _ _ _ h => h
            case hwq3x1 => rfl
            case hyq3x1 => ((intro w hSw; (try dsimp only at hSw); go_simp) <;> with_reducible rfl)
            try simp only [Act.put, List.setIfInBounds_toArray, List.set_cons_zero, List.set_cons_succ]
            refine wpAnyH_take (i := 1) (oi := ?oiq3x2) (v := ?vq3x2) ?hiq3x2 (by kernel_rfl) (by kernel_rfl) (by kernel_rfl) ?hQq3x2 (Or.inl ⟨?hwq3x2, ?hyq3x2⟩) (by assumption) ?restq3x2
            case hiq3x2 => simp only [List.getElem?_toArray, List.getElem?_cons_succ, List.getElem?_cons_zero]; exact rfl
            case hQq3x2 => exact fun _ _ _ h => h
            case hwq3x2 => rfl
            case hyq3x2 => ((intro w hSw; (try dsimp only at hSw); go_simp) <;> with_reducible rfl)
            try simp only [Act.put, List.setIfInBounds_toArray, List.set_cons_zero, List.set_cons_succ]
            refine wpAnyH_take (i := 2) (oi := ?oiq3x3) (v := ?vq3x3) ?hiq3x3 (by kernel_rfl) (by kernel_rfl) (by kernel_rfl) ?hQq3x3 (Or.inl ⟨?hwq3x3, ?hyq3x3⟩) (by assumption) ?restq3x3
            case hiq3x3 => simp only [List.getElem?_toArray, List.getElem?_cons_succ, List.getElem?_cons_zero]; exact rfl
            case hQq3x3 => exact fun _ _ _ h => h
            case hwq3x3 => rfl
            case hyq3x3 => ((intro w hSw; (try dsimp only at hSw); go_simp) <;> with_reducible rfl)
            try simp only [Act.put, List.setIfInBounds_toArray, List.set_cons_zero, List.set_cons_succ]
            refine wpAnyH_take (i := 3) (oi := ?oiq3x4) (v := ?vq3x4) ?hiq3x4 (by kernel_rfl) (by kernel_rfl) (by kernel_rfl) ?hQq3x4 (Or.inl ⟨?hwq3x4, ?hyq3x4⟩) (by assumption) ?restq3x4
            case hiq3x4 => simp only [List.getElem?_toArray, List.getElem?_cons_succ, List.getElem?_cons_zero]; exact rfl
            case hQq3x4 => exact fun _ _ _ h => h
            case hwq3x4 => rfl
            case hyq3x4 => ((intro w hSw; (try dsimp only at hSw); go_simp) <;> with_reducible rfl)
            try simp only [Act.put, List.setIfInBounds_toArray, List.set_cons_zero, List.set_cons_succ]
            refine wpAnyH_ready (rs := [4]) (by kernel_rfl) (by simp) ?_
            refine AllReadyH.cons (o := ?oq3x5) ?hoq3x5 (fun K hK => ?stepq3x5) ?moreq3x5
            case hoq3x5 => simp only [List.getElem?_toArray, List.getElem?_cons_succ, List.getElem?_cons_zero]; exact rfl
            case moreq3x5 => exact AllReadyH.nil
            go_simp
            (go_at_call 70; refine (lev_spec _ _ _ _).mono ?_; rw [hOB]; rintro e w' ⟨rfl, hb⟩)
            refine hK.out _ _ ?hSq3x5 (fun hHeld => ?restq3x5)
            case hSq3x5 => ((first | assumption | ((((try dsimp only); repeat' apply And.intro) <;> (first | assumption | (refine below_later ?_ (by assumption); first | assumption | (simp only [*]; done) | (go_grown; done)) | (refine cell_later (by assumption) ?_; first | assumption | (simp only [*]; done) | (simp [go_sem]; done)) | (go_grown; done) | (simp [go_sem]; done))))))
            clear hK K
            try simp only [Act.put, List.setIfInBounds_toArray, List.set_cons_zero, List.set_cons_succ]
            refine wpAnyH_take (i := 5) (oi := ?oiq3x6) (v := ?vq3x6) ?hiq3x6 (by kernel_rfl) (by kernel_rfl) (by kernel_rfl) ?hQq3x6 (Or.inl ⟨?hwq3x6, ?hyq3x6⟩) (by assumption) ?restq3x6
            case hiq3x6 => simp only [List.getElem?_toArray, List.getElem?_cons_succ, List.getElem?_cons_zero]; exact rfl
            case hQq3x6 => exact fun _ _ _ h => h
            case hwq3x6 => rfl
            case hyq3x6 => ((intro w hSw; (try dsimp only at hSw); go_simp) <;> with_reducible rfl)
            try simp only [Act.put, List.setIfInBounds_toArray, List.set_cons_zero, List.set_cons_succ]
            refine wpAnyH_take (i := 6) (oi := ?oiq3x7) (v := ?vq3x7) ?hiq3x7 (by kernel_rfl) (by kernel_rfl) (by kernel_rfl) ?hQq3x7 (Or.inl ⟨?hwq3x7, ?hyq3x7⟩) (by assumption) ?restq3x7
            case hiq3x7 => simp only [List.getElem?_toArray, List.getElem?_cons_succ, List.getElem?_cons_zero]; exact rfl
            case hQq3x7 => exact fun _ _ _ h => h
            case hwq3x7 => rfl
            case hyq3x7 => ((intro w hSw; (try dsimp only at hSw); go_simp) <;> with_reducible rfl)
            try simp only [Act.put, List.setIfInBounds_toArray, List.set_cons_zero, List.set_cons_succ]
            refine wpAnyH_take (i := 7) (oi := ?oiq3x8) (v := ?vq3x8) ?hiq3x8 (by kernel_rfl) (by kernel_rfl) (by kernel_rfl) ?hQq3x8 (Or.inl ⟨?hwq3x8, ?hyq3x8⟩) (by assumption) ?restq3x8
            case hiq3x8 => simp only [List.getElem?_toArray, List.getElem?_cons_succ, List.getElem?_cons_zero]; exact rfl
            case hQq3x8 => exact fun _ _ _ h => h
            case hwq3x8 => rfl
            case hyq3x8 => ((intro w hSw; (try dsimp only at hSw); go_simp) <;> with_reducible rfl)
            try simp only [Act.put, List.setIfInBounds_toArray, List.set_cons_zero, List.set_cons_succ]
            refine wpAnyH_take (i := 8) (oi := ?oiq3x9) (v := ?vq3x9) ?hiq3x9 (by kernel_rfl) (by kernel_rfl) (by kernel_rfl) ?hQq3x9 (Or.inl ⟨?hwq3x9, ?hyq3x9⟩) (by assumption) ?restq3x9
            case hiq3x9 => simp only [List.getElem?_toArray, List.getElem?_cons_succ, List.getElem?_cons_zero]; exact rfl
            case hQq3x9 => exact fun _ _ _ h => h
            case hwq3x9 => rfl
            case hyq3x9 => ((intro w hSw; (try dsimp only at hSw); go_simp) <;> with_reducible rfl)
            try simp only [Act.put, List.setIfInBounds_toArray, List.set_cons_zero, List.set_cons_succ]
            refine wpAnyH_take (i := 9) (oi := ?oiq3x10) (v := ?vq3x10) ?hiq3x10 (by kernel_rfl) (by kernel_rfl) (by kernel_rfl) ?hQq3x10 (Or.inl ⟨?hwq3x10, ?hyq3x10⟩) (by assumption) ?restq3x10
            case hiq3x10 => simp only [List.getElem?_toArray, List.getElem?_cons_succ, List.getElem?_cons_zero]; exact rfl
            case hQq3x10 => exact fun _ _ _ h => h
            case hwq3x10 => rfl
            case hyq3x10 => ((intro w hSw; (try dsimp only at hSw); go_simp) <;> with_reducible rfl)
            try simp only [Act.put, List.setIfInBounds_toArray, List.set_cons_zero, List.set_cons_succ]
            refine wpAnyH_take (i := 10) (oi := ?oiq3x11) (v := ?vq3x11) ?hiq3x11 (by kernel_rfl) (by kernel_rfl) (by kernel_rfl) ?hQq3x11 (Or.inl ⟨?hwq3x11, ?hyq3x11⟩) (by assumption) ?restq3x11
            case hiq3x11 => simp only [List.getElem?_toArray, List.getElem?_cons_succ, List.getElem?_cons_zero]; exact rfl
            case hQq3x11 => exact fun _ _ _ h => h
            case hwq3x11 => rfl
            case hyq3x11 => ((intro w hSw; (try dsimp only at hSw); go_simp) <;> with_reducible rfl)
            try simp only [Act.put, List.setIfInBounds_toArray, List.set_cons_zero, List.set_cons_succ]
            refine wpAnyH_take (i := 11) (oi := ?oiq3x12) (v := ?vq3x12) ?hiq3x12 (by kernel_rfl) (by kernel_rfl) (by kernel_rfl) ?hQq3x12 (Or.inl ⟨?hwq3x12, ?hyq3x12⟩) (by assumption) ?restq3x12
            case hiq3x12 => simp only [List.getElem?_toArray, List.getElem?_cons_succ, List.getElem?_cons_zero]; exact rfl
            case hQq3x12 => exact fun _ _ _ h => h
            case hwq3x12 => rfl
            case hyq3x12 => ((intro w hSw; (try dsimp only at hSw); go_simp) <;> with_reducible rfl)
            try simp only [Act.put, List.setIfInBounds_toArray, List.set_cons_zero, List.set_cons_succ]
            refine wpAnyH_take (i := 12) (oi := ?oiq3x13) (v := ?vq3x13) ?hiq3x13 (by kernel_rfl) (by kernel_rfl) (by kernel_rfl) ?hQq3x13 (Or.inl ⟨?hwq3x13, ?hyq3x13⟩) (by assumption) ?restq3x13
            case hiq3x13 => simp only [List.getElem?_toArray, List.getElem?_cons_succ, List.getElem?_cons_zero]; exact rfl
            case hQq3x13 => exact fun _ _ _ h => h
            case hwq3x13 => rfl
            case hyq3x13 => ((intro w hSw; (try dsimp only at hSw); go_simp) <;> with_reducible rfl)
            try simp only [Act.put, List.setIfInBounds_toArray, List.set_cons_zero, List.set_cons_succ]
            refine wpAnyH_take (i := 13) (oi := ?oiq3x14) (v := ?vq3x14) ?hiq3x14 (by kernel_rfl) (by kernel_rfl) (by kernel_rfl) ?hQq3x14 (Or.inl ⟨?hwq3x14, ?hyq3x14⟩) (by assumption) ?restq3x14
            case hiq3x14 => simp only [List.getElem?_toArray, List.getElem?_cons_succ, List.getElem?_cons_zero]; exact rfl
            case hQq3x14 => exact fun _ _ _ h => h
            case hwq3x14 => rfl
            case hyq3x14 => ((intro w hSw; (try dsimp only at hSw); go_simp) <;> with_reducible rfl)
            try simp only [Act.put, List.setIfInBounds_toArray, List.set_cons_zero, List.set_cons_succ]
            refine wpAnyH_take (i := 14) (oi := ?oiq3x15) (v := ?vq3x15) ?hiq3x15 (by kernel_rfl) (by kernel_rfl) (by kernel_rfl) ?hQq3x15 (Or.inl ⟨?hwq3x15, ?hyq3x15⟩) (by assumption) ?restq3x15
            case hiq3x15 => simp only [List.getElem?_toArray, List.getElem?_cons_succ, List.getElem?_cons_zero]; exact rfl
            case hQq3x15 => exact fun _ _ _ h => h
            case hwq3x15 => rfl
            case hyq3x15 => ((intro w hSw; (try dsimp only at hSw); go_simp) <;> with_reducible rfl)
            try simp only [Act.put, List.setIfInBounds_toArray, List.set_cons_zero, List.set_cons_succ]
            refine wpAnyH_take (i := 15) (oi := ?oiq3x16) (v := ?vq3x16) ?hiq3x16 (by kernel_rfl) (by kernel_rfl) (by kernel_rfl) ?hQq3x16 (Or.inl ⟨?hwq3x16, ?hyq3x16⟩) (by assumption) ?restq3x16
            case hiq3x16 => simp only [List.getElem?_toArray, List.getElem?_cons_succ, List.getElem?_cons_zero]; exact rfl
            case hQq3x16 => exact fun _ _ _ h => h
            case hwq3x16 => rfl
            case hyq3x16 => ((intro w hSw; (try dsimp only at hSw); go_simp) <;> with_reducible rfl)
            try simp only [Act.put, List.setIfInBounds_toArray, List.set_cons_zero, List.set_cons_succ]
            refine wpAnyH_take (i := 16) (oi := ?oiq3x17) (v := ?vq3x17) ?hiq3x17 (by kernel_rfl) (by kernel_rfl) (by kernel_rfl) ?hQq3x17 (Or.inl ⟨?hwq3x17, ?hyq3x17⟩) (by assumption) ?restq3x17
            case hiq3x17 => simp only [List.getElem?_toArray, List.getElem?_cons_succ, List.getElem?_cons_zero]; exact rfl
            case hQq3x17 => exact fun _ _ _ h => h
            case hwq3x17 => rfl
            case hyq3x17 => ((intro w hSw; (try dsimp only at hSw); go_simp) <;> with_reducible rfl)
            try simp only [Act.put, List.setIfInBounds_toArray, List.set_cons_zero, List.set_cons_succ]
            refine wpAnyH_take (i := 17) (oi := ?oiq3x18) (v := ?vq3x18) ?hiq3x18 (by kernel_rfl) (by kernel_rfl) (by kernel_rfl) ?hQq3x18 (Or.inl ⟨?hwq3x18, ?hyq3x18⟩) (by assumption) ?restq3x18
            case hiq3x18 => simp only [List.getElem?_toArray, List.getElem?_cons_succ, List.getElem?_cons_zero]; exact rfl
            case hQq3x18 => exact fun _ _ _ h => h
            case hwq3x18 => rfl
            case hyq3x18 => ((intro w hSw; (try dsimp only at hSw); go_simp) <;> with_reducible rfl)
            try simp only [Act.put, List.setIfInBounds_toArray, List.set_cons_zero, List.set_cons_succ]
            refine wpAnyH_take (i := 18) (oi := ?oiq3x19) (v := ?vq3x19) ?hiq3x19 (by kernel_rfl) (by kernel_rfl) (by kernel_rfl) ?hQq3x19 (Or.inl ⟨?hwq3x19, ?hyq3x19⟩) (by assumption) ?restq3x19
            case hiq3x19 => simp only [List.getElem?_toArray, List.getElem?_cons_succ, List.getElem?_cons_zero]; exact rfl
            case hQq3x19 => exact fun _ _ _ h => h
            case hwq3x19 => rfl
            case hyq3x19 => ((intro w hSw; (try dsimp only at hSw); go_simp) <;> with_reducible rfl)
            try simp only [Act.put, List.setIfInBounds_toArray, List.set_cons_zero, List.set_cons_succ]
            refine wpAnyH_take (i := 19) (oi := ?oiq3x20) (v := ?vq3x20) ?hiq3x20 (by kernel_rfl) (by kernel_rfl) (by kernel_rfl) ?hQq3x20 (Or.inl ⟨?hwq3x20, ?hyq3x20⟩) (by assumption) ?restq3x20
            case hiq3x20 => simp only [List.getElem?_toArray, List.getElem?_cons_succ, List.getElem?_cons_zero]; exact rfl
            case hQq3x20 => exact fun _ _ _ h => h
            case hwq3x20 => rfl
            case hyq3x20 => ((intro w hSw; (try dsimp only at hSw); go_simp) <;> with_reducible rfl)
            try simp only [Act.put, List.setIfInBounds_toArray, List.set_cons_zero, List.set_cons_succ]
            refine wpAnyH_take (i := 20) (oi := ?oiq3x21) (v := ?vq3x21) ?hiq3x21 (by kernel_rfl) (by kernel_rfl) (by kernel_rfl) ?hQq3x21 (Or.inl ⟨?hwq3x21, ?hyq3x21⟩) (by assumption) ?restq3x21
            case hiq3x21 => simp only [List.getElem?_toArray, List.getElem?_cons_succ, List.getElem?_cons_zero]; exact rfl
            case hQq3x21 => exact fun _ _ _ h => h
            case hwq3x21 => rfl
            case hyq3x21 => ((intro w hSw; (try dsimp only at hSw); go_simp) <;> with_reducible rfl)
            try simp only [Act.put, List.setIfInBounds_toArray, List.set_cons_zero, List.set_cons_succ]
            refine wpAnyH_take (i := 21) (oi := ?oiq3x22) (v := ?vq3x22) ?hiq3x22 (by kernel_rfl) (by kernel_rfl) (by kernel_rfl) ?hQq3x22 (Or.inl ⟨?hwq3x22, ?hyq3x22⟩) (by assumption) ?restq3x22
            case hiq3x22 => simp only [List.getElem?_toArray, List.getElem?_cons_succ, List.getElem?_cons_zero]; exact rfl
            case hQq3x22 => exact fun _ _ _ h => h
            case hwq3x22 => rfl
            case hyq3x22 => ((intro w hSw; (try dsimp only at hSw); go_simp) <;> with_reducible rfl)
            try simp only [Act.put, List.setIfInBounds_toArray, List.set_cons_zero, List.set_cons_succ]
            refine wpAnyH_ready (rs := [22]) (by kernel_rfl) (by simp) ?_
            refine AllReadyH.cons (o := ?oq3x23) ?hoq3x23 (fun K hK => ?stepq3x23) ?moreq3x23
            case hoq3x23 => simp only [List.getElem?_toArray, List.getElem?_cons_succ, List.getElem?_cons_zero]; exact rfl
            case moreq3x23 => exact AllReadyH.nil
            go_simp
            (go_at_call 116; refine (lev_ahead _ _ _ _).mono ?_; rw [hAB]; rintro e w' ⟨rfl, rfl⟩)
            refine hK.out _ _ ?hSq3x23 (fun hHeld => ?restq3x23)
            case hSq3x23 => ((first | assumption | ((((try dsimp only); repeat' apply And.intro) <;> (first | assumption | (refine below_later ?_ (by assumption); first | assumption | (simp only [*]; done) | (go_grown; done)) | (refine cell_later (by assumption) ?_; first | assumption | (simp only [*]; done) | (simp [go_sem]; done)) | (go_grown; done) | (simp [go_sem]; done))))))
            clear hK K
            try simp only [Act.put, List.setIfInBounds_toArray, List.set_cons_zero, List.set_cons_succ]
            refine wpAnyH_take (i := 23) (oi := ?oiq3x24) (v := ?vq3x24) ?hiq3x24 (by kernel_rfl) (by kernel_rfl) (by kernel_rfl) ?hQq3x24 (Or.inl ⟨?hwq3x24, ?hyq3x24⟩) (by assumption) ?restq3x24
            case hiq3x24 => simp only [List.getElem?_toArray, List.getElem?_cons_succ, List.getElem?_cons_zero]; exact rfl
            case hQq3x24 => exact fun _ _ _ h => h
            case hwq3x24 => rfl
            case hyq3x24 => ((intro w hSw; (try dsimp only at hSw); go_simp) <;> with_reducible rfl)
            try simp only [Act.put, List.setIfInBounds_toArray, List.set_cons_zero, List.set_cons_succ]
            refine wpAnyH_take (i := 24) (oi := ?oiq3x25) (v := ?vq3x25) ?hiq3x25 (by kernel_rfl) (by kernel_rfl) (by kernel_rfl) ?hQq3x25 (Or.inl ⟨?hwq3x25, ?hyq3x25⟩) (by assumption) ?restq3x25
            case hiq3x25 => simp only [List.getElem?_toArray, List.getElem?_cons_succ, List.getElem?_cons_zero]; exact rfl
            case hQq3x25 => exact fun _ _ _ h => h
            case hwq3x25 => rfl
            case hyq3x25 => ((intro w hSw; (try dsimp only at hSw); go_simp) <;> with_reducible rfl)
            try simp only [Act.put, List.setIfInBounds_toArray, List.set_cons_zero, List.set_cons_succ]
            refine wpAnyH_take (i := 25) (oi := ?oiq3x26) (v := ?vq3x26) ?hiq3x26 (by kernel_rfl) (by kernel_rfl) (by kernel_rfl) ?hQq3x26 (Or.inl ⟨?hwq3x26, ?hyq3x26⟩) (by assumption) ?restq3x26
            case hiq3x26 => simp only [List.getElem?_toArray, List.getElem?_cons_succ, List.getElem?_cons_zero]; exact rfl
            case hQq3x26 => exact fun _ _ _ h => h
            case hwq3x26 => rfl
            case hyq3x26 => ((intro w hSw; (try dsimp only at hSw); go_simp) <;> with_reducible rfl)
            try simp only [Act.put, List.setIfInBounds_toArray, List.set_cons_zero, List.set_cons_succ]
            refine wpAnyH_done (by kernel_rfl) ?_ _
            have hBz := HB.out.trans (hHeld.1.mono HB.out.size)
            clear hHeld
            go_wp2_with fail
            go_ret
            exact ⟨by rw [HN.out]; rfl, hBz⟩
      · have HN := Lib.hid (lvsB_no (lvTo_no (side := side) (zs := zs) (k := k) (by rw [hat]; rfl) n hlt))
        have hOB : lvI (num zs (k * 3)) (num zs (k * 3 + 1)) (num zs (k * 3 + 2)) = false := hat
        clear hat
        obtain ⟨b, o, rfl, hb, c0, c1, c2⟩ := (hl.below hbel).row3 hlt
        have hbw : b < wr.heap.size := Nat.lt_of_lt_of_le hb hbel.size
        clear hbel
        go_upto_region 4 with fail
        refine wp_region_held_drew (S := (fun w' => Below wr.heap.size wr w' ∧ w'.cell? ⟨b, o + k * 3, none⟩ = some (.int .i64 (num zs (k * 3))) ∧ w'.cell? ⟨b, o + k * 3 + 1, none⟩ = some (.int .i64 (num zs (k * 3 + 1))) ∧ w'.cell? ⟨b, o + k * 3 + 2, none⟩ = some (.int .i64 (num zs (k * 3 + 2))))) (by kernel_rfl) ?hSq4xs (fun hHeld => ?restq4xs)
        case hSq4xs => ((first | assumption | ((((try dsimp only); repeat' apply And.intro) <;> (first | assumption | (refine below_later ?_ (by assumption); first | assumption | (simp only [*]; done) | (go_grown; done)) | (refine cell_later (by assumption) ?_; first | assumption | (simp only [*]; done) | (simp [go_sem]; done)) | (go_grown; done) | (simp [go_sem]; done))))))
        refine wpAnyH_take (i := 0) (oi := ?oiq4x1) (v := ?vq4x1) ?hiq4x1 (by kernel_rfl) (by kernel_rfl) (by kernel_rfl) ?hQq4x1 (Or.inl ⟨?hwq4x1, ?hyq4x1⟩) (by assumption) ?restq4x1
        case hiq4x1 => simp only [List.getElem?_toArray, List.getElem?_cons_succ, List.getElem?_cons_zero]; exact rfl
        case hQq4x1 => exact fun _ _ _ h => h
        case hwq4x1 => rfl
        case hyq4x1 => ((intro w hSw; (try dsimp only at hSw); go_simp) <;> with_reducible rfl)
        try simp only [Act.put, List.setIfInBounds_toArray, List.set_cons_zero, List.set_cons_succ]
        refine wpAnyH_take (i := 1) (oi := ?oiq4x2) (v := ?vq4x2) ?hiq4x2 (by kernel_rfl) (by kernel_rfl) (by kernel_rfl) ?hQq4x2 (Or.inl ⟨?hwq4x2, ?hyq4x2⟩) (by assumption) ?restq4x2
        case hiq4x2 => simp only [List.getElem?_toArray, List.getElem?_cons_succ, List.getElem?_cons_zero]; exact rfl
        case hQq4x2 => exact fun _ _ _ h => h
        case hwq4x2 => rfl
        case hyq4x2 => ((intro w hSw; (try dsimp only at hSw); go_simp) <;> with_reducible rfl)
        try simp only [Act.put, List.setIfInBounds_toArray, List.set_cons_zero, List.set_cons_succ]
        refine wpAnyH_take (i := 2) (oi := ?oiq4x3) (v := ?vq4x3) ?hiq4x3 (by kernel_rfl) (by kernel_rfl) (by kernel_rfl) ?hQq4x3 (Or.inl ⟨?hwq4x3, ?hyq4x3⟩) (by assumption) ?restq4x3
        case hiq4x3 => simp only [List.getElem?_toArray, List.getElem?_cons_succ, List.getElem?_cons_zero]; exact rfl
        case hQq4x3 => exact fun _ _ _ h => h
        case hwq4x3 => rfl
        case hyq4x3 => ((intro w hSw; (try dsimp only at hSw); go_simp) <;> with_reducible rfl)
        try simp only [Act.put, List.setIfInBounds_toArray, List.set_cons_zero, List.set_cons_succ]
        refine wpAnyH_take (i := 3) (oi := ?oiq4x4) (v := ?vq4x4) ?hiq4x4 (by kernel_rfl) (by kernel_rfl) (by kernel_rfl) ?hQq4x4 (Or.inl ⟨?hwq4x4, ?hyq4x4⟩) (by assumption) ?restq4x4
        case hiq4x4 => simp only [List.getElem?_toArray, List.getElem?_cons_succ, List.getElem?_cons_zero]; exact rfl
        case hQq4x4 => exact fun _ _ _ h => h
        case hwq4x4 => rfl
        case hyq4x4 => ((intro w hSw; (try dsimp only at hSw); go_simp) <;> with_reducible rfl)
        try simp only [Act.put, List.setIfInBounds_toArray, List.set_cons_zero, List.set_cons_succ]
        refine wpAnyH_ready (rs := [4]) (by kernel_rfl) (by simp) ?_
        refine AllReadyH.cons (o := ?oq4x5) ?hoq4x5 (fun K hK => ?stepq4x5) ?moreq4x5
        case hoq4x5 => simp only [List.getElem?_toArray, List.getElem?_cons_succ, List.getElem?_cons_zero]; exact rfl
        case moreq4x5 => exact AllReadyH.nil
        go_simp
        (go_at_call 70; refine (lev_spec _ _ _ _).mono ?_; rw [hOB]; rintro e w' ⟨rfl, hb⟩)
        refine hK.out _ _ ?hSq4x5 (fun hHeld => ?restq4x5)
        case hSq4x5 => ((first | assumption | ((((try dsimp only); repeat' apply And.intro) <;> (first | assumption | (refine below_later ?_ (by assumption); first | assumption | (simp only [*]; done) | (go_grown; done)) | (refine cell_later (by assumption) ?_; first | assumption | (simp only [*]; done) | (simp [go_sem]; done)) | (go_grown; done) | (simp [go_sem]; done))))))
        clear hK K
        try simp only [Act.put, List.setIfInBounds_toArray, List.set_cons_zero, List.set_cons_succ]
        refine wpAnyH_take (i := 5) (oi := ?oiq4x6) (v := ?vq4x6) ?hiq4x6 (by kernel_rfl) (by kernel_rfl) (by kernel_rfl) ?hQq4x6 (Or.inl ⟨?hwq4x6, ?hyq4x6⟩) (by assumption) ?restq4x6
        case hiq4x6 => simp only [List.getElem?_toArray, List.getElem?_cons_succ, List.getElem?_cons_zero]; exact rfl
        case hQq4x6 => exact fun _ _ _ h => h
        case hwq4x6 => rfl
        case hyq4x6 => ((intro w hSw; (try dsimp only at hSw); go_simp) <;> with_reducible rfl)
        try simp only [Act.put, List.setIfInBounds_toArray, List.set_cons_zero, List.set_cons_succ]
        refine wpAnyH_take (i := 6) (oi := ?oiq4x7) (v := ?vq4x7) ?hiq4x7 (by kernel_rfl) (by kernel_rfl) (by kernel_rfl) ?hQq4x7 (Or.inl ⟨?hwq4x7, ?hyq4x7⟩) (by assumption) ?restq4x7
        case hiq4x7 => simp only [List.getElem?_toArray, List.getElem?_cons_succ, List.getElem?_cons_zero]; exact rfl
        case hQq4x7 => exact fun _ _ _ h => h
        case hwq4x7 => rfl
        case hyq4x7 => ((intro w hSw; (try dsimp only at hSw); go_simp) <;> with_reducible rfl)
        try simp only [Act.put, List.setIfInBounds_toArray, List.set_cons_zero, List.set_cons_succ]
        refine wpAnyH_take (i := 7) (oi := ?oiq4x8) (v := _) ?hiq4x8 (by kernel_rfl) (by kernel_rfl) (by kernel_rfl) ?hQq4x8 (Or.inr ⟨?hwq4x8, rfl⟩) (by assumption) ?restq4x8
        case hiq4x8 => simp only [List.getElem?_toArray, List.getElem?_cons_succ, List.getElem?_cons_zero]; exact rfl
        case hQq4x8 => exact fun _ _ _ h => h
        case hwq4x8 => rfl
        try simp only [Act.put, List.setIfInBounds_toArray, List.set_cons_zero, List.set_cons_succ]
        refine wpAnyH_take (i := 8) (oi := ?oiq4x9) (v := _) ?hiq4x9 (by kernel_rfl) (by kernel_rfl) (by kernel_rfl) ?hQq4x9 (Or.inr ⟨?hwq4x9, rfl⟩) (by assumption) ?restq4x9
        case hiq4x9 => simp only [List.getElem?_toArray, List.getElem?_cons_succ, List.getElem?_cons_zero]; exact rfl
        case hQq4x9 => exact fun _ _ _ h => h
        case hwq4x9 => rfl
        try simp only [Act.put, List.setIfInBounds_toArray, List.set_cons_zero, List.set_cons_succ]
        refine wpAnyH_take (i := 9) (oi := ?oiq4x10) (v := _) ?hiq4x10 (by kernel_rfl) (by kernel_rfl) (by kernel_rfl) ?hQq4x10 (Or.inr ⟨?hwq4x10, rfl⟩) (by assumption) ?restq4x10
        case hiq4x10 => simp only [List.getElem?_toArray, List.getElem?_cons_succ, List.getElem?_cons_zero]; exact rfl
        case hQq4x10 => exact fun _ _ _ h => h
        case hwq4x10 => rfl
        try simp only [Act.put, List.setIfInBounds_toArray, List.set_cons_zero, List.set_cons_succ]
        refine wpAnyH_take (i := 10) (oi := ?oiq4x11) (v := _) ?hiq4x11 (by kernel_rfl) (by kernel_rfl) (by kernel_rfl) ?hQq4x11 (Or.inr ⟨?hwq4x11, rfl⟩) (by assumption) ?restq4x11
        case hiq4x11 => simp only [List.getElem?_toArray, List.getElem?_cons_succ, List.getElem?_cons_zero]; exact rfl
        case hQq4x11 => exact fun _ _ _ h => h
        case hwq4x11 => rfl
        try simp only [Act.put, List.setIfInBounds_toArray, List.set_cons_zero, List.set_cons_succ]
        refine wpAnyH_take (i := 11) (oi := ?oiq4x12) (v := _) ?hiq4x12 (by kernel_rfl) (by kernel_rfl) (by kernel_rfl) ?hQq4x12 (Or.inr ⟨?hwq4x12, rfl⟩) (by assumption) ?restq4x12
        case hiq4x12 => simp only [List.getElem?_toArray, List.getElem?_cons_succ, List.getElem?_cons_zero]; exact rfl
        case hQq4x12 => exact fun _ _ _ h => h
        case hwq4x12 => rfl
        try simp only [Act.put, List.setIfInBounds_toArray, List.set_cons_zero, List.set_cons_succ]
        refine wpAnyH_take (i := 12) (oi := ?oiq4x13) (v := _) ?hiq4x13 (by kernel_rfl) (by kernel_rfl) (by kernel_rfl) ?hQq4x13 (Or.inr ⟨?hwq4x13, rfl⟩) (by assumption) ?restq4x13
        case hiq4x13 => simp only [List.getElem?_toArray, List.getElem?_cons_succ, List.getElem?_cons_zero]; exact rfl
        case hQq4x13 => exact fun _ _ _ h => h
        case hwq4x13 => rfl
        try simp only [Act.put, List.setIfInBounds_toArray, List.set_cons_zero, List.set_cons_succ]
        refine wpAnyH_take (i := 13) (oi := ?oiq4x14) (v := _) ?hiq4x14 (by kernel_rfl) (by kernel_rfl) (by kernel_rfl) ?hQq4x14 (Or.inr ⟨?hwq4x14, rfl⟩) (by assumption) ?restq4x14
        case hiq4x14 => simp only [List.getElem?_toArray, List.getElem?_cons_succ, List.getElem?_cons_zero]; exact rfl
        case hQq4x14 => exact fun _ _ _ h => h
        case hwq4x14 => rfl
        try simp only [Act.put, List.setIfInBounds_toArray, List.set_cons_zero, List.set_cons_succ]
        refine wpAnyH_take (i := 14) (oi := ?oiq4x15) (v := _) ?hiq4x15 (by kernel_rfl) (by kernel_rfl) (by kernel_rfl) ?hQq4x15 (Or.inr ⟨?hwq4x15, rfl⟩) (by assumption) ?restq4x15
        case hiq4x15 => simp only [List.getElem?_toArray, List.getElem?_cons_succ, List.getElem?_cons_zero]; exact rfl
        case hQq4x15 => exact fun _ _ _ h => h
        case hwq4x15 => rfl
        try simp only [Act.put, List.setIfInBounds_toArray, List.set_cons_zero, List.set_cons_succ]
        refine wpAnyH_take (i := 15) (oi := ?oiq4x16) (v := _) ?hiq4x16 (by kernel_rfl) (by kernel_rfl) (by kernel_rfl) ?hQq4x16 (Or.inr ⟨?hwq4x16, rfl⟩) (by assumption) ?restq4x16
        case hiq4x16 => simp only [List.getElem?_toArray, List.getElem?_cons_succ, List.getElem?_cons_zero]; exact rfl
        case hQq4x16 => exact fun _ _ _ h => h
        case hwq4x16 => rfl
        try simp only [Act.put, List.setIfInBounds_toArray, List.set_cons_zero, List.set_cons_succ]
        refine wpAnyH_take (i := 16) (oi := ?oiq4x17) (v := _) ?hiq4x17 (by kernel_rfl) (by kernel_rfl) (by kernel_rfl) ?hQq4x17 (Or.inr ⟨?hwq4x17, rfl⟩) (by assumption) ?restq4x17
        case hiq4x17 => simp only [List.getElem?_toArray, List.getElem?_cons_succ, List.getElem?_cons_zero]; exact rfl
        case hQq4x17 => exact fun _ _ _ h => h
        case hwq4x17 => rfl
        try simp only [Act.put, List.setIfInBounds_toArray, List.set_cons_zero, List.set_cons_succ]
        refine wpAnyH_take (i := 17) (oi := ?oiq4x18) (v := _) ?hiq4x18 (by kernel_rfl) (by kernel_rfl) (by kernel_rfl) ?hQq4x18 (Or.inr ⟨?hwq4x18, rfl⟩) (by assumption) ?restq4x18
        case hiq4x18 => simp only [List.getElem?_toArray, List.getElem?_cons_succ, List.getElem?_cons_zero]; exact rfl
        case hQq4x18 => exact fun _ _ _ h => h
        case hwq4x18 => rfl
        try simp only [Act.put, List.setIfInBounds_toArray, List.set_cons_zero, List.set_cons_succ]
        refine wpAnyH_take (i := 18) (oi := ?oiq4x19) (v := _) ?hiq4x19 (by kernel_rfl) (by kernel_rfl) (by kernel_rfl) ?hQq4x19 (Or.inr ⟨?hwq4x19, rfl⟩) (by assumption) ?restq4x19
        case hiq4x19 => simp only [List.getElem?_toArray, List.getElem?_cons_succ, List.getElem?_cons_zero]; exact rfl
        case hQq4x19 => exact fun _ _ _ h => h
        case hwq4x19 => rfl
        try simp only [Act.put, List.setIfInBounds_toArray, List.set_cons_zero, List.set_cons_succ]
        refine wpAnyH_take (i := 19) (oi := ?oiq4x20) (v := _) ?hiq4x20 (by kernel_rfl) (by kernel_rfl) (by kernel_rfl) ?hQq4x20 (Or.inr ⟨?hwq4x20, rfl⟩) (by assumption) ?restq4x20
        case hiq4x20 => simp only [List.getElem?_toArray, List.getElem?_cons_succ, List.getElem?_cons_zero]; exact rfl
        case hQq4x20 => exact fun _ _ _ h => h
        case hwq4x20 => rfl
        try simp only [Act.put, List.setIfInBounds_toArray, List.set_cons_zero, List.set_cons_succ]
        refine wpAnyH_take (i := 20) (oi := ?oiq4x21) (v := _) ?hiq4x21 (by kernel_rfl) (by kernel_rfl) (by kernel_rfl) ?hQq4x21 (Or.inr ⟨?hwq4x21, rfl⟩) (by assumption) ?restq4x21
        case hiq4x21 => simp only [List.getElem?_toArray, List.getElem?_cons_succ, List.getElem?_cons_zero]; exact rfl
        case hQq4x21 => exact fun _ _ _ h => h
        case hwq4x21 => rfl
        try simp only [Act.put, List.setIfInBounds_toArray, List.set_cons_zero, List.set_cons_succ]
        refine wpAnyH_take (i := 21) (oi := ?oiq4x22) (v := _) ?hiq4x22 (by kernel_rfl) (by kernel_rfl) (by kernel_rfl) ?hQq4x22 (Or.inr ⟨?hwq4x22, rfl⟩) (by assumption) ?restq4x22
        case hiq4x22 => simp only [List.getElem?_toArray, List.getElem?_cons_succ, List.getElem?_cons_zero]; exact rfl
        case hQq4x22 => exact fun _ _ _ h => h
        case hwq4x22 => rfl
        try simp only [Act.put, List.setIfInBounds_toArray, List.set_cons_zero, List.set_cons_succ]
        refine wpAnyH_ready (rs := [22]) (by kernel_rfl) (by simp) ?_
        refine AllReadyH.cons (o := ?oq4x23) ?hoq4x23 (fun K hK => ?stepq4x23) ?moreq4x23
        case hoq4x23 => simp only [List.getElem?_toArray, List.getElem?_cons_succ, List.getElem?_cons_zero]; exact rfl
        case moreq4x23 => exact AllReadyH.nil
        go_simp
        refine hK.out _ _ ?hSq4x23 (fun hHeld => ?restq4x23)
        case hSq4x23 => ((first | assumption | ((((try dsimp only); repeat' apply And.intro) <;> (first | assumption | (refine below_later ?_ (by assumption); first | assumption | (simp only [*]; done) | (go_grown; done)) | (refine cell_later (by assumption) ?_; first | assumption | (simp only [*]; done) | (simp [go_sem]; done)) | (go_grown; done) | (simp [go_sem]; done))))))
        clear hK K
        try simp only [Act.put, List.setIfInBounds_toArray, List.set_cons_zero, List.set_cons_succ]
        refine wpAnyH_take (i := 23) (oi := ?oiq4x24) (v := _) ?hiq4x24 (by kernel_rfl) (by kernel_rfl) (by kernel_rfl) ?hQq4x24 (Or.inr ⟨?hwq4x24, rfl⟩) (by assumption) ?restq4x24
        case hiq4x24 => simp only [List.getElem?_toArray, List.getElem?_cons_succ, List.getElem?_cons_zero]; exact rfl
        case hQq4x24 => exact fun _ _ _ h => h
        case hwq4x24 => rfl
        try simp only [Act.put, List.setIfInBounds_toArray, List.set_cons_zero, List.set_cons_succ]
        refine wpAnyH_take (i := 24) (oi := ?oiq4x25) (v := _) ?hiq4x25 (by kernel_rfl) (by kernel_rfl) (by kernel_rfl) ?hQq4x25 (Or.inr ⟨?hwq4x25, rfl⟩) (by assumption) ?restq4x25
        case hiq4x25 => simp only [List.getElem?_toArray, List.getElem?_cons_succ, List.getElem?_cons_zero]; exact rfl
        case hQq4x25 => exact fun _ _ _ h => h
        case hwq4x25 => rfl
        try simp only [Act.put, List.setIfInBounds_toArray, List.set_cons_zero, List.set_cons_succ]
        refine wpAnyH_take (i := 25) (oi := ?oiq4x26) (v := ?vq4x26) ?hiq4x26 (by kernel_rfl) (by kernel_rfl) (by kernel_rfl) ?hQq4x26 (Or.inl ⟨?hwq4x26, ?hyq4x26⟩) (by assumption) ?restq4x26
        case hiq4x26 => simp only [List.getElem?_toArray, List.getElem?_cons_succ, List.getElem?_cons_zero]; exact rfl
        case hQq4x26 => exact fun _ _ _ h => h
        case hwq4x26 => rfl
        case hyq4x26 => ((intro w hSw; (try dsimp only at hSw); go_simp) <;> with_reducible rfl)
        try simp only [Act.put, List.setIfInBounds_toArray, List.set_cons_zero, List.set_cons_succ]
        refine wpAnyH_done (by kernel_rfl) ?_ _
        have hBz := HB.out.trans (hHeld.1.mono HB.out.size)
        clear hHeld
        go_wp2_with fail
        go_ret
        exact ⟨by rw [HN.out]; rfl, hBz⟩
    · obtain rfl : k = n := by omega
      clear hl hbel
      have HN : Hid (lvsB side zs k = (sdB side && decide (k ≤ 40))) := Lib.hid (by simp [lvsB, HL.out])
      by_cases h40 : k ≤ 40
      · rcases Bool.eq_false_or_eq_true (sdB side) with hs | hs
        · go_wp2_with fail
          refine (lev_isSide _ _).mono ?_
          rw [hs]
          rintro e w' ⟨rfl, rfl⟩
          go_wp2_with fail
          go_ret
          exact ⟨ret_bool (by rw [HN.out, hs]; simp; omega), HB.out⟩
        · go_wp2_with fail
          refine (lev_isSide _ _).mono ?_
          rw [hs]
          rintro e w' ⟨rfl, rfl⟩
          go_wp2_with fail
          go_ret
          exact ⟨by rw [HN.out, hs]; simp, HB.out⟩
      · rcases Bool.eq_false_or_eq_true (sdB side) with hs | hs
        · go_wp2_with fail
          refine (lev_isSide _ _).mono ?_
          rw [hs]
          rintro e w' ⟨rfl, rfl⟩
          go_wp2_with fail
          go_ret
          exact ⟨ret_bool (by rw [HN.out, hs]; simp; omega), HB.out⟩
        · go_wp2_with fail
          refine (lev_isSide _ _).mono ?_
          rw [hs]
          rintro e w' ⟨rfl, rfl⟩
          go_wp2_with fail
          go_ret
          exact ⟨by rw [HN.out, hs]; simp, HB.out⟩
set_option linter.unusedSimpArgs false in
set_option maxHeartbeats 3200000 in
set_option maxRecDepth 100000 in
theorem impl_LevelsOk (A : Option Addr) (n c : Nat) (zs : List Int) (side : Int) (w : World) (hl : Lst w w.heap.size 3 A n zs) (hn : n ≤ 1048576) :
    Calls Try.prog 24 #[.slice A n c, .int .i64 side] w fun e w' => e = .returned (.bool (lvsB side zs n)) ∧ Below w.heap.size w w' := by
  by_cases h40 : 40 < n
  · have HN := Lib.hid (show lvsB side zs n = false by simp [lvsB]; omega)
    rcases Bool.eq_false_or_eq_true (sdB side) with hs | hs
    all_goals
      go_enter Try.func24, Try.ntmps24
      go_wp2_with fail
      refine (lev_sideOk _ _).mono ?_
      rw [hs]
      rintro e w' ⟨rfl, rfl⟩
      go_wp2_with fail
      go_ret
      exact ⟨by rw [HN.out]; rfl, Below.refl _ _⟩
  rcases Bool.eq_false_or_eq_true (sdB side) with hs | hs
  rotate_left
  · have HN := Lib.hid (show lvsB side zs n = false by simp [lvsB, hs])
    go_enter Try.func24, Try.ntmps24
    go_wp2_with fail
    refine (lev_sideOk _ _).mono ?_
    rw [hs]
    rintro e w' ⟨rfl, rfl⟩
    go_wp2_with fail
    go_ret
    exact ⟨by rw [HN.out]; rfl, Below.refl _ _⟩
  have HE := Lib.hid hs
  have h40' : n ≤ 40 := by omega
  clear h40
  go_enter Try.func24, Try.ntmps24
  go_wp2_with fail
  refine (lev_sideOk _ _).mono ?_
  rw [hs]
  rintro e w' ⟨rfl, rfl⟩
  clear hs
  go_wp2_with fail
  go_loopw [17] (fun i wr => ∃ k : Nat, k ≤ n ∧ i = .int .i64 (k : Int) ∧ lvTo side zs k = true ∧ Below w.heap.size w wr) (fun i _ => n - (intOf i).toNat)
  case atStart => exact ⟨0, Nat.zero_le _, rfl, rfl, Below.refl _ _⟩
  case round =>
    obtain ⟨k, hk, rfl, hok, hbel⟩ := hrel
    have HL := Lib.hid hok
    have HB := Lib.hid hbel
    clear hok
    by_cases hlt : k < n
    · rcases Bool.eq_false_or_eq_true (lvAt zs k) with hat | hat
      · have HO := Lib.hid hat
        have hOB : lvI (num zs (k * 3)) (num zs (k * 3 + 1)) (num zs (k * 3 + 2)) = true := hat
        clear hat
        rcases k with _ | j
        · obtain ⟨b, o, rfl, hb, c0, c1, c2⟩ := (hl.below hbel).row3 hlt
          have hbw : b < wr.heap.size := Nat.lt_of_lt_of_le hb hbel.size
          simp at c0 c1 c2
          replace hOB : lvI (num zs 0) (num zs 1) (num zs 2) = true := hOB
          clear hbel
          have x0 : (wr.alloc (.cells #[.int .i64 (num zs 0), .int .i64 (num zs 1), .int .i64 (num zs 2)] 94)).cell? ⟨wr.heap.size, 0, none⟩ = _ := box_cell (Below.refl _ _) 0
          have x1 : (wr.alloc (.cells #[.int .i64 (num zs 0), .int .i64 (num zs 1), .int .i64 (num zs 2)] 94)).cell? ⟨wr.heap.size, 1, none⟩ = _ := box_cell (Below.refl _ _) 1
          have x2 : (wr.alloc (.cells #[.int .i64 (num zs 0), .int .i64 (num zs 1), .int .i64 (num zs 2)] 94)).cell? ⟨wr.heap.size, 2, none⟩ = _ := box_cell (Below.refl _ _) 2
          simp only [List.getElem?_toArray, List.getElem?_cons_zero, List.getElem?_cons_succ] at x0 x1 x2
          have HB := Lib.hid (HB.out.alloc HB.out.size (.cells #[.int .i64 (num zs 0), .int .i64 (num zs 1), .int .i64 (num zs 2)] 94))
          go_upto_region 6 with fail
          generalize wr.alloc (.cells #[.int .i64 (num zs 0), .int .i64 (num zs 1), .int .i64 (num zs 2)] 94) = wv at *
          clear c0 c1 c2
          refine wp_region_held_drew (S := (fun w' => Below wv.heap.size wv w' ∧ w'.cell? ⟨wr.heap.size, 0, none⟩ = some (.int .i64 (num zs 0)) ∧ w'.cell? ⟨wr.heap.size, 1, none⟩ = some (.int .i64 (num zs 1)) ∧ w'.cell? ⟨wr.heap.size, 2, none⟩ = some (.int .i64 (num zs 2)))) (by kernel_rfl) ?hSq5xs (fun hHeld => ?restq5xs)
          case hSq5xs => ((first | assumption | ((((try dsimp only); repeat' apply And.intro) <;> (first | assumption | (refine below_later ?_ (by assumption); first | assumption | (simp only [*]; done) | (go_grown; done)) | (refine cell_later (by assumption) ?_; first | assumption | (simp only [*]; done) | (simp [go_sem]; done)) | (go_grown; done) | (simp [go_sem]; done))))))
          refine wpAnyH_take (i := 0) (oi := ?oiq5x1) (v := ?vq5x1) ?hiq5x1 (by kernel_rfl) (by kernel_rfl) (by kernel_rfl) ?hQq5x1 (Or.inl ⟨?hwq5x1, ?hyq5x1⟩) (by assumption) ?restq5x1
          case hiq5x1 => simp only [List.getElem?_toArray, List.getElem?_cons_succ, List.getElem?_cons_zero]; exact rfl
          case hQq5x1 => exact fun _ _ _ h => h
          case hwq5x1 => rfl
          case hyq5x1 => ((intro w hSw; (try dsimp only at hSw); go_simp) <;> with_reducible rfl)
          try simp only [Act.put, List.setIfInBounds_toArray, List.set_cons_zero, List.set_cons_succ]
          refine wpAnyH_ready (rs := [1]) (by kernel_rfl) (by simp) ?_
          refine AllReadyH.cons (o := ?oq5x2) ?hoq5x2 (fun K hK => ?stepq5x2) ?moreq5x2
          case hoq5x2 => simp only [List.getElem?_toArray, List.getElem?_cons_succ, List.getElem?_cons_zero]; exact rfl
          case moreq5x2 => exact AllReadyH.nil
          go_simp
          (go_at_call 72; refine (lev_impl _ _ _ _).mono ?_; rw [hOB]; rintro e w' ⟨rfl, hb⟩)
          refine hK.out _ _ ?hSq5x2 (fun hHeld => ?restq5x2)
          case hSq5x2 => ((first | assumption | ((((try dsimp only); repeat' apply And.intro) <;> (first | assumption | (refine below_later ?_ (by assumption); first | assumption | (simp only [*]; done) | (go_grown; done)) | (refine cell_later (by assumption) ?_; first | assumption | (simp only [*]; done) | (simp [go_sem]; done)) | (go_grown; done) | (simp [go_sem]; done))))))
          clear hK K
          try simp only [Act.put, List.setIfInBounds_toArray, List.set_cons_zero, List.set_cons_succ]
          refine wpAnyH_take (i := 2) (oi := ?oiq5x3) (v := ?vq5x3) ?hiq5x3 (by kernel_rfl) (by kernel_rfl) (by kernel_rfl) ?hQq5x3 (Or.inl ⟨?hwq5x3, ?hyq5x3⟩) (by assumption) ?restq5x3
          case hiq5x3 => simp only [List.getElem?_toArray, List.getElem?_cons_succ, List.getElem?_cons_zero]; exact rfl
          case hQq5x3 => exact fun _ _ _ h => h
          case hwq5x3 => rfl
          case hyq5x3 => ((intro w hSw; (try dsimp only at hSw); go_simp) <;> with_reducible rfl)
          try simp only [Act.put, List.setIfInBounds_toArray, List.set_cons_zero, List.set_cons_succ]
          refine wpAnyH_take (i := 3) (oi := ?oiq5x4) (v := ?vq5x4) ?hiq5x4 (by kernel_rfl) (by kernel_rfl) (by kernel_rfl) ?hQq5x4 (Or.inl ⟨?hwq5x4, ?hyq5x4⟩) (by assumption) ?restq5x4
          case hiq5x4 => simp only [List.getElem?_toArray, List.getElem?_cons_succ, List.getElem?_cons_zero]; exact rfl
          case hQq5x4 => exact fun _ _ _ h => h
          case hwq5x4 => rfl
          case hyq5x4 => ((intro w hSw; (try dsimp only at hSw); go_simp) <;> with_reducible rfl)
          try simp only [Act.put, List.setIfInBounds_toArray, List.set_cons_zero, List.set_cons_succ]
          refine wpAnyH_take (i := 4) (oi := ?oiq5x5) (v := ?vq5x5) ?hiq5x5 (by kernel_rfl) (by kernel_rfl) (by kernel_rfl) ?hQq5x5 (Or.inl ⟨?hwq5x5, ?hyq5x5⟩) (by assumption) ?restq5x5
          case hiq5x5 => simp only [List.getElem?_toArray, List.getElem?_cons_succ, List.getElem?_cons_zero]; exact rfl
          case hQq5x5 => exact fun _ _ _ h => h
          case hwq5x5 => rfl
          case hyq5x5 => ((intro w hSw; (try dsimp only at hSw); go_simp) <;> with_reducible rfl)
          try simp only [Act.put, List.setIfInBounds_toArray, List.set_cons_zero, List.set_cons_succ]
          refine wpAnyH_take (i := 5) (oi := ?oiq5x6) (v := ?vq5x6) ?hiq5x6 (by kernel_rfl) (by kernel_rfl) (by kernel_rfl) ?hQq5x6 (Or.inl ⟨?hwq5x6, ?hyq5x6⟩) (by assumption) ?restq5x6
          case hiq5x6 => simp only [List.getElem?_toArray, List.getElem?_cons_succ, List.getElem?_cons_zero]; exact rfl
          case hQq5x6 => exact fun _ _ _ h => h
          case hwq5x6 => rfl
          case hyq5x6 => ((intro w hSw; (try dsimp only at hSw); go_simp) <;> with_reducible rfl)
          try simp only [Act.put, List.setIfInBounds_toArray, List.set_cons_zero, List.set_cons_succ]
          refine wpAnyH_take (i := 6) (oi := ?oiq5x7) (v := ?vq5x7) ?hiq5x7 (by kernel_rfl) (by kernel_rfl) (by kernel_rfl) ?hQq5x7 (Or.inl ⟨?hwq5x7, ?hyq5x7⟩) (by assumption) ?restq5x7
          case hiq5x7 => simp only [List.getElem?_toArray, List.getElem?_cons_succ, List.getElem?_cons_zero]; exact rfl
          case hQq5x7 => exact fun _ _ _ h => h
          case hwq5x7 => rfl
          case hyq5x7 => ((intro w hSw; (try dsimp only at hSw); go_simp) <;> with_reducible rfl)
          try simp only [Act.put, List.setIfInBounds_toArray, List.set_cons_zero, List.set_cons_succ]
          refine wpAnyH_take (i := 7) (oi := ?oiq5x8) (v := _) ?hiq5x8 (by kernel_rfl) (by kernel_rfl) (by kernel_rfl) ?hQq5x8 (Or.inr ⟨?hwq5x8, rfl⟩) (by assumption) ?restq5x8
          case hiq5x8 => simp only [List.getElem?_toArray, List.getElem?_cons_succ, List.getElem?_cons_zero]; exact rfl
          case hQq5x8 => exact fun _ _ _ h => h
          case hwq5x8 => rfl
          try simp only [Act.put, List.setIfInBounds_toArray, List.set_cons_zero, List.set_cons_succ]
          refine wpAnyH_take (i := 8) (oi := ?oiq5x9) (v := _) ?hiq5x9 (by kernel_rfl) (by kernel_rfl) (by kernel_rfl) ?hQq5x9 (Or.inr ⟨?hwq5x9, rfl⟩) (by assumption) ?restq5x9
          case hiq5x9 => simp only [List.getElem?_toArray, List.getElem?_cons_succ, List.getElem?_cons_zero]; exact rfl
          case hQq5x9 => exact fun _ _ _ h => h
          case hwq5x9 => rfl
          try simp only [Act.put, List.setIfInBounds_toArray, List.set_cons_zero, List.set_cons_succ]
          refine wpAnyH_take (i := 9) (oi := ?oiq5x10) (v := _) ?hiq5x10 (by kernel_rfl) (by kernel_rfl) (by kernel_rfl) ?hQq5x10 (Or.inr ⟨?hwq5x10, rfl⟩) (by assumption) ?restq5x10
          case hiq5x10 => simp only [List.getElem?_toArray, List.getElem?_cons_succ, List.getElem?_cons_zero]; exact rfl
          case hQq5x10 => exact fun _ _ _ h => h
          case hwq5x10 => rfl
          try simp only [Act.put, List.setIfInBounds_toArray, List.set_cons_zero, List.set_cons_succ]
          refine wpAnyH_take (i := 10) (oi := ?oiq5x11) (v := _) ?hiq5x11 (by kernel_rfl) (by kernel_rfl) (by kernel_rfl) ?hQq5x11 (Or.inr ⟨?hwq5x11, rfl⟩) (by assumption) ?restq5x11
          case hiq5x11 => simp only [List.getElem?_toArray, List.getElem?_cons_succ, List.getElem?_cons_zero]; exact rfl
          case hQq5x11 => exact fun _ _ _ h => h
          case hwq5x11 => rfl
          try simp only [Act.put, List.setIfInBounds_toArray, List.set_cons_zero, List.set_cons_succ]
          refine wpAnyH_take (i := 11) (oi := ?oiq5x12) (v := _) ?hiq5x12 (by kernel_rfl) (by kernel_rfl) (by kernel_rfl) ?hQq5x12 (Or.inr ⟨?hwq5x12, rfl⟩) (by assumption) ?restq5x12
          case hiq5x12 => simp only [List.getElem?_toArray, List.getElem?_cons_succ, List.getElem?_cons_zero]; exact rfl
          case hQq5x12 => exact fun _ _ _ h => h
          case hwq5x12 => rfl
          try simp only [Act.put, List.setIfInBounds_toArray, List.set_cons_zero, List.set_cons_succ]
          refine wpAnyH_take (i := 12) (oi := ?oiq5x13) (v := _) ?hiq5x13 (by kernel_rfl) (by kernel_rfl) (by kernel_rfl) ?hQq5x13 (Or.inr ⟨?hwq5x13, rfl⟩) (by assumption) ?restq5x13
          case hiq5x13 => simp only [List.getElem?_toArray, List.getElem?_cons_succ, List.getElem?_cons_zero]; exact rfl
          case hQq5x13 => exact fun _ _ _ h => h
          case hwq5x13 => rfl
          try simp only [Act.put, List.setIfInBounds_toArray, List.set_cons_zero, List.set_cons_succ]
          refine wpAnyH_take (i := 13) (oi := ?oiq5x14) (v := _) ?hiq5x14 (by kernel_rfl) (by kernel_rfl) (by kernel_rfl) ?hQq5x14 (Or.inr ⟨?hwq5x14, rfl⟩) (by assumption) ?restq5x14
          case hiq5x14 => simp only [List.getElem?_toArray, List.getElem?_cons_succ, List.getElem?_cons_zero]; exact rfl
          case hQq5x14 => exact fun _ _ _ h => h
          case hwq5x14 => rfl
          try simp only [Act.put, List.setIfInBounds_toArray, List.set_cons_zero, List.set_cons_succ]
          refine wpAnyH_take (i := 14) (oi := ?oiq5x15) (v := _) ?hiq5x15 (by kernel_rfl) (by kernel_rfl) (by kernel_rfl) ?hQq5x15 (Or.inr ⟨?hwq5x15, rfl⟩) (by assumption) ?restq5x15
          case hiq5x15 => simp only [List.getElem?_toArray, List.getElem?_cons_succ, List.getElem?_cons_zero]; exact rfl
          case hQq5x15 => exact fun _ _ _ h => h
          case hwq5x15 => rfl
          try simp only [Act.put, List.setIfInBounds_toArray, List.set_cons_zero, List.set_cons_succ]
          refine wpAnyH_take (i := 15) (oi := ?oiq5x16) (v := _) ?hiq5x16 (by kernel_rfl) (by kernel_rfl) (by kernel_rfl) ?hQq5x16 (Or.inr ⟨?hwq5x16, rfl⟩) (by assumption) ?restq5x16
          case hiq5x16 => simp only [List.getElem?_toArray, List.getElem?_cons_succ, List.getElem?_cons_zero]; exact rfl
          case hQq5x16 => exact fun _ _ _ h => h
          case hwq5x16 => rfl
          try simp only [Act.put, List.setIfInBounds_toArray, List.set_cons_zero, List.set_cons_succ]
          refine wpAnyH_ready (rs := [16]) (by kernel_rfl) (by simp) ?_
          refine AllReadyH.cons (o := ?oq5x17) ?hoq5x17 (fun K hK => ?stepq5x17) ?moreq5x17
          case hoq5x17 => simp only [List.getElem?_toArray, List.getElem?_cons_succ, List.getElem?_cons_zero]; exact rfl
          case moreq5x17 => exact AllReadyH.nil
          go_simp
          refine hK.out _ _ ?hSq5x17 (fun hHeld => ?restq5x17)
          case hSq5x17 => ((first | assumption | ((((try dsimp only); repeat' apply And.intro) <;> (first | assumption | (refine below_later ?_ (by assumption); first | assumption | (simp only [*]; done) | (go_grown; done)) | (refine cell_later (by assumption) ?_; first | assumption | (simp only [*]; done) | (simp [go_sem]; done)) | (go_grown; done) | (simp [go_sem]; done))))))
          clear hK K
          try simp only [Act.put, List.setIfInBounds_toArray, List.set_cons_zero, List.set_cons_succ]
          refine wpAnyH_take (i := 17) (oi := ?oiq5x18) (v := _) ?hiq5x18 (by kernel_rfl) (by kernel_rfl) (by kernel_rfl) ?hQq5x18 (Or.inr ⟨?hwq5x18, rfl⟩) (by assumption) ?restq5x18
          case hiq5x18 => simp only [List.getElem?_toArray, List.getElem?_cons_succ, List.getElem?_cons_zero]; exact rfl
          case hQq5x18 => exact fun _ _ _ h => h
          case hwq5x18 => rfl
          try simp only [Act.put, List.setIfInBounds_toArray, List.set_cons_zero, List.set_cons_succ]
          refine wpAnyH_take (i := 18) (oi := ?oiq5x19) (v := ?vq5x19) ?hiq5x19 (by kernel_rfl) (by kernel_rfl) (by kernel_rfl) ?hQq5x19 (Or.inl ⟨?hwq5x19, ?hyq5x19⟩) (by assumption) ?restq5x19
          case hiq5x19 => simp only [List.getElem?_toArray, List.getElem?_cons_succ, List.getElem?_cons_zero]; exact rfl
          case hQq5x19 => exact fun _ _ _ h => h
          case hwq5x19 => rfl
          case hyq5x19 => ((intro w hSw; (try dsimp only at hSw); go_simp) <;> with_reducible rfl)
          try simp only [Act.put, List.setIfInBounds_toArray, List.set_cons_zero, List.set_cons_succ]
          refine wpAnyH_take (i := 19) (oi := ?oiq5x20) (v := ?vq5x20) ?hiq5x20 (by kernel_rfl) (by kernel_rfl) (by kernel_rfl) ?hQq5x20 (Or.inl ⟨?hwq5x20, ?hyq5x20⟩) (by assumption) ?restq5x20
          case hiq5x20 => simp only [List.getElem?_toArray, List.getElem?_cons_succ, List.getElem?_cons_zero]; exact rfl
          case hQq5x20 => exact fun _ _ _ h => h
          case hwq5x20 => rfl
          case hyq5x20 => ((intro w hSw; (try dsimp only at hSw); go_simp) <;> with_reducible rfl)
          try simp only [Act.put, List.setIfInBounds_toArray, List.set_cons_zero, List.set_cons_succ]
          refine wpAnyH_done (by kernel_rfl) ?_ _
          have hBz := HB.out.trans (hHeld.1.mono HB.out.size)
          clear hHeld
          go_wp2_with fail
          go_roundw
          case rel => exact ⟨1, by omega, by go_num, lvTo_step HL.out HO.out (.inl rfl), hBz⟩
          case measure => simp [intOf]; omega
        · obtain ⟨b, o, rfl, hb, c0, c1, c2⟩ := (hl.below hbel).row3 hlt
          have hbw : b < wr.heap.size := Nat.lt_of_lt_of_le hb hbel.size
          have hj : j < n := by omega
          have p2 : wr.cell? ⟨b, o + j * 3, none⟩ = some (.int .i64 (num zs (j * 3))) := by
            obtain ⟨b', o', e, _, p2, _⟩ := (hl.below hbel).row3 hj
            injection e with e
            injection e with e1 e2
            subst e1 e2
            exact p2
          have b0 : (0 : Int) ≤ (j : Int) := by omega
          have b1 : (j : Int) < (n : Int) := by omega
          have b2 : (j : Int) + 1 < (n : Int) := by omega
          have b4 : (0 : Int) < (j : Int) + 1 := by omega
          have b8 : (0 : Int) ≤ (j : Int) + 1 := by omega
          have b5 : (j : Int) + 1 - 1 = (j : Int) := by omega
          have b6 : IntKind.i64.wrap ((j : Int) + 1 - 1) = (j : Int) := by rw [IntKind.wrap_i64]; omega
          have b7 : IntKind.i64.wrap (j : Int) = (j : Int) := by rw [IntKind.wrap_i64]; omega
          clear hbel
          rcases Bool.eq_false_or_eq_true (ahdB side (num zs (j * 3)) (num zs ((j + 1) * 3))) with hbt | hbt
          · have HQ := Lib.hid hbt
            have hAB := hbt
            clear hbt
            have x0 : (wr.alloc (.cells #[.int .i64 (num zs ((j + 1) * 3)), .int .i64 (num zs ((j + 1) * 3 + 1)), .int .i64 (num zs ((j + 1) * 3 + 2))] 94)).cell? ⟨wr.heap.size, 0, none⟩ = _ := box_cell (Below.refl _ _) 0
            have x1 : (wr.alloc (.cells #[.int .i64 (num zs ((j + 1) * 3)), .int .i64 (num zs ((j + 1) * 3 + 1)), .int .i64 (num zs ((j + 1) * 3 + 2))] 94)).cell? ⟨wr.heap.size, 1, none⟩ = _ := box_cell (Below.refl _ _) 1
            have x2 : (wr.alloc (.cells #[.int .i64 (num zs ((j + 1) * 3)), .int .i64 (num zs ((j + 1) * 3 + 1)), .int .i64 (num zs ((j + 1) * 3 + 2))] 94)).cell? ⟨wr.heap.size, 2, none⟩ = _ := box_cell (Below.refl _ _) 2
            simp only [List.getElem?_toArray, List.getElem?_cons_zero, List.getElem?_cons_succ] at x0 x1 x2
            have HB := Lib.hid (HB.out.alloc HB.out.size (.cells #[.int .i64 (num zs ((j + 1) * 3)), .int .i64 (num zs ((j + 1) * 3 + 1)), .int .i64 (num zs ((j + 1) * 3 + 2))] 94))
            have p2 := ((Below.refl wr.heap.size wr).alloc (Nat.le_refl _) (.cells #[.int .i64 (num zs ((j + 1) * 3)), .int .i64 (num zs ((j + 1) * 3 + 1)), .int .i64 (num zs ((j + 1) * 3 + 2))] 94)).cell (p := ⟨b, o + j * 3, none⟩) hbw |>.trans p2
            go_upto_region 6 with fail
            generalize wr.alloc (.cells #[.int .i64 (num zs ((j + 1) * 3)), .int .i64 (num zs ((j + 1) * 3 + 1)), .int .i64 (num zs ((j + 1) * 3 + 2))] 94) = wv at *
            clear c0 c1 c2
            refine wp_region_held_drew (S := (fun w' => Below wv.heap.size wv w' ∧ w'.cell? ⟨wr.heap.size, 0, none⟩ = some (.int .i64 (num zs ((j + 1) * 3))) ∧ w'.cell? ⟨wr.heap.size, 1, none⟩ = some (.int .i64 (num zs ((j + 1) * 3 + 1))) ∧ w'.cell? ⟨wr.heap.size, 2, none⟩ = some (.int .i64 (num zs ((j + 1) * 3 + 2))) ∧ w'.cell? ⟨b, o + j * 3, none⟩ = some (.int .i64 (num zs (j * 3))))) (by kernel_rfl) ?hSq6xs (fun hHeld => ?restq6xs)
            case hSq6xs => ((first | assumption | ((((try dsimp only); repeat' apply And.intro) <;> (first | assumption | (refine below_later ?_ (by assumption); first | assumption | (simp only [*]; done) | (go_grown; done)) | (refine cell_later (by assumption) ?_; first | assumption | (simp only [*]; done) | (simp [go_sem]; done)) | (go_grown; done) | (simp [go_sem]; done))))))
            refine wpAnyH_take (i := 0) (oi := ?oiq6x1) (v := ?vq6x1) ?hiq6x1 (by kernel_rfl) (by kernel_rfl) (by kernel_rfl) ?hQq6x1 (Or.inl ⟨?hwq6x1, ?hyq6x1⟩) (by assumption) ?restq6x1
            case hiq6x1 => simp only [List.getElem?_toArray, List.getElem?_cons_succ, List.getElem?_cons_zero]; exact rfl
            case hQq6x1 => exact fun _ _ _ h => h
            case hwq6x1 => rfl
            case hyq6x1 => ((intro w hSw; (try dsimp only at hSw); go_simp) <;> with_reducible rfl)
            try simp only [Act.put, List.setIfInBounds_toArray, List.set_cons_zero, List.set_cons_succ]
            refine wpAnyH_ready (rs := [1]) (by kernel_rfl) (by simp) ?_
            refine AllReadyH.cons (o := ?oq6x2) ?hoq6x2 (fun K hK => ?stepq6x2) ?moreq6x2
            case hoq6x2 => simp only [List.getElem?_toArray, List.getElem?_cons_succ, List.getElem?_cons_zero]; exact rfl
            case moreq6x2 => exact AllReadyH.nil
            go_simp
            (go_at_call 72; refine (lev_impl _ _ _ _).mono ?_; rw [hOB]; rintro e w' ⟨rfl, hb⟩)
            refine hK.out _ _ ?hSq6x2 (fun hHeld => ?restq6x2)
            case hSq6x2 => ((first | assumption | ((((try dsimp only); repeat' apply And.intro) <;> (first | assumption | (refine below_later ?_ (by assumption); first | assumption | (simp only [*]; done) | (go_grown; done)) | (refine cell_later (by assumption) ?_; first | assumption | (simp only [*]; done) | (simp [go_sem]; done)) | (go_grown; done) | (simp [go_sem]; done))))))
            clear hK K
            try simp only [Act.put, List.setIfInBounds_toArray, List.set_cons_zero, List.set_cons_succ]
            refine wpAnyH_take (i := 2) (oi := ?oiq6x3) (v := ?vq6x3) ?hiq6x3 (by kernel_rfl) (by kernel_rfl) (by kernel_rfl) ?hQq6x3 (Or.inl ⟨?hwq6x3, ?hyq6x3⟩) (by assumption) ?restq6x3
            case hiq6x3 => simp only [List.getElem?_toArray, List.getElem?_cons_succ, List.getElem?_cons_zero]; exact rfl
            case hQq6x3 => exact fun _ _ _ h => h
            case hwq6x3 => rfl
            case hyq6x3 => ((intro w hSw; (try dsimp only at hSw); go_simp) <;> with_reducible rfl)
            try simp only [Act.put, List.setIfInBounds_toArray, List.set_cons_zero, List.set_cons_succ]
            refine wpAnyH_take (i := 3) (oi := ?oiq6x4) (v := ?vq6x4) ?hiq6x4 (by kernel_rfl) (by kernel_rfl) (by kernel_rfl) ?hQq6x4 (Or.inl ⟨?hwq6x4, ?hyq6x4⟩) (by assumption) ?restq6x4
            case hiq6x4 => simp only [List.getElem?_toArray, List.getElem?_cons_succ, List.getElem?_cons_zero]; exact rfl
            case hQq6x4 => exact fun _ _ _ h => h
            case hwq6x4 => rfl
            case hyq6x4 => ((intro w hSw; (try dsimp only at hSw); go_simp) <;> with_reducible rfl)
            try simp only [Act.put, List.setIfInBounds_toArray, List.set_cons_zero, List.set_cons_succ]
            refine wpAnyH_take (i := 4) (oi := ?oiq6x5) (v := ?vq6x5) ?hiq6x5 (by kernel_rfl) (by kernel_rfl) (by kernel_rfl) ?hQq6x5 (Or.inl ⟨?hwq6x5, ?hyq6x5⟩) (by assumption) ?restq6x5
            case hiq6x5 => simp only [List.getElem?_toArray, List.getElem?_cons_succ, List.getElem?_cons_zero]; exact rfl
            case hQq6x5 => exact fun _ _ _ h => h
            case hwq6x5 => rfl
            case hyq6x5 => ((intro w hSw; (try dsimp only at hSw); go_simp) <;> with_reducible rfl)
            try simp only [Act.put, List.setIfInBounds_toArray, List.set_cons_zero, List.set_cons_succ]
            refine wpAnyH_take (i := 5) (oi := ?oiq6x6) (v := ?vq6x6) ?hiq6x6 (by kernel_rfl) (by kernel_rfl) (by kernel_rfl) ?hQq6x6 (Or.inl ⟨?hwq6x6, ?hyq6x6⟩) (by assumption) ?restq6x6
            case hiq6x6 => simp only [List.getElem?_toArray, List.getElem?_cons_succ, List.getElem?_cons_zero]; exact rfl
            case hQq6x6 => exact fun _ _ _ h => h
            case hwq6x6 => rfl
            case hyq6x6 => ((intro w hSw; (try dsimp only at hSw); go_simp) <;> with_reducible rfl)
            try simp only [Act.put, List.setIfInBounds_toArray, List.set_cons_zero, List.set_cons_succ]
            refine wpAnyH_take (i := 6) (oi := ?oiq6x7) (v := ?vq6x7) ?hiq6x7 (by kernel_rfl) (by kernel_rfl) (by kernel_rfl) ?hQq6x7 (Or.inl ⟨?hwq6x7, ?hyq6x7⟩) (by assumption) ?restq6x7
            case hiq6x7 => simp only [List.getElem?_toArray, List.getElem?_cons_succ, List.getElem?_cons_zero]; exact rfl
            case hQq6x7 => exact fun _ _ _ h => h
            case hwq6x7 => rfl
            case hyq6x7 => ((intro w hSw; (try dsimp only at hSw); go_simp) <;> with_reducible rfl)
            try simp only [Act.put, List.setIfInBounds_toArray, List.set_cons_zero, List.set_cons_succ]
            refine wpAnyH_take (i := 7) (oi := ?oiq6x8) (v := ?vq6x8) ?hiq6x8 (by kernel_rfl) (by kernel_rfl) (by kernel_rfl) ?hQq6x8 (Or.inl ⟨?hwq6x8, ?hyq6x8⟩) (by assumption) ?restq6x8
            case hiq6x8 => simp only [List.getElem?_toArray, List.getElem?_cons_succ, List.getElem?_cons_zero]; exact rfl
            case hQq6x8 => exact fun _ _ _ h => h
            case hwq6x8 => rfl
            case hyq6x8 => ((intro w hSw; (try dsimp only at hSw); go_simp) <;> with_reducible rfl)
            try simp only [Act.put, List.setIfInBounds_toArray, List.set_cons_zero, List.set_cons_succ]
            refine wpAnyH_take (i := 8) (oi := ?oiq6x9) (v := ?vq6x9) ?hiq6x9 (by kernel_rfl) (by kernel_rfl) (by kernel_rfl) ?hQq6x9 (Or.inl ⟨?hwq6x9, ?hyq6x9⟩) (by assumption) ?restq6x9
            case hiq6x9 => simp only [List.getElem?_toArray, List.getElem?_cons_succ, List.getElem?_cons_zero]; exact rfl
            case hQq6x9 => exact fun _ _ _ h => h
            case hwq6x9 => rfl
            case hyq6x9 => ((intro w hSw; (try dsimp only at hSw); go_simp) <;> with_reducible rfl)
            try simp only [Act.put, List.setIfInBounds_toArray, List.set_cons_zero, List.set_cons_succ]
            refine wpAnyH_take (i := 9) (oi := ?oiq6x10) (v := ?vq6x10) ?hiq6x10 (by kernel_rfl) (by kernel_rfl) (by kernel_rfl) ?hQq6x10 (Or.inl ⟨?hwq6x10, ?hyq6x10⟩) (by assumption) ?restq6x10
            case hiq6x10 => simp only [List.getElem?_toArray, List.getElem?_cons_succ, List.getElem?_cons_zero]; exact rfl
            case hQq6x10 => exact fun _ _ _ h => h
            case hwq6x10 => rfl
            case hyq6x10 => ((intro w hSw; (try dsimp only at hSw); go_simp) <;> with_reducible rfl)
            try simp only [Act.put, List.setIfInBounds_toArray, List.set_cons_zero, List.set_cons_succ]
            refine wpAnyH_take (i := 10) (oi := ?oiq6x11) (v := ?vq6x11) ?hiq6x11 (by kernel_rfl) (by kernel_rfl) (by kernel_rfl) ?hQq6x11 (Or.inl ⟨?hwq6x11, ?hyq6x11⟩) (by assumption) ?restq6x11
            case hiq6x11 => simp only [List.getElem?_toArray, List.getElem?_cons_succ, List.getElem?_cons_zero]; exact rfl
            case hQq6x11 => exact fun _ _ _ h => h
            case hwq6x11 => rfl
            case hyq6x11 => ((intro w hSw; (try dsimp only at hSw); go_simp) <;> with_reducible rfl)
            try simp only [Act.put, List.setIfInBounds_toArray, List.set_cons_zero, List.set_cons_succ]
            refine wpAnyH_take (i := 11) (oi := ?oiq6x12) (v := ?vq6x12) ?hiq6x12 (by kernel_rfl) (by kernel_rfl) (by kernel_rfl) ?hQq6x12 (Or.inl ⟨?hwq6x12, ?hyq6x12⟩) (by assumption) ?restq6x12
            case hiq6x12 => simp only [List.getElem?_toArray, List.getElem?_cons_succ, List.getElem?_cons_zero]; exact rfl
            case hQq6x12 => exact fun _ _ _ h => h
            case hwq6x12 => rfl
            case hyq6x12 => ((intro w hSw; (try dsimp only at hSw); go_simp) <;> with_reducible rfl)
            try simp only [Act.put, List.setIfInBounds_toArray, List.set_cons_zero, List.set_cons_succ]
            refine wpAnyH_take (i := 12) (oi := ?oiq6x13) (v := ?vq6x13) ?hiq6x13 (by kernel_rfl) (by kernel_rfl) (by kernel_rfl) ?hQq6x13 (Or.inl ⟨?hwq6x13, ?hyq6x13⟩) (by assumption) ?restq6x13
            case hiq6x13 => simp only [List.getElem?_toArray, List.getElem?_cons_succ, List.getElem?_cons_zero]; exact rfl
            case hQq6x13 => exact fun _ _ _ h => h
            case hwq6x13 => rfl
            case hyq6x13 => ((intro w hSw; (try dsimp only at hSw); go_simp) <;> with_reducible rfl)
            try simp only [Act.put, List.setIfInBounds_toArray, List.set_cons_zero, List.set_cons_succ]
            refine wpAnyH_take (i := 13) (oi := ?oiq6x14) (v := ?vq6x14) ?hiq6x14 (by kernel_rfl) (by kernel_rfl) (by kernel_rfl) ?hQq6x14 (Or.inl ⟨?hwq6x14, ?hyq6x14⟩) (by assumption) ?restq6x14
            case hiq6x14 => simp only [List.getElem?_toArray, List.getElem?_cons_succ, List.getElem?_cons_zero]; exact rfl
            case hQq6x14 => exact fun _ _ _ h => h
            case hwq6x14 => rfl
            case hyq6x14 => ((intro w hSw; (try dsimp only at hSw); go_simp) <;> with_reducible rfl)
            try simp only [Act.put, List.setIfInBounds_toArray, List.set_cons_zero, List.set_cons_succ]
            refine wpAnyH_take (i := 14) (oi := ?oiq6x15) (v := ?vq6x15) ?hiq6x15 (by kernel_rfl) (by kernel_rfl) (by kernel_rfl) ?hQq6x15 (Or.inl ⟨?hwq6x15, ?hyq6x15⟩) (by assumption) ?restq6x15
            case hiq6x15 => simp only [List.getElem?_toArray, List.getElem?_cons_succ, List.getElem?_cons_zero]; exact rfl
            case hQq6x15 => exact fun _ _ _ h => h
            case hwq6x15 => rfl
            case hyq6x15 => ((intro w hSw; (try dsimp only at hSw); go_simp) <;> with_reducible rfl)
            try simp only [Act.put, List.setIfInBounds_toArray, List.set_cons_zero, List.set_cons_succ]
            refine wpAnyH_take (i := 15) (oi := ?oiq6x16) (v := ?vq6x16) ?hiq6x16 (by kernel_rfl) (by kernel_rfl) (by kernel_rfl) ?hQq6x16 (Or.inl ⟨?hwq6x16, ?hyq6x16⟩) (by assumption) ?restq6x16
            case hiq6x16 => simp only [List.getElem?_toArray, List.getElem?_cons_succ, List.getElem?_cons_zero]; exact rfl
            case hQq6x16 => exact fun _ _ _ h => h
            case hwq6x16 => rfl
            case hyq6x16 => ((intro w hSw; (try dsimp only at hSw); go_simp) <;> with_reducible rfl)
            try simp only [Act.put, List.setIfInBounds_toArray, List.set_cons_zero, List.set_cons_succ]
            refine wpAnyH_ready (rs := [16]) (by kernel_rfl) (by simp) ?_
            refine AllReadyH.cons (o := ?oq6x17) ?hoq6x17 (fun K hK => ?stepq6x17) ?moreq6x17
            case hoq6x17 => simp only [List.getElem?_toArray, List.getElem?_cons_succ, List.getElem?_cons_zero]; exact rfl
            case moreq6x17 => exact AllReadyH.nil
            go_simp
            (go_at_call 73; refine (lev_better _ _ _ _).mono ?_; rw [hAB]; rintro e w' ⟨rfl, rfl⟩)
            refine hK.out _ _ ?hSq6x17 (fun hHeld => ?restq6x17)
            case hSq6x17 => ((first | assumption | ((((try dsimp only); repeat' apply And.intro) <;> (first | assumption | (refine below_later ?_ (by assumption); first | assumption | (simp only [*]; done) | (go_grown; done)) | (refine cell_later (by assumption) ?_; first | assumption | (simp only [*]; done) | (simp [go_sem]; done)) | (go_grown; done) | (simp [go_sem]; done))))))
            clear hK K
            try simp only [Act.put, List.setIfInBounds_toArray, List.set_cons_zero, List.set_cons_succ]
            refine wpAnyH_take (i := 17) (oi := ?oiq6x18) (v := ?vq6x18) ?hiq6x18 (by kernel_rfl) (by kernel_rfl) (by kernel_rfl) ?hQq6x18 (Or.inl ⟨?hwq6x18, ?hyq6x18⟩) (by assumption) ?restq6x18
            case hiq6x18 => simp only [List.getElem?_toArray, List.getElem?_cons_succ, List.getElem?_cons_zero]; exact rfl
            case hQq6x18 => exact fun _ _ _ h => h
            case hwq6x18 => rfl
            case hyq6x18 => ((intro w hSw; (try dsimp only at hSw); go_simp) <;> with_reducible rfl)
            try simp only [Act.put, List.setIfInBounds_toArray, List.set_cons_zero, List.set_cons_succ]
            refine wpAnyH_take (i := 18) (oi := ?oiq6x19) (v := ?vq6x19) ?hiq6x19 (by kernel_rfl) (by kernel_rfl) (by kernel_rfl) ?hQq6x19 (Or.inl ⟨?hwq6x19, ?hyq6x19⟩) (by assumption) ?restq6x19
            case hiq6x19 => simp only [List.getElem?_toArray, List.getElem?_cons_succ, List.getElem?_cons_zero]; exact rfl
            case hQq6x19 => exact fun _ _ _ h => h
            case hwq6x19 => rfl
            case hyq6x19 => ((intro w hSw; (try dsimp only at hSw); go_simp) <;> with_reducible rfl)
            try simp only [Act.put, List.setIfInBounds_toArray, List.set_cons_zero, List.set_cons_succ]
            refine wpAnyH_take (i := 19) (oi := ?oiq6x20) (v := ?vq6x20) ?hiq6x20 (by kernel_rfl) (by kernel_rfl) (by kernel_rfl) ?hQq6x20 (Or.inl ⟨?hwq6x20, ?hyq6x20⟩) (by assumption) ?restq6x20
            case hiq6x20 => simp only [List.getElem?_toArray, List.getElem?_cons_succ, List.getElem?_cons_zero]; exact rfl
            case hQq6x20 => exact fun _ _ _ h => h
            case hwq6x20 => rfl
            case hyq6x20 => ((intro w hSw; (try dsimp only at hSw); go_simp) <;> with_reducible rfl)
            try simp only [Act.put, List.setIfInBounds_toArray, List.set_cons_zero, List.set_cons_succ]
            refine wpAnyH_done (by kernel_rfl) ?_ _
            have hBz := HB.out.trans (hHeld.1.mono HB.out.size)
            clear hHeld
            go_wp2_with fail
            go_roundw
            case rel => exact ⟨j + 1 + 1, by omega, by go_num, lvTo_step HL.out HO.out (.inr HQ.out), hBz⟩
            case measure => simp [intOf]; omega
          · have HN := Lib.hid (lvsB_no (lvTo_no (side := side) (zs := zs) (k := j + 1) (by rw [HO.out]; simp; exact hbt) n hlt))
            have hAB := hbt
            clear hbt
            have x0 : (wr.alloc (.cells #[.int .i64 (num zs ((j + 1) * 3)), .int .i64 (num zs ((j + 1) * 3 + 1)), .int .i64 (num zs ((j + 1) * 3 + 2))] 94)).cell? ⟨wr.heap.size, 0, none⟩ = _ := box_cell (Below.refl _ _) 0
            have x1 : (wr.alloc (.cells #[.int .i64 (num zs ((j + 1) * 3)), .int .i64 (num zs ((j + 1) * 3 + 1)), .int .i64 (num zs ((j + 1) * 3 + 2))] 94)).cell? ⟨wr.heap.size, 1, none⟩ = _ := box_cell (Below.refl _ _) 1
            have x2 : (wr.alloc (.cells #[.int .i64 (num zs ((j + 1) * 3)), .int .i64 (num zs ((j + 1) * 3 + 1)), .int .i64 (num zs ((j + 1) * 3 + 2))] 94)).cell? ⟨wr.heap.size, 2, none⟩ = _ := box_cell (Below.refl _ _) 2
            simp only [List.getElem?_toArray, List.getElem?_cons_zero, List.getElem?_cons_succ] at x0 x1 x2
            have HB := Lib.hid (HB.out.alloc HB.out.size (.cells #[.int .i64 (num zs ((j + 1) * 3)), .int .i64 (num zs ((j + 1) * 3 + 1)), .int .i64 (num zs ((j + 1) * 3 + 2))] 94))
            have p2 := ((Below.refl wr.heap.size wr).alloc (Nat.le_refl _) (.cells #[.int .i64 (num zs ((j + 1) * 3)), .int .i64 (num zs ((j + 1) * 3 + 1)), .int .i64 (num zs ((j + 1) * 3 + 2))] 94)).cell (p := ⟨b, o + j * 3, none⟩) hbw |>.trans p2
            go_upto_region 6 with fail
            generalize wr.alloc (.cells #[.int .i64 (num zs ((j + 1) * 3)), .int .i64 (num zs ((j + 1) * 3 + 1)), .int .i64 (num zs ((j + 1) * 3 + 2))] 94) = wv at *
            clear c0 c1 c2
            refine wp_region_held_drew (S := (fun w' => Below wv.heap.size wv w' ∧ w'.cell? ⟨wr.heap.size, 0, none⟩ = some (.int .i64 (num zs ((j + 1) * 3))) ∧ w'.cell? ⟨wr.heap.size, 1, none⟩ = some (.int .i64 (num zs ((j + 1) * 3 + 1))) ∧ w'.cell? ⟨wr.heap.size, 2, none⟩ = some (.int .i64 (num zs ((j + 1) * 3 + 2))) ∧ w'.cell? ⟨b, o + j * 3, none⟩ = some (.int .i64 (num zs (j * 3))))) (by kernel_rfl) ?hSq7xs (fun hHeld => ?restq7xs)
            case hSq7xs => ((first | assumption | ((((try dsimp only); repeat' apply And.intro) <;> (first | assumption | (refine below_later ?_ (by assumption); first | assumption | (simp only [*]; done) | (go_grown; done)) | (refine cell_later (by assumption) ?_; first | assumption | (simp only [*]; done) | (simp [go_sem]; done)) | (go_grown; done) | (simp [go_sem]; done))))))
            refine wpAnyH_take (i := 0) (oi := ?oiq7x1) (v := ?vq7x1) ?hiq7x1 (by kernel_rfl) (by kernel_rfl) (by kernel_rfl) ?hQq7x1 (Or.inl ⟨?hwq7x1, ?hyq7x1⟩) (by assumption) ?restq7x1
            case hiq7x1 => simp only [List.getElem?_toArray, List.getElem?_cons_succ, List.getElem?_cons_zero]; exact rfl
            case hQq7x1 => exact fun _ _ _ h => h
            case hwq7x1 => rfl
            case hyq7x1 => ((intro w hSw; (try dsimp only at hSw); go_simp) <;> with_reducible rfl)
            try simp only [Act.put, List.setIfInBounds_toArray, List.set_cons_zero, List.set_cons_succ]
            refine wpAnyH_ready (rs := [1]) (by kernel_rfl) (by simp) ?_
            refine AllReadyH.cons (o := ?oq7x2) ?hoq7x2 (fun K hK => ?stepq7x2) ?moreq7x2
            case hoq7x2 => simp only [List.getElem?_toArray, List.getElem?_cons_succ, List.getElem?_cons_zero]; exact rfl
            case moreq7x2 => exact AllReadyH.nil
            go_simp
            (go_at_call 72; refine (lev_impl _ _ _ _).mono ?_; rw [hOB]; rintro e w' ⟨rfl, hb⟩)
            refine hK.out _ _ ?hSq7x2 (fun hHeld => ?restq7x2)
            case hSq7x2 => ((first | assumption | ((((try dsimp only); repeat' apply And.intro) <;> (first | assumption | (refine below_later ?_ (by assumption); first | assumption | (simp only [*]; done) | (go_grown; done)) | (refine cell_later (by assumption) ?_; first | assumption | (simp only [*]; done) | (simp [go_sem]; done)) | (go_grown; done) | (simp [go_sem]; done))))))
            clear hK K
            try simp only [Act.put, List.setIfInBounds_toArray, List.set_cons_zero, List.set_cons_succ]
            refine wpAnyH_take (i := 2) (oi := ?oiq7x3) (v := ?vq7x3) ?hiq7x3 (by kernel_rfl) (by kernel_rfl) (by kernel_rfl) ?hQq7x3 (Or.inl ⟨?hwq7x3, ?hyq7x3⟩) (by assumption) ?restq7x3
            case hiq7x3 => simp only [List.getElem?_toArray, List.getElem?_cons_succ, List.getElem?_cons_zero]; exact rfl
            case hQq7x3 => exact fun _ _ _ h => h
            case hwq7x3 => rfl
            case hyq7x3 => ((intro w hSw; (try dsimp only at hSw); go_simp) <;> with_reducible rfl)
            try simp only [Act.put, List.setIfInBounds_toArray, List.set_cons_zero, List.set_cons_succ]
            refine wpAnyH_take (i := 3) (oi := ?oiq7x4) (v := ?vq7x4) ?hiq7x4 (by kernel_rfl) (by kernel_rfl) (by kernel_rfl) ?hQq7x4 (Or.inl ⟨?hwq7x4, ?hyq7x4⟩) (by assumption) ?restq7x4
            case hiq7x4 => simp only [List.getElem?_toArray, List.getElem?_cons_succ, List.getElem?_cons_zero]; exact rfl
            case hQq7x4 => exact fun _ _ _ h => h
            case hwq7x4 => rfl
            case hyq7x4 => ((intro w hSw; (try dsimp only at hSw); go_simp) <;> with_reducible rfl)
            try simp only [Act.put, List.setIfInBounds_toArray, List.set_cons_zero, List.set_cons_succ]
            refine wpAnyH_take (i := 4) (oi := ?oiq7x5) (v := ?vq7x5) ?hiq7x5 (by kernel_rfl) (by kernel_rfl) (by kernel_rfl) ?hQq7x5 (Or.inl ⟨?hwq7x5, ?hyq7x5⟩) (by assumption) ?restq7x5
            case hiq7x5 => simp only [List.getElem?_toArray, List.getElem?_cons_succ, List.getElem?_cons_zero]; exact rfl
            case hQq7x5 => exact fun _ _ _ h => h
            case hwq7x5 => rfl
            case hyq7x5 => ((intro w hSw; (try dsimp only at hSw); go_simp) <;> with_reducible rfl)
            try simp only [Act.put, List.setIfInBounds_toArray, List.set_cons_zero, List.set_cons_succ]
            refine wpAnyH_take (i := 5) (oi := ?oiq7x6) (v := ?vq7x6) ?hiq7x6 (by kernel_rfl) (by kernel_rfl) (by kernel_rfl) ?hQq7x6 (Or.inl ⟨?hwq7x6, ?hyq7x6⟩) (by assumption) ?restq7x6
            case hiq7x6 => simp only [List.getElem?_toArray, List.getElem?_cons_succ, List.getElem?_cons_zero]; exact rfl
            case hQq7x6 => exact fun _ _ _ h => h
            case hwq7x6 => rfl
            case hyq7x6 => ((intro w hSw; (try dsimp only at hSw); go_simp) <;> with_reducible rfl)
            try simp only [Act.put, List.setIfInBounds_toArray, List.set_cons_zero, List.set_cons_succ]
            refine wpAnyH_take (i := 6) (oi := ?oiq7x7) (v := ?vq7x7) ?hiq7x7 (by kernel_rfl) (by kernel_rfl) (by kernel_rfl) ?hQq7x7 (Or.inl ⟨?hwq7x7, ?hyq7x7⟩) (by assumption) ?restq7x7
            case hiq7x7 => simp only [List.getElem?_toArray, List.getElem?_cons_succ, List.getElem?_cons_zero]; exact rfl
            case hQq7x7 => exact fun _ _ _ h => h
            case hwq7x7 => rfl
            case hyq7x7 => ((intro w hSw; (try dsimp only at hSw); go_simp) <;> with_reducible rfl)
            try simp only [Act.put, List.setIfInBounds_toArray, List.set_cons_zero, List.set_cons_succ]
            refine wpAnyH_take (i := 7) (oi := ?oiq7x8) (v := ?vq7x8) ?hiq7x8 (by kernel_rfl) (by kernel_rfl) (by kernel_rfl) ?hQq7x8 (Or.inl ⟨?hwq7x8, ?hyq7x8⟩) (by assumption) ?restq7x8
            case hiq7x8 => simp only [List.getElem?_toArray, List.getElem?_cons_succ, List.getElem?_cons_zero]; exact rfl
            case hQq7x8 => exact fun _ _ _ h => h
            case hwq7x8 => rfl
            case hyq7x8 => ((intro w hSw; (try dsimp only at hSw); go_simp) <;> with_reducible rfl)
            try simp only [Act.put, List.setIfInBounds_toArray, List.set_cons_zero, List.set_cons_succ]
            refine wpAnyH_take (i := 8) (oi := ?oiq7x9) (v := ?vq7x9) ?hiq7x9 (by kernel_rfl) (by kernel_rfl) (by kernel_rfl) ?hQq7x9 (Or.inl ⟨?hwq7x9, ?hyq7x9⟩) (by assumption) ?restq7x9
            case hiq7x9 => simp only [List.getElem?_toArray, List.getElem?_cons_succ, List.getElem?_cons_zero]; exact rfl
            case hQq7x9 => exact fun _ _ _ h => h
            case hwq7x9 => rfl
            case hyq7x9 => ((intro w hSw; (try dsimp only at hSw); go_simp) <;> with_reducible rfl)
            try simp only [Act.put, List.setIfInBounds_toArray, List.set_cons_zero, List.set_cons_succ]
            refine wpAnyH_take (i := 9) (oi := ?oiq7x10) (v := ?vq7x10) ?hiq7x10 (by kernel_rfl) (by kernel_rfl) (by kernel_rfl) ?hQq7x10 (Or.inl ⟨?hwq7x10, ?hyq7x10⟩) (by assumption) ?restq7x10
            case hiq7x10 => simp only [List.getElem?_toArray, List.getElem?_cons_succ, List.getElem?_cons_zero]; exact rfl
            case hQq7x10 => exact fun _ _ _ h => h
            case hwq7x10 => rfl
            case hyq7x10 => ((intro w hSw; (try dsimp only at hSw); go_simp) <;> with_reducible rfl)
            try simp only [Act.put, List.setIfInBounds_toArray, List.set_cons_zero, List.set_cons_succ]
            refine wpAnyH_take (i := 10) (oi := ?oiq7x11) (v := ?vq7x11) ?hiq7x11 (by kernel_rfl) (by kernel_rfl) (by kernel_rfl) ?hQq7x11 (Or.inl ⟨?hwq7x11, ?hyq7x11⟩) (by assumption) ?restq7x11
            case hiq7x11 => simp only [List.getElem?_toArray, List.getElem?_cons_succ, List.getElem?_cons_zero]; exact rfl
            case hQq7x11 => exact fun _ _ _ h => h
            case hwq7x11 => rfl
            case hyq7x11 => ((intro w hSw; (try dsimp only at hSw); go_simp) <;> with_reducible rfl)
            try simp only [Act.put, List.setIfInBounds_toArray, List.set_cons_zero, List.set_cons_succ]
            refine wpAnyH_take (i := 11) (oi := ?oiq7x12) (v := ?vq7x12) ?hiq7x12 (by kernel_rfl) (by kernel_rfl) (by kernel_rfl) ?hQq7x12 (Or.inl ⟨?hwq7x12, ?hyq7x12⟩) (by assumption) ?restq7x12
            case hiq7x12 => simp only [List.getElem?_toArray, List.getElem?_cons_succ, List.getElem?_cons_zero]; exact rfl
            case hQq7x12 => exact fun _ _ _ h => h
            case hwq7x12 => rfl
            case hyq7x12 => ((intro w hSw; (try dsimp only at hSw); go_simp) <;> with_reducible rfl)
            try simp only [Act.put, List.setIfInBounds_toArray, List.set_cons_zero, List.set_cons_succ]
            refine wpAnyH_take (i := 12) (oi := ?oiq7x13) (v := ?vq7x13) ?hiq7x13 (by kernel_rfl) (by kernel_rfl) (by kernel_rfl) ?hQq7x13 (Or.inl ⟨?hwq7x13, ?hyq7x13⟩) (by assumption) ?restq7x13
            case hiq7x13 => simp only [List.getElem?_toArray, List.getElem?_cons_succ, List.getElem?_cons_zero]; exact rfl
            case hQq7x13 => exact fun _ _ _ h => h
            case hwq7x13 => rfl
            case hyq7x13 => ((intro w hSw; (try dsimp only at hSw); go_simp) <;> with_reducible rfl)
            try simp only [Act.put, List.setIfInBounds_toArray, List.set_cons_zero, List.set_cons_succ]
            refine wpAnyH_take (i := 13) (oi := ?oiq7x14) (v := ?vq7x14) ?hiq7x14 (by kernel_rfl) (by kernel_rfl) (by kernel_rfl) ?hQq7x14 (Or.inl ⟨?hwq7x14, ?hyq7x14⟩) (by assumption) ?restq7x14
            case hiq7x14 => simp only [List.getElem?_toArray, List.getElem?_cons_succ, List.getElem?_cons_zero]; exact rfl
            case hQq7x14 => exact fun _ _ _ h => h
            case hwq7x14 => rfl
            case hyq7x14 => ((intro w hSw; (try dsimp only at hSw); go_simp) <;> with_reducible rfl)
            try simp only [Act.put, List.setIfInBounds_toArray, List.set_cons_zero, List.set_cons_succ]
            refine wpAnyH_take (i := 14) (oi := ?oiq7x15) (v := ?vq7x15) ?hiq7x15 (by kernel_rfl) (by kernel_rfl) (by kernel_rfl) ?hQq7x15 (Or.inl ⟨?hwq7x15, ?hyq7x15⟩) (by assumption) ?restq7x15
            case hiq7x15 => simp only [List.getElem?_toArray, List.getElem?_cons_succ, List.getElem?_cons_zero]; exact rfl
            case hQq7x15 => exact fun _ _ _ h => h
            case hwq7x15 => rfl
            case hyq7x15 => ((intro w hSw; (try dsimp only at hSw); go_simp) <;> with_reducible rfl)
            try simp only [Act.put, List.setIfInBounds_toArray, List.set_cons_zero, List.set_cons_succ]
            refine wpAnyH_take (i := 15) (oi := ?oiq7x16) (v := ?vq7x16) ?hiq7x16 (by kernel_rfl) (by kernel_rfl) (by kernel_rfl) ?hQq7x16 (Or.inl ⟨?hwq7x16, ?hyq7x16⟩) (by assumption) ?restq7x16
            case hiq7x16 => simp only [List.getElem?_toArray, List.getElem?_cons_succ, List.getElem?_cons_zero]; exact rfl
            case hQq7x16 => exact fun _ _ _ h => h
            case hwq7x16 => rfl
            case hyq7x16 => ((intro w hSw; (try dsimp only at hSw); go_simp) <;> with_reducible rfl)
            try simp only [Act.put, List.setIfInBounds_toArray, List.set_cons_zero, List.set_cons_succ]
            refine wpAnyH_ready (rs := [16]) (by kernel_rfl) (by simp) ?_
            refine AllReadyH.cons (o := ?oq7x17) ?hoq7x17 (fun K hK => ?stepq7x17) ?moreq7x17
            case hoq7x17 => simp only [List.getElem?_toArray, List.getElem?_cons_succ, List.getElem?_cons_zero]; exact rfl
            case moreq7x17 => exact AllReadyH.nil
            go_simp
            (go_at_call 73; refine (lev_better _ _ _ _).mono ?_; rw [hAB]; rintro e w' ⟨rfl, rfl⟩)
            refine hK.out _ _ ?hSq7x17 (fun hHeld => ?restq7x17)
            case hSq7x17 => ((first | assumption | ((((try dsimp only); repeat' apply And.intro) <;> (first | assumption | (refine below_later ?_ (by assumption); first | assumption | (simp only [*]; done) | (go_grown; done)) | (refine cell_later (by assumption) ?_; first | assumption | (simp only [*]; done) | (simp [go_sem]; done)) | (go_grown; done) | (simp [go_sem]; done))))))
            clear hK K
            try simp only [Act.put, List.setIfInBounds_toArray, List.set_cons_zero, List.set_cons_succ]
            refine wpAnyH_take (i := 17) (oi := ?oiq7x18) (v := ?vq7x18) ?hiq7x18 (by kernel_rfl) (by kernel_rfl) (by kernel_rfl) ?hQq7x18 (Or.inl ⟨?hwq7x18, ?hyq7x18⟩) (by assumption) ?restq7x18
            case hiq7x18 => simp only [List.getElem?_toArray, List.getElem?_cons_succ, List.getElem?_cons_zero]; exact rfl
            case hQq7x18 => exact fun _ _ _ h => h
            case hwq7x18 => rfl
            case hyq7x18 => ((intro w hSw; (try dsimp only at hSw); go_simp) <;> with_reducible rfl)
            try simp only [Act.put, List.setIfInBounds_toArray, List.set_cons_zero, List.set_cons_succ]
            refine wpAnyH_take (i := 18) (oi := ?oiq7x19) (v := ?vq7x19) ?hiq7x19 (by kernel_rfl) (by kernel_rfl) (by kernel_rfl) ?hQq7x19 (Or.inl ⟨?hwq7x19, ?hyq7x19⟩) (by assumption) ?restq7x19
            case hiq7x19 => simp only [List.getElem?_toArray, List.getElem?_cons_succ, List.getElem?_cons_zero]; exact rfl
            case hQq7x19 => exact fun _ _ _ h => h
            case hwq7x19 => rfl
            case hyq7x19 => ((intro w hSw; (try dsimp only at hSw); go_simp) <;> with_reducible rfl)
            try simp only [Act.put, List.setIfInBounds_toArray, List.set_cons_zero, List.set_cons_succ]
            refine wpAnyH_take (i := 19) (oi := ?oiq7x20) (v := ?vq7x20) ?hiq7x20 (by kernel_rfl) (by kernel_rfl) (by kernel_rfl) ?hQq7x20 (Or.inl ⟨?hwq7x20, ?hyq7x20⟩) (by assumption) ?restq7x20
            case hiq7x20 => simp only [List.getElem?_toArray, List.getElem?_cons_succ, List.getElem?_cons_zero]; exact rfl
            case hQq7x20 => exact fun _ _ _ h => h
            case hwq7x20 => rfl
            case hyq7x20 => ((intro w hSw; (try dsimp only at hSw); go_simp) <;> with_reducible rfl)
            try simp only [Act.put, List.setIfInBounds_toArray, List.set_cons_zero, List.set_cons_succ]
            refine wpAnyH_done (by kernel_rfl) ?_ _
            have hBz := HB.out.trans (hHeld.1.mono HB.out.size)
            clear hHeld
            go_wp2_with fail
            go_ret
            exact ⟨by rw [HN.out]; rfl, hBz⟩
      · have HN := Lib.hid (lvsB_no (lvTo_no (side := side) (zs := zs) (k := k) (by rw [hat]; rfl) n hlt))
        have hOB : lvI (num zs (k * 3)) (num zs (k * 3 + 1)) (num zs (k * 3 + 2)) = false := hat
        clear hat
        obtain ⟨b, o, rfl, hb, c0, c1, c2⟩ := (hl.below hbel).row3 hlt
        have hbw : b < wr.heap.size := Nat.lt_of_lt_of_le hb hbel.size
        clear hbel
        have x0 : (wr.alloc (.cells #[.int .i64 (num zs (k * 3)), .int .i64 (num zs (k * 3 + 1)), .int .i64 (num zs (k * 3 + 2))] 94)).cell? ⟨wr.heap.size, 0, none⟩ = _ := box_cell (Below.refl _ _) 0
        have x1 : (wr.alloc (.cells #[.int .i64 (num zs (k * 3)), .int .i64 (num zs (k * 3 + 1)), .int .i64 (num zs (k * 3 + 2))] 94)).cell? ⟨wr.heap.size, 1, none⟩ = _ := box_cell (Below.refl _ _) 1
        have x2 : (wr.alloc (.cells #[.int .i64 (num zs (k * 3)), .int .i64 (num zs (k * 3 + 1)), .int .i64 (num zs (k * 3 + 2))] 94)).cell? ⟨wr.heap.size, 2, none⟩ = _ := box_cell (Below.refl _ _) 2
        simp only [List.getElem?_toArray, List.getElem?_cons_zero, List.getElem?_cons_succ] at x0 x1 x2
        have HB := Lib.hid (HB.out.alloc HB.out.size (.cells #[.int .i64 (num zs (k * 3)), .int .i64 (num zs (k * 3 + 1)), .int .i64 (num zs (k * 3 + 2))] 94))
        go_upto_region 6 with fail
        generalize wr.alloc (.cells #[.int .i64 (num zs (k * 3)), .int .i64 (num zs (k * 3 + 1)), .int .i64 (num zs (k * 3 + 2))] 94) = wv at *
        clear c0 c1 c2
        refine wp_region_held_drew (S := (fun w' => Below wv.heap.size wv w' ∧ w'.cell? ⟨wr.heap.size, 0, none⟩ = some (.int .i64 (num zs (k * 3))) ∧ w'.cell? ⟨wr.heap.size, 1, none⟩ = some (.int .i64 (num zs (k * 3 + 1))) ∧ w'.cell? ⟨wr.heap.size, 2, none⟩ = some (.int .i64 (num zs (k * 3 + 2))))) (by kernel_rfl) ?hSq8xs (fun hHeld => ?restq8xs)
        case hSq8xs => ((first | assumption | ((((try dsimp only); repeat' apply And.intro) <;> (first | assumption | (refine below_later ?_ (by assumption); first | assumption | (simp only [*]; done) | (go_grown; done)) | (refine cell_later (by assumption) ?_; first | assumption | (simp only [*]; done) | (simp [go_sem]; done)) | (go_grown; done) | (simp [go_sem]; done))))))
        refine wpAnyH_take (i := 0) (oi := ?oiq8x1) (v := ?vq8x1) ?hiq8x1 (by kernel_rfl) (by kernel_rfl) (by kernel_rfl) ?hQq8x1 (Or.inl ⟨?hwq8x1, ?hyq8x1⟩) (by assumption) ?restq8x1
        case hiq8x1 => simp only [List.getElem?_toArray, List.getElem?_cons_succ, List.getElem?_cons_zero]; exact rfl
        case hQq8x1 => exact fun _ _ _ h => h
        case hwq8x1 => rfl
        case hyq8x1 => ((intro w hSw; (try dsimp only at hSw); go_simp) <;> with_reducible rfl)
        try simp only [Act.put, List.setIfInBounds_toArray, List.set_cons_zero, List.set_cons_succ]
        refine wpAnyH_ready (rs := [1]) (by kernel_rfl) (by simp) ?_
        refine AllReadyH.cons (o := ?oq8x2) ?hoq8x2 (fun K hK => ?stepq8x2) ?moreq8x2
        case hoq8x2 => simp only [List.getElem?_toArray, List.getElem?_cons_succ, List.getElem?_cons_zero]; exact rfl
        case moreq8x2 => exact AllReadyH.nil
        go_simp
        (go_at_call 72; refine (lev_impl _ _ _ _).mono ?_; rw [hOB]; rintro e w' ⟨rfl, hb⟩)
        refine hK.out _ _ ?hSq8x2 (fun hHeld => ?restq8x2)
        case hSq8x2 => ((first | assumption | ((((try dsimp only); repeat' apply And.intro) <;> (first | assumption | (refine below_later ?_ (by assumption); first | assumption | (simp only [*]; done) | (go_grown; done)) | (refine cell_later (by assumption) ?_; first | assumption | (simp only [*]; done) | (simp [go_sem]; done)) | (go_grown; done) | (simp [go_sem]; done))))))
        clear hK K
        try simp only [Act.put, List.setIfInBounds_toArray, List.set_cons_zero, List.set_cons_succ]
        refine wpAnyH_take (i := 2) (oi := ?oiq8x3) (v := ?vq8x3) ?hiq8x3 (by kernel_rfl) (by kernel_rfl) (by kernel_rfl) ?hQq8x3 (Or.inl ⟨?hwq8x3, ?hyq8x3⟩) (by assumption) ?restq8x3
        case hiq8x3 => simp only [List.getElem?_toArray, List.getElem?_cons_succ, List.getElem?_cons_zero]; exact rfl
        case hQq8x3 => exact fun _ _ _ h => h
        case hwq8x3 => rfl
        case hyq8x3 => ((intro w hSw; (try dsimp only at hSw); go_simp) <;> with_reducible rfl)
        try simp only [Act.put, List.setIfInBounds_toArray, List.set_cons_zero, List.set_cons_succ]
        refine wpAnyH_take (i := 3) (oi := ?oiq8x4) (v := ?vq8x4) ?hiq8x4 (by kernel_rfl) (by kernel_rfl) (by kernel_rfl) ?hQq8x4 (Or.inl ⟨?hwq8x4, ?hyq8x4⟩) (by assumption) ?restq8x4
        case hiq8x4 => simp only [List.getElem?_toArray, List.getElem?_cons_succ, List.getElem?_cons_zero]; exact rfl
        case hQq8x4 => exact fun _ _ _ h => h
        case hwq8x4 => rfl
        case hyq8x4 => ((intro w hSw; (try dsimp only at hSw); go_simp) <;> with_reducible rfl)
        try simp only [Act.put, List.setIfInBounds_toArray, List.set_cons_zero, List.set_cons_succ]
        refine wpAnyH_take (i := 4) (oi := ?oiq8x5) (v := _) ?hiq8x5 (by kernel_rfl) (by kernel_rfl) (by kernel_rfl) ?hQq8x5 (Or.inr ⟨?hwq8x5, rfl⟩) (by assumption) ?restq8x5
        case hiq8x5 => simp only [List.getElem?_toArray, List.getElem?_cons_succ, List.getElem?_cons_zero]; exact rfl
        case hQq8x5 => exact fun _ _ _ h => h
        case hwq8x5 => rfl
        try simp only [Act.put, List.setIfInBounds_toArray, List.set_cons_zero, List.set_cons_succ]
        refine wpAnyH_take (i := 5) (oi := ?oiq8x6) (v := _) ?hiq8x6 (by kernel_rfl) (by kernel_rfl) (by kernel_rfl) ?hQq8x6 (Or.inr ⟨?hwq8x6, rfl⟩) (by assumption) ?restq8x6
        case hiq8x6 => simp only [List.getElem?_toArray, List.getElem?_cons_succ, List.getElem?_cons_zero]; exact rfl
        case hQq8x6 => exact fun _ _ _ h => h
        case hwq8x6 => rfl
        try simp only [Act.put, List.setIfInBounds_toArray, List.set_cons_zero, List.set_cons_succ]
        refine wpAnyH_take (i := 6) (oi := ?oiq8x7) (v := _) ?hiq8x7 (by kernel_rfl) (by kernel_rfl) (by kernel_rfl) ?hQq8x7 (Or.inr ⟨?hwq8x7, rfl⟩) (by assumption) ?restq8x7
        case hiq8x7 => simp only [List.getElem?_toArray, List.getElem?_cons_succ, List.getElem?_cons_zero]; exact rfl
        case hQq8x7 => exact fun _ _ _ h => h
        case hwq8x7 => rfl
        try simp only [Act.put, List.setIfInBounds_toArray, List.set_cons_zero, List.set_cons_succ]
        refine wpAnyH_take (i := 7) (oi := ?oiq8x8) (v := _) ?hiq8x8 (by kernel_rfl) (by kernel_rfl) (by kernel_rfl) ?hQq8x8 (Or.inr ⟨?hwq8x8, rfl⟩) (by assumption) ?restq8x8
        case hiq8x8 => simp only [List.getElem?_toArray, List.getElem?_cons_succ, List.getElem?_cons_zero]; exact rfl
        case hQq8x8 => exact fun _ _ _ h => h
        case hwq8x8 => rfl
        try simp only [Act.put, List.setIfInBounds_toArray, List.set_cons_zero, List.set_cons_succ]
        refine wpAnyH_take (i := 8) (oi := ?oiq8x9) (v := _) ?hiq8x9 (by kernel_rfl) (by kernel_rfl) (by kernel_rfl) ?hQq8x9 (Or.inr ⟨?hwq8x9, rfl⟩) (by assumption) ?restq8x9
        case hiq8x9 => simp only [List.getElem?_toArray, List.getElem?_cons_succ, List.getElem?_cons_zero]; exact rfl
        case hQq8x9 => exact fun _ _ _ h => h
        case hwq8x9 => rfl
        try simp only [Act.put, List.setIfInBounds_toArray, List.set_cons_zero, List.set_cons_succ]
        refine wpAnyH_take (i := 9) (oi := ?oiq8x10) (v := _) ?hiq8x10 (by kernel_rfl) (by kernel_rfl) (by kernel_rfl) ?hQq8x10 (Or.inr ⟨?hwq8x10, rfl⟩) (by assumption) ?restq8x10
        case hiq8x10 => simp only [List.getElem?_toArray, List.getElem?_cons_succ, List.getElem?_cons_zero]; exact rfl
        case hQq8x10 => exact fun _ _ _ h => h
        case hwq8x10 => rfl
        try simp only [Act.put, List.setIfInBounds_toArray, List.set_cons_zero, List.set_cons_succ]
        refine wpAnyH_take (i := 10) (oi := ?oiq8x11) (v := _) ?hiq8x11 (by kernel_rfl) (by kernel_rfl) (by kernel_rfl) ?hQq8x11 (Or.inr ⟨?hwq8x11, rfl⟩) (by assumption) ?restq8x11
        case hiq8x11 => simp only [List.getElem?_toArray, List.getElem?_cons_succ, List.getElem?_cons_zero]; exact rfl
        case hQq8x11 => exact fun _ _ _ h => h
        case hwq8x11 => rfl
        try simp only [Act.put, List.setIfInBounds_toArray, List.set_cons_zero, List.set_cons_succ]
        refine wpAnyH_take (i := 11) (oi := ?oiq8x12) (v := _) ?hiq8x12 (by kernel_rfl) (by kernel_rfl) (by kernel_rfl) ?hQq8x12 (Or.inr ⟨?hwq8x12, rfl⟩) (by assumption) ?restq8x12
        case hiq8x12 => simp only [List.getElem?_toArray, List.getElem?_cons_succ, List.getElem?_cons_zero]; exact rfl
        case hQq8x12 => exact fun _ _ _ h => h
        case hwq8x12 => rfl
        try simp only [Act.put, List.setIfInBounds_toArray, List.set_cons_zero, List.set_cons_succ]
        refine wpAnyH_take (i := 12) (oi := ?oiq8x13) (v := _) ?hiq8x13 (by kernel_rfl) (by kernel_rfl) (by kernel_rfl) ?hQq8x13 (Or.inr ⟨?hwq8x13, rfl⟩) (by assumption) ?restq8x13
        case hiq8x13 => simp only [List.getElem?_toArray, List.getElem?_cons_succ, List.getElem?_cons_zero]; exact rfl
        case hQq8x13 => exact fun _ _ _ h => h
        case hwq8x13 => rfl
        try simp only [Act.put, List.setIfInBounds_toArray, List.set_cons_zero, List.set_cons_succ]
        refine wpAnyH_take (i := 13) (oi := ?oiq8x14) (v := _) ?hiq8x14 (by kernel_rfl) (by kernel_rfl) (by kernel_rfl) ?hQq8x14 (Or.inr ⟨?hwq8x14, rfl⟩) (by assumption) ?restq8x14
        case hiq8x14 => simp only [List.getElem?_toArray, List.getElem?_cons_succ, List.getElem?_cons_zero]; exact rfl
        case hQq8x14 => exact fun _ _ _ h => h
        case hwq8x14 => rfl
        try simp only [Act.put, List.setIfInBounds_toArray, List.set_cons_zero, List.set_cons_succ]
        refine wpAnyH_take (i := 14) (oi := ?oiq8x15) (v := _) ?hiq8x15 (by kernel_rfl) (by kernel_rfl) (by kernel_rfl) ?hQq8x15 (Or.inr ⟨?hwq8x15, rfl⟩) (by assumption) ?restq8x15
        case hiq8x15 => simp only [List.getElem?_toArray, List.getElem?_cons_succ, List.getElem?_cons_zero]; exact rfl
        case hQq8x15 => exact fun _ _ _ h => h
        case hwq8x15 => rfl
        try simp only [Act.put, List.setIfInBounds_toArray, List.set_cons_zero, List.set_cons_succ]
        refine wpAnyH_take (i := 15) (oi := ?oiq8x16) (v := _) ?hiq8x16 (by kernel_rfl) (by kernel_rfl) (by kernel_rfl) ?hQq8x16 (Or.inr ⟨?hwq8x16, rfl⟩) (by assumption) ?restq8x16
        case hiq8x16 => simp only [List.getElem?_toArray, List.getElem?_cons_succ, List.getElem?_cons_zero]; exact rfl
        case hQq8x16 => exact fun _ _ _ h => h
        case hwq8x16 => rfl
        try simp only [Act.put, List.setIfInBounds_toArray, List.set_cons_zero, List.set_cons_succ]
        refine wpAnyH_ready (rs := [16]) (by kernel_rfl) (by simp) ?_
        refine AllReadyH.cons (o := ?oq8x17) ?hoq8x17 (fun K hK => ?stepq8x17) ?moreq8x17
        case hoq8x17 => simp only [List.getElem?_toArray, List.getElem?_cons_succ, List.getElem?_cons_zero]; exact rfl
        case moreq8x17 => exact AllReadyH.nil
        go_simp
        refine hK.out _ _ ?hSq8x17 (fun hHeld => ?restq8x17)
        case hSq8x17 => ((first | assumption | ((((try dsimp only); repeat' apply And.intro) <;> (first | assumption | (refine below_later ?_ (by assumption); first | assumption | (simp only [*]; done) | (go_grown; done)) | (refine cell_later (by assumption) ?_; first | assumption | (simp only [*]; done) | (simp [go_sem]; done)) | (go_grown; done) | (simp [go_sem]; done))))))
        clear hK K
        try simp only [Act.put, List.setIfInBounds_toArray, List.set_cons_zero, List.set_cons_succ]
        refine wpAnyH_take (i := 17) (oi := ?oiq8x18) (v := _) ?hiq8x18 (by kernel_rfl) (by kernel_rfl) (by kernel_rfl) ?hQq8x18 (Or.inr ⟨?hwq8x18, rfl⟩) (by assumption) ?restq8x18
        case hiq8x18 => simp only [List.getElem?_toArray, List.getElem?_cons_succ, List.getElem?_cons_zero]; exact rfl
        case hQq8x18 => exact fun _ _ _ h => h
        case hwq8x18 => rfl
        try simp only [Act.put, List.setIfInBounds_toArray, List.set_cons_zero, List.set_cons_succ]
        refine wpAnyH_take (i := 18) (oi := ?oiq8x19) (v := _) ?hiq8x19 (by kernel_rfl) (by kernel_rfl) (by kernel_rfl) ?hQq8x19 (Or.inr ⟨?hwq8x19, rfl⟩) (by assumption) ?restq8x19
        case hiq8x19 => simp only [List.getElem?_toArray, List.getElem?_cons_succ, List.getElem?_cons_zero]; exact rfl
        case hQq8x19 => exact fun _ _ _ h => h
        case hwq8x19 => rfl
        try simp only [Act.put, List.setIfInBounds_toArray, List.set_cons_zero, List.set_cons_succ]
        refine wpAnyH_take (i := 19) (oi := ?oiq8x20) (v := ?vq8x20) ?hiq8x20 (by kernel_rfl) (by kernel_rfl) (by kernel_rfl) ?hQq8x20 (Or.inl ⟨?hwq8x20, ?hyq8x20⟩) (by assumption) ?restq8x20
        case hiq8x20 => simp only [List.getElem?_toArray, List.getElem?_cons_succ, List.getElem?_cons_zero]; exact rfl
        case hQq8x20 => exact fun _ _ _ h => h
        case hwq8x20 => rfl
        case hyq8x20 => ((intro w hSw; (try dsimp only at hSw); go_simp) <;> with_reducible rfl)
        try simp only [Act.put, List.setIfInBounds_toArray, List.set_cons_zero, List.set_cons_succ]
        refine wpAnyH_done (by kernel_rfl) ?_ _
        have hBz := HB.out.trans (hHeld.1.mono HB.out.size)
        clear hHeld
        go_wp2_with fail
        go_ret
        exact ⟨by rw [HN.out]; rfl, hBz⟩
    · obtain rfl : k = n := by omega
      clear hl hbel
      have HN : Hid (lvsB side zs k = true) := Lib.hid (by simp [lvsB, HL.out, HE.out, h40'])
      go_wp2_with fail
      go_ret
      exact ⟨by rw [HN.out]; rfl, HB.out⟩
end Go.Proofs.Ytfodkefaflpicaa
