/-
  The update from levels to levels, the program's: the search for an equal level.
-/
import Derived.Test.YtfodkefaflpicaaDelt
namespace Go.Proofs.Ytfodkefaflpicaa
open Go.RowKit Wire

/-- level k is this one -/
def sameL (zs : List Int) (p q m : Int) (k : Nat) : Bool := p == num zs (k * 3) && (q == num zs (k * 3 + 1) && m == num zs (k * 3 + 2))
/-- one of the first levels is this one -/
def hasTo (zs : List Int) (p q m : Int) : Nat → Bool
  | 0 => false
  | k + 1 => hasTo zs p q m k || sameL zs p q m k
theorem hasTo_no {zs : List Int} {p q m : Int} : ∀ n, hasTo zs p q m n = false ↔ ∀ j, j < n → sameL zs p q m j = false
  | 0 => by simp [hasTo]
  | n + 1 => by
    rw [hasTo, Bool.or_eq_false_iff, hasTo_no n]
    constructor
    · rintro ⟨h1, h2⟩ j hj
      rcases Nat.lt_or_ge j n with h | h
      · exact h1 j h
      · obtain rfl : j = n := by omega
        exact h2
    · intro h
      exact ⟨fun j hj => h j (by omega), h n (by omega)⟩
theorem hasTo_yes {zs : List Int} {p q m : Int} {k n : Nat} (hk : k < n) (h : sameL zs p q m k = true) : hasTo zs p q m n = true := by
  cases hh : hasTo zs p q m n with
  | true => rfl
  | false =>
    have := (hasTo_no n).1 hh k hk
    rw [h] at this
    cases this
theorem ahd_trans {side a b c : Int} (h1 : ahdB side a b = true) (h2 : ahdB side b c = true) : ahdB side a c = true := by
  unfold ahdB at *
  split at h1 <;> simp_all <;> omega
theorem ahd_ne {side a b : Int} (h : ahdB side a b = true) : a ≠ b := by
  unfold ahdB at h
  split at h <;> simp at h <;> omega
theorem lv_order {side : Int} {zs : List Int} {n : Nat} (h : lvTo side zs n = true) : ∀ j i, i < j → j < n → ahdB side (num zs (i * 3)) (num zs (j * 3)) = true
  | 0, i, hi, _ => absurd hi (Nat.not_lt_zero i)
  | j + 1, i, hi, hj => by
    have hstep : ∀ n, lvTo side zs n = true → j + 1 < n → ahdB side (num zs (j * 3)) (num zs ((j + 1) * 3)) = true := by
      intro n
      induction n with
      | zero => intro _ h; omega
      | succ n ih =>
        intro h hlt
        simp only [lvTo, Bool.and_eq_true] at h
        rcases Nat.lt_or_ge (j + 1) n with h' | h'
        · exact ih h.1 h'
        · obtain rfl : n = j + 1 := by omega
          have := h.2.2
          simpa using this
    have h1 := hstep n h hj
    rcases Nat.lt_or_ge i j with h' | h'
    · exact ahd_trans (lv_order h j i h' (by omega)) h1
    · obtain rfl : i = j := by omega
      exact h1
/-- among right levels the first one with a price is the only one -/
theorem newL_has {side : Int} {zs : List Int} {n : Nat} {p q m : Int} (h : lvTo side zs n = true) : newL zs n p q m = !hasTo zs p q m n := by
  unfold newL
  cases hs : spotL zs p n with
  | none =>
    have h1 := (spotL_none n).1 hs
    have : hasTo zs p q m n = false := (hasTo_no n).2 (fun j hj => by
      have := h1 j hj
      simp only [sameL, Bool.and_eq_false_iff, beq_eq_false_iff_ne]
      exact .inl (fun e => this e.symm))
    rw [this]; rfl
  | some i =>
    obtain ⟨hi, hp, hb⟩ := spotL_some n hs
    dsimp only
    congr 1
    cases hh : hasTo zs p q m n with
    | false =>
      have := (hasTo_no n).1 hh i hi
      simp only [sameL, Bool.and_eq_false_iff, beq_eq_false_iff_ne] at this
      simp only [Bool.and_eq_false_iff, beq_eq_false_iff_ne]
      rcases this with h1 | h1 | h1
      · exact absurd hp.symm h1
      · exact .inr (.inl (fun e => h1 e.symm))
      · exact .inr (.inr (fun e => h1 e.symm))
    | true =>
      obtain ⟨k, hk, hsm⟩ : ∃ k, k < n ∧ sameL zs p q m k = true := by
        refine Classical.byContradiction fun hno => ?_
        have : hasTo zs p q m n = false := (hasTo_no n).2 (fun j hj => by
          cases hj2 : sameL zs p q m j with
          | false => rfl
          | true => exact absurd ⟨j, hj, hj2⟩ hno)
        rw [hh] at this
        cases this
      simp only [sameL, Bool.and_eq_true, beq_iff_eq] at hsm
      have hki : k = i := by
        rcases Nat.lt_trichotomy k i with h' | h' | h'
        · exact absurd hsm.1.symm (hb k h')
        · exact h'
        · exact absurd (hp.trans hsm.1) (ahd_ne (lv_order h k i h' hk))
      subst hki
      simp [hp, hsm.2.1, hsm.2.2]
set_option linter.unusedSimpArgs false in
set_option maxHeartbeats 1600000 in
set_option maxRecDepth 100000 in
theorem lev_Index (A : Option Addr) (n c : Nat) (zs : List Int) (p q m : Int) (w : World) (hl : Lst w w.heap.size 3 A n zs) (hn : n ≤ 1048576) :
    Calls Try.prog 115 #[.slice A n c, .agg #[.int .i64 p, .int .i64 q, .int .i64 m]] w fun e w' => (∃ z : Int, e = .returned (.int .i64 z) ∧ -1 ≤ z ∧ z ≤ 1048576 ∧ hasTo zs p q m n = decide (0 ≤ z)) ∧ Below w.heap.size w w' := by
  have hb0 : Below w.heap.size w (w.alloc (.cells #[.int .i64 p, .int .i64 q, .int .i64 m] 94)) := (Below.refl _ _).alloc (Nat.le_refl _) _
  have hk0 : (w.alloc (.cells #[.int .i64 p, .int .i64 q, .int .i64 m] 94)).heap[w.heap.size]? = some (.cells #[.int .i64 p, .int .i64 q, .int .i64 m] 94 (0, 0)) := heap_alloc_new w _
  go_enter Try.func115, Try.ntmps115
  go_wp2_with fail
  generalize w.alloc (.cells #[.int .i64 p, .int .i64 q, .int .i64 m] 94) = w0 at *
  go_loopw [8] (fun i wr => ∃ k : Nat, k ≤ n ∧ i = .int .i64 (k : Int) ∧ (∀ j, j < k → sameL zs p q m j = false) ∧ Below w.heap.size w wr ∧ (wr.cell? ⟨w.heap.size, 0, none⟩ = some (.int .i64 p) ∧ wr.cell? ⟨w.heap.size, 1, none⟩ = some (.int .i64 q) ∧ wr.cell? ⟨w.heap.size, 2, none⟩ = some (.int .i64 m))) (fun i _ => n - (intOf i).toNat)
  case atStart => exact ⟨0, Nat.zero_le _, rfl, fun j hj => absurd hj (Nat.not_lt_zero j), hb0, by simp [World.cell?, hk0], by simp [World.cell?, hk0], by simp [World.cell?, hk0]⟩
  case round =>
    clear hb0 hk0
    obtain ⟨k, hk, rfl, hno, hbel, x0, x1, x2⟩ := hrel
    have HN := Lib.hid hno
    clear hno
    by_cases hlt : k < n
    · obtain ⟨b, o, rfl, hb, c0, c1, c2⟩ := (hl.below hbel).row3 hlt
      by_cases h0 : p = num zs (k * 3)
      · rw [← h0] at c0
        by_cases h1 : q = num zs (k * 3 + 1)
        · rw [← h1] at c1
          by_cases h2 : m = num zs (k * 3 + 2)
          · rw [← h2] at c2
            have HS : Hid (sameL zs p q m k = true) := Lib.hid (by simp [sameL, ← h0, ← h1, ← h2])
            clear hl h0 h1 h2
            go_upto_region 4 with fail
            refine wp_region_held_drew (S := (fun w' => Below wr.heap.size wr w' ∧ w'.cell? ⟨w.heap.size, 0, none⟩ = some (.int .i64 p) ∧ w'.cell? ⟨w.heap.size, 1, none⟩ = some (.int .i64 q) ∧ w'.cell? ⟨w.heap.size, 2, none⟩ = some (.int .i64 m) ∧ w'.cell? ⟨b, o + k * 3, none⟩ = some (.int .i64 p) ∧ w'.cell? ⟨b, o + k * 3 + 1, none⟩ = some (.int .i64 q) ∧ w'.cell? ⟨b, o + k * 3 + 2, none⟩ = some (.int .i64 m))) (by kernel_rfl) ?hSq1xs (fun hHeld => ?restq1xs)
            case hSq1xs => ((first | assumption | ((((try dsimp only); repeat' apply And.intro) <;> (first | assumption | (refine below_later ?_ (by assumption); first | assumption | (simp only [*]; done) | (go_grown; done)) | (refine cell_later (by assumption) ?_; first | assumption | (simp only [*]; done) | (simp [go_sem]; done)) | (go_grown; done) | (simp [go_sem]; done))))))
            refine wpAnyH_take (i := 0) (oi := ?oiq1x1) (v := ?vq1x1) ?hiq1x1 (by kernel_rfl) (by kernel_rfl) (by kernel_rfl) ?hQq1x1 (Or.inl ⟨?hwq1x1, ?hyq1x1⟩) (by assumption) ?restq1x1
            case hiq1x1 => simp only [List.getElem?_toArray, List.getElem?_cons_succ, List.getElem?_cons_zero]; exact rfl
            case hQq1x1 => exact fun _ _ _ h => h
            case hwq1x1 => rfl
            case hyq1x1 => ((intro w hSw; (try dsimp only at hSw); go_simp) <;> with_reducible rfl)
            try simp only [Act.put, List.setIfInBounds_toArray, List.set_cons_zero, List.set_cons_succ]
            refine wpAnyH_take (i := 1) (oi := ?oiq1x2) (v := ?vq1x2) ?hiq1x2 (by kernel_rfl) (by kernel_rfl) (by kernel_rfl) ?hQq1x2 (Or.inl ⟨?hwq1x2, ?hyq1x2⟩) (by assumption) ?restq1x2
            case hiq1x2 => simp only [List.getElem?_toArray, List.getElem?_cons_succ, List.getElem?_cons_zero]; exact rfl
            case hQq1x2 => exact fun _ _ _ h => h
            case hwq1x2 => rfl
            case hyq1x2 => ((intro w hSw; (try dsimp only at hSw); go_simp) <;> with_reducible rfl)
            try simp only [Act.put, List.setIfInBounds_toArray, List.set_cons_zero, List.set_cons_succ]
            refine wpAnyH_take (i := 2) (oi := ?oiq1x3) (v := ?vq1x3) ?hiq1x3 (by kernel_rfl) (by kernel_rfl) (by kernel_rfl) ?hQq1x3 (Or.inl ⟨?hwq1x3, ?hyq1x3⟩) (by assumption) ?restq1x3
            case hiq1x3 => simp only [List.getElem?_toArray, List.getElem?_cons_succ, List.getElem?_cons_zero]; exact rfl
            case hQq1x3 => exact fun _ _ _ h => h
            case hwq1x3 => rfl
            case hyq1x3 => ((intro w hSw; (try dsimp only at hSw); go_simp) <;> with_reducible rfl)
            try simp only [Act.put, List.setIfInBounds_toArray, List.set_cons_zero, List.set_cons_succ]
            refine wpAnyH_take (i := 3) (oi := ?oiq1x4) (v := ?vq1x4) ?hiq1x4 (by kernel_rfl) (by kernel_rfl) (by kernel_rfl) ?hQq1x4 (Or.inl ⟨?hwq1x4, ?hyq1x4⟩) (by assumption) ?restq1x4
            case hiq1x4 => simp only [List.getElem?_toArray, List.getElem?_cons_succ, List.getElem?_cons_zero]; exact rfl
            case hQq1x4 => exact fun _ _ _ h => h
            case hwq1x4 => rfl
            case hyq1x4 => ((intro w hSw; (try dsimp only at hSw); go_simp) <;> with_reducible rfl)
            try simp only [Act.put, List.setIfInBounds_toArray, List.set_cons_zero, List.set_cons_succ]
            refine wpAnyH_take (i := 4) (oi := ?oiq1x5) (v := ?vq1x5) ?hiq1x5 (by kernel_rfl) (by kernel_rfl) (by kernel_rfl) ?hQq1x5 (Or.inl ⟨?hwq1x5, ?hyq1x5⟩) (by assumption) ?restq1x5
            case hiq1x5 => simp only [List.getElem?_toArray, List.getElem?_cons_succ, List.getElem?_cons_zero]; exact rfl
            case hQq1x5 => exact fun _ _ _ h => h
            case hwq1x5 => rfl
            case hyq1x5 => ((intro w hSw; (try dsimp only at hSw); go_simp) <;> with_reducible rfl)
            try simp only [Act.put, List.setIfInBounds_toArray, List.set_cons_zero, List.set_cons_succ]
            refine wpAnyH_take (i := 5) (oi := ?oiq1x6) (v := ?vq1x6) ?hiq1x6 (by kernel_rfl) (by kernel_rfl) (by kernel_rfl) ?hQq1x6 (Or.inl ⟨?hwq1x6, ?hyq1x6⟩) (by assumption) ?restq1x6
            case hiq1x6 => simp only [List.getElem?_toArray, List.getElem?_cons_succ, List.getElem?_cons_zero]; exact rfl
            case hQq1x6 => exact fun _ _ _ h => h
            case hwq1x6 => rfl
            case hyq1x6 => ((intro w hSw; (try dsimp only at hSw); go_simp) <;> with_reducible rfl)
            try simp only [Act.put, List.setIfInBounds_toArray, List.set_cons_zero, List.set_cons_succ]
            refine wpAnyH_done (by kernel_rfl) ?_ _
            have hB := hbel.trans (hHeld.1.mono hbel.size)
            clear hHeld
            have HT := Lib.hid (hasTo_yes hlt HS.out)
            go_wp2_with fail
            go_ret
            exact ⟨⟨_, rfl, by omega, by omega, by rw [HT.out]; simp⟩, hB⟩
          · have HS : Hid (sameL zs p q m k = false) := Lib.hid (by simp [sameL, h2])
            clear hl h0 h1
            go_upto_region 4 with fail
            refine wp_region_held_drew (S := (fun w' => Below wr.heap.size wr w' ∧ w'.cell? ⟨w.heap.size, 0, none⟩ = some (.int .i64 p) ∧ w'.cell? ⟨w.heap.size, 1, none⟩ = some (.int .i64 q) ∧ w'.cell? ⟨w.heap.size, 2, none⟩ = some (.int .i64 m) ∧ w'.cell? ⟨b, o + k * 3, none⟩ = some (.int .i64 p) ∧ w'.cell? ⟨b, o + k * 3 + 1, none⟩ = some (.int .i64 q) ∧ w'.cell? ⟨b, o + k * 3 + 2, none⟩ = some (.int .i64 (num zs (k * 3 + 2))))) (by kernel_rfl) ?hSq2xs (fun hHeld => ?restq2xs)
            case hSq2xs => ((first | assumption | ((((try dsimp only); repeat' apply And.intro) <;> (first | assumption | (refine below_later ?_ (by assumption); first | assumption | (simp only [*]; done) | (go_grown; done)) | (refine cell_later (by assumption) ?_; first | assumption | (simp only [*]; done) | (simp [go_sem]; done)) | (go_grown; done) | (simp [go_sem]; done))))))
            refine wpAnyH_take (i := 0) (oi := ?oiq2x1) (v := ?vq2x1) ?hiq2x1 (by kernel_rfl) (by kernel_rfl) (by kernel_rfl) ?hQq2x1 (Or.inl ⟨?hwq2x1, ?hyq2x1⟩) (by assumption) ?restq2x1
            case hiq2x1 => simp only [List.getElem?_toArray, List.getElem?_cons_succ, List.getElem?_cons_zero]; exact rfl
            case hQq2x1 => exact fun _ _ _ h => h
            case hwq2x1 => rfl
            case hyq2x1 => ((intro w hSw; (try dsimp only at hSw); go_simp) <;> with_reducible rfl)
            try simp only [Act.put, List.setIfInBounds_toArray, List.set_cons_zero, List.set_cons_succ]
            refine wpAnyH_take (i := 1) (oi := ?oiq2x2) (v := ?vq2x2) ?hiq2x2 (by kernel_rfl) (by kernel_rfl) (by kernel_rfl) ?hQq2x2 (Or.inl ⟨?hwq2x2, ?hyq2x2⟩) (by assumption) ?restq2x2
            case hiq2x2 => simp only [List.getElem?_toArray, List.getElem?_cons_succ, List.getElem?_cons_zero]; exact rfl
            case hQq2x2 => exact fun _ _ _ h => h
            case hwq2x2 => rfl
            case hyq2x2 => ((intro w hSw; (try dsimp only at hSw); go_simp) <;> with_reducible rfl)
            try simp only [Act.put, List.setIfInBounds_toArray, List.set_cons_zero, List.set_cons_succ]
            refine wpAnyH_take (i := 2) (oi := ?oiq2x3) (v := ?vq2x3) ?hiq2x3 (by kernel_rfl) (by kernel_rfl) (by kernel_rfl) ?hQq2x3 (Or.inl ⟨?hwq2x3, ?hyq2x3⟩) (by assumption) ?restq2x3
            case hiq2x3 => simp only [List.getElem?_toArray, List.getElem?_cons_succ, List.getElem?_cons_zero]; exact rfl
            case hQq2x3 => exact fun _ _ _ h => h
            case hwq2x3 => rfl
            case hyq2x3 => ((intro w hSw; (try dsimp only at hSw); go_simp) <;> with_reducible rfl)
            try simp only [Act.put, List.setIfInBounds_toArray, List.set_cons_zero, List.set_cons_succ]
            refine wpAnyH_take (i := 3) (oi := ?oiq2x4) (v := ?vq2x4) ?hiq2x4 (by kernel_rfl) (by kernel_rfl) (by kernel_rfl) ?hQq2x4 (Or.inl ⟨?hwq2x4, ?hyq2x4⟩) (by assumption) ?restq2x4
            case hiq2x4 => simp only [List.getElem?_toArray, List.getElem?_cons_succ, List.getElem?_cons_zero]; exact rfl
            case hQq2x4 => exact fun _ _ _ h => h
            case hwq2x4 => rfl
            case hyq2x4 => ((intro w hSw; (try dsimp only at hSw); go_simp) <;> with_reducible rfl)
            try simp only [Act.put, List.setIfInBounds_toArray, List.set_cons_zero, List.set_cons_succ]
            refine wpAnyH_take (i := 4) (oi := ?oiq2x5) (v := ?vq2x5) ?hiq2x5 (by kernel_rfl) (by kernel_rfl) (by kernel_rfl) ?hQq2x5 (Or.inl ⟨?hwq2x5, ?hyq2x5⟩) (by assumption) ?restq2x5
            case hiq2x5 => simp only [List.getElem?_toArray, List.getElem?_cons_succ, List.getElem?_cons_zero]; exact rfl
            case hQq2x5 => exact fun _ _ _ h => h
            case hwq2x5 => rfl
            case hyq2x5 => ((intro w hSw; (try dsimp only at hSw); go_simp) <;> with_reducible rfl)
            try simp only [Act.put, List.setIfInBounds_toArray, List.set_cons_zero, List.set_cons_succ]
            refine wpAnyH_take (i := 5) (oi := ?oiq2x6) (v := ?vq2x6) ?hiq2x6 (by kernel_rfl) (by kernel_rfl) (by kernel_rfl) ?hQq2x6 (Or.inl ⟨?hwq2x6, ?hyq2x6⟩) (by assumption) ?restq2x6
            case hiq2x6 => simp only [List.getElem?_toArray, List.getElem?_cons_succ, List.getElem?_cons_zero]; exact rfl
            case hQq2x6 => exact fun _ _ _ h => h
            case hwq2x6 => rfl
            case hyq2x6 => ((intro w hSw; (try dsimp only at hSw); go_simp) <;> with_reducible rfl)
            try simp only [Act.put, List.setIfInBounds_toArray, List.set_cons_zero, List.set_cons_succ]
            refine wpAnyH_done (by kernel_rfl) ?_ _
            have hB := hbel.trans (hHeld.1.mono hbel.size)
            have X3 := And.intro hHeld.2.1 (And.intro hHeld.2.2.1 hHeld.2.2.2.1)
            clear hHeld
            go_wp2_with fail
            go_roundw
            case rel => exact ⟨k + 1, by omega, by go_num, fun j hj => by
              rcases Nat.lt_or_ge j k with h | h
              · exact HN.out j h
              · obtain rfl : j = k := by omega
                exact HS.out, hB, X3⟩
            case measure => simp [intOf]; omega
        · have HS : Hid (sameL zs p q m k = false) := Lib.hid (by simp [sameL, h1])
          clear hl h0
          go_upto_region 4 with fail
          refine wp_region_held_drew (S := (fun w' => Below wr.heap.size wr w' ∧ w'.cell? ⟨w.heap.size, 0, none⟩ = some (.int .i64 p) ∧ w'.cell? ⟨w.heap.size, 1, none⟩ = some (.int .i64 q) ∧ w'.cell? ⟨w.heap.size, 2, none⟩ = some (.int .i64 m) ∧ w'.cell? ⟨b, o + k * 3, none⟩ = some (.int .i64 p) ∧ w'.cell? ⟨b, o + k * 3 + 1, none⟩ = some (.int .i64 (num zs (k * 3 + 1))) ∧ w'.cell? ⟨b, o + k * 3 + 2, none⟩ = some (.int .i64 (num zs (k * 3 + 2))))) (by kernel_rfl) ?hSq3xs (fun hHeld => ?restq3xs)
          case hSq3xs => ((first | assumption | ((((try dsimp only); repeat' apply And.intro) <;> (first | assumption | (refine below_later ?_ (by assumption); first | assumption | (simp only [*]; done) | (go_grown; done)) | (refine cell_later (by assumption) ?_; first | assumption | (simp only [*]; done) | (simp [go_sem]; done)) | (go_grown; done) | (simp [go_sem]; done))))))
          refine wpAnyH_take (i := 0) (oi := ?oiq3x1) (v := ?vq3x1) ?hiq3x1 (by kernel_rfl) (by kernel_rfl) (by kernel_rfl) ?hQq3x1 (Or.inl ⟨?hwq3x1, ?hyq3x1⟩) (by assumption) ?restq3x1
          case hiq3x1 => simp only [List.getElem?_toArray, List.getElem?_cons_succ, List.getElem?_cons_zero]; exact rfl
          case hQq3x1 => exact fun _ _ _ h => h
          case hwq3x1 => rfl
          case hyq3x1 => ((intro w hSw; (try dsimp only at hSw); go_simp) <;> with_reducible rfl)
          try simp only [Act.put, List.setIfInBounds_toArray, List.set_cons_zero, List.set_cons_succ]
          refine wpAnyH_take (i := 1) (oi := ?oiq3x2) (v := ?vq3x2) ?hiq3x2 (by kernel_rfl) (by kernel_rfl) (by kernel_rfl) ?hQq3x2 (Or.inl ⟨?hwq3x2, ?hyq3x2⟩) (by assumption) ?restq3x2
          case hiq3x2 => simp only [List.getElem?_toArray, List.getElem?_cons_succ, List.getElem?_cons_zero]; exact rfl
          case hQq3x2 => exact fun _ _ _ h => h
          case hwq3x2 => rfl
          case hyq3x2 => ((intro w hSw; (try dsimp only at hSw); go_simp) <;> with_reducible rfl)
          try simp only [Act.put, List.setIfInBounds_toArray, List.set_cons_zero, List.set_cons_succ]
          refine wpAnyH_take (i := 2) (oi := ?oiq3x3) (v := ?vq3x3) ?hiq3x3 (by kernel_rfl) (by kernel_rfl) (by kernel_rfl) ?hQq3x3 (Or.inl ⟨?hwq3x3, ?hyq3x3⟩) (by assumption) ?restq3x3
          case hiq3x3 => simp only [List.getElem?_toArray, List.getElem?_cons_succ, List.getElem?_cons_zero]; exact rfl
          case hQq3x3 => exact fun _ _ _ h => h
          case hwq3x3 => rfl
          case hyq3x3 => ((intro w hSw; (try dsimp only at hSw); go_simp) <;> with_reducible rfl)
          try simp only [Act.put, List.setIfInBounds_toArray, List.set_cons_zero, List.set_cons_succ]
          refine wpAnyH_take (i := 3) (oi := ?oiq3x4) (v := ?vq3x4) ?hiq3x4 (by kernel_rfl) (by kernel_rfl) (by kernel_rfl) ?hQq3x4 (Or.inl ⟨?hwq3x4, ?hyq3x4⟩) (by assumption) ?restq3x4
          case hiq3x4 => simp only [List.getElem?_toArray, List.getElem?_cons_succ, List.getElem?_cons_zero]; exact rfl
          case hQq3x4 => exact fun _ _ _ h => h
          case hwq3x4 => rfl
          case hyq3x4 => ((intro w hSw; (try dsimp only at hSw); go_simp) <;> with_reducible rfl)
          try simp only [Act.put, List.setIfInBounds_toArray, List.set_cons_zero, List.set_cons_succ]
          refine wpAnyH_take (i := 4) (oi := ?oiq3x5) (v := ?vq3x5) ?hiq3x5 (by kernel_rfl) (by kernel_rfl) (by kernel_rfl) ?hQq3x5 (Or.inl ⟨?hwq3x5, ?hyq3x5⟩) (by assumption) ?restq3x5
          case hiq3x5 => simp only [List.getElem?_toArray, List.getElem?_cons_succ, List.getElem?_cons_zero]; exact rfl
          case hQq3x5 => exact fun _ _ _ h => h
          case hwq3x5 => rfl
          case hyq3x5 => ((intro w hSw; (try dsimp only at hSw); go_simp) <;> with_reducible rfl)
          try simp only [Act.put, List.setIfInBounds_toArray, List.set_cons_zero, List.set_cons_succ]
          refine wpAnyH_take (i := 5) (oi := ?oiq3x6) (v := ?vq3x6) ?hiq3x6 (by kernel_rfl) (by kernel_rfl) (by kernel_rfl) ?hQq3x6 (Or.inl ⟨?hwq3x6, ?hyq3x6⟩) (by assumption) ?restq3x6
          case hiq3x6 => simp only [List.getElem?_toArray, List.getElem?_cons_succ, List.getElem?_cons_zero]; exact rfl
          case hQq3x6 => exact fun _ _ _ h => h
          case hwq3x6 => rfl
          case hyq3x6 => ((intro w hSw; (try dsimp only at hSw); go_simp) <;> with_reducible rfl)
          try simp only [Act.put, List.setIfInBounds_toArray, List.set_cons_zero, List.set_cons_succ]
          refine wpAnyH_done (by kernel_rfl) ?_ _
          have hB := hbel.trans (hHeld.1.mono hbel.size)
          have X3 := And.intro hHeld.2.1 (And.intro hHeld.2.2.1 hHeld.2.2.2.1)
          clear hHeld
          go_wp2_with fail
          go_roundw
          case rel => exact ⟨k + 1, by omega, by go_num, fun j hj => by
            rcases Nat.lt_or_ge j k with h | h
            · exact HN.out j h
            · obtain rfl : j = k := by omega
              exact HS.out, hB, X3⟩
          case measure => simp [intOf]; omega
      · have HS : Hid (sameL zs p q m k = false) := Lib.hid (by simp [sameL, h0])
        clear hl
        go_upto_region 4 with fail
        refine wp_region_held_drew (S := (fun w' => Below wr.heap.size wr w' ∧ w'.cell? ⟨w.heap.size, 0, none⟩ = some (.int .i64 p) ∧ w'.cell? ⟨w.heap.size, 1, none⟩ = some (.int .i64 q) ∧ w'.cell? ⟨w.heap.size, 2, none⟩ = some (.int .i64 m) ∧ w'.cell? ⟨b, o + k * 3, none⟩ = some (.int .i64 (num zs (k * 3))) ∧ w'.cell? ⟨b, o + k * 3 + 1, none⟩ = some (.int .i64 (num zs (k * 3 + 1))) ∧ w'.cell? ⟨b, o + k * 3 + 2, none⟩ = some (.int .i64 (num zs (k * 3 + 2))))) (by kernel_rfl) ?hSq4xs (fun hHeld => ?restq4xs)
        case hSq4xs => ((first | assumption | ((((try dsimp only); repeat' apply And.intro) <;> (first | assumption | (refine below_later ?_ (by assumption); first | assumption | (simp only [*]; done) | (go_grown; done)) | (refine cell_later (by assumption) ?_; first | assumption | (simp only [*]; done) | (simp [go_sem]; done)) | (go_grown; done) | (simp [go_sem]; done))))))
        refine wpAnyH_take (i := 0) (oi := ?oiq4x1) (v := ?vq4x1) ?hiq4x1 (by kernel_rfl) (by kernel_rfl) (by kernel_rfl) ?hQq4x1 (Or.inl ⟨?hwq4x1, ?hyq4x1⟩) (by assumption) ?restq4x1
        case hiq4x1 => simp only [List.getElem?_toArray, List.getElem?_cons_succ, List.getElem?_cons_zero]; exact rfl
        case hQq4x1 => exact fun _ _ _ h => h
        case hwq4x1 => rfl
        case hyq4x1 => ((intro w hSw; (try dsimp only at hSw); go_simp) <;> with_reducible rfl)
        try simp only [Act.put, List.setIfInBounds_toArray, List.set_cons_zero, List.set_cons_succ]
        refine wpAnyH_take (i := 1) (oi := ?oiq4x2) (v := ?vq4x2) ?hiq4x2 (by kernel_rfl) (by kernel_rfl) (by kernel_rfl) ?hQq4x2 (Or.inl ⟨?hwq4x2, ?hyq4x2⟩) (by assumption) ?restq4x2
        case hiq4x2 => simp only [List.getElem?_toArray, List.getElem?_cons_succ, List.getElem?_cons_zero]; exact rfl
        case hQq4x2 => exact fun _ _ _ h => h
        case hwq4x2 => rfl
        case hyq4x2 => ((intro w hSw; (try dsimp only at hSw); go_simp) <;> with_reducible rfl)
        try simp only [Act.put, List.setIfInBounds_toArray, List.set_cons_zero, List.set_cons_succ]
        refine wpAnyH_take (i := 2) (oi := ?oiq4x3) (v := ?vq4x3) ?hiq4x3 (by kernel_rfl) (by kernel_rfl) (by kernel_rfl) ?hQq4x3 (Or.inl ⟨?hwq4x3, ?hyq4x3⟩) (by assumption) ?restq4x3
        case hiq4x3 => simp only [List.getElem?_toArray, List.getElem?_cons_succ, List.getElem?_cons_zero]; exact rfl
        case hQq4x3 => exact fun _ _ _ h => h
        case hwq4x3 => rfl
        case hyq4x3 => ((intro w hSw; (try dsimp only at hSw); go_simp) <;> with_reducible rfl)
        try simp only [Act.put, List.setIfInBounds_toArray, List.set_cons_zero, List.set_cons_succ]
        refine wpAnyH_take (i := 3) (oi := ?oiq4x4) (v := ?vq4x4) ?hiq4x4 (by kernel_rfl) (by kernel_rfl) (by kernel_rfl) ?hQq4x4 (Or.inl ⟨?hwq4x4, ?hyq4x4⟩) (by assumption) ?restq4x4
        case hiq4x4 => simp only [List.getElem?_toArray, List.getElem?_cons_succ, List.getElem?_cons_zero]; exact rfl
        case hQq4x4 => exact fun _ _ _ h => h
        case hwq4x4 => rfl
        case hyq4x4 => ((intro w hSw; (try dsimp only at hSw); go_simp) <;> with_reducible rfl)
        try simp only [Act.put, List.setIfInBounds_toArray, List.set_cons_zero, List.set_cons_succ]
        refine wpAnyH_take (i := 4) (oi := ?oiq4x5) (v := ?vq4x5) ?hiq4x5 (by kernel_rfl) (by kernel_rfl) (by kernel_rfl) ?hQq4x5 (Or.inl ⟨?hwq4x5, ?hyq4x5⟩) (by assumption) ?restq4x5
        case hiq4x5 => simp only [List.getElem?_toArray, List.getElem?_cons_succ, List.getElem?_cons_zero]; exact rfl
        case hQq4x5 => exact fun _ _ _ h => h
        case hwq4x5 => rfl
        case hyq4x5 => ((intro w hSw; (try dsimp only at hSw); go_simp) <;> with_reducible rfl)
        try simp only [Act.put, List.setIfInBounds_toArray, List.set_cons_zero, List.set_cons_succ]
        refine wpAnyH_take (i := 5) (oi := ?oiq4x6) (v := ?vq4x6) ?hiq4x6 (by kernel_rfl) (by kernel_rfl) (by kernel_rfl) ?hQq4x6 (Or.inl ⟨?hwq4x6, ?hyq4x6⟩) (by assumption) ?restq4x6
        case hiq4x6 => simp only [List.getElem?_toArray, List.getElem?_cons_succ, List.getElem?_cons_zero]; exact rfl
        case hQq4x6 => exact fun _ _ _ h => h
        case hwq4x6 => rfl
        case hyq4x6 => ((intro w hSw; (try dsimp only at hSw); go_simp) <;> with_reducible rfl)
        try simp only [Act.put, List.setIfInBounds_toArray, List.set_cons_zero, List.set_cons_succ]
        refine wpAnyH_done (by kernel_rfl) ?_ _
        have hB := hbel.trans (hHeld.1.mono hbel.size)
        have X3 := And.intro hHeld.2.1 (And.intro hHeld.2.2.1 hHeld.2.2.2.1)
        clear hHeld
        go_wp2_with fail
        go_roundw
        case rel => exact ⟨k + 1, by omega, by go_num, fun j hj => by
          rcases Nat.lt_or_ge j k with h | h
          · exact HN.out j h
          · obtain rfl : j = k := by omega
            exact HS.out, hB, X3⟩
        case measure => simp [intOf]; omega
    · obtain rfl : k = n := by omega
      have HT := Lib.hid ((hasTo_no k).2 HN.out)
      clear hl x0 x1 x2
      go_wp2_with fail
      go_ret
      exact ⟨⟨_, rfl, by omega, by omega, by rw [HT.out]; rfl⟩, hbel⟩
set_option maxRecDepth 100000 in
theorem lev_Contains (A : Option Addr) (n c : Nat) (zs : List Int) (p q m : Int) (w : World) (hl : Lst w w.heap.size 3 A n zs) (hn : n ≤ 1048576) :
    Calls Try.prog 63 #[.slice A n c, .agg #[.int .i64 p, .int .i64 q, .int .i64 m]] w fun e w' => e = .returned (.bool (hasTo zs p q m n)) ∧ Below w.heap.size w w' := by
  go_enter Try.func63, Try.ntmps63
  go_wp2_with fail
  refine (lev_Index A n c zs p q m _ (hl.later ((Below.refl _ _).alloc (Nat.le_refl _) _)) hn).mono ?_
  rintro e w1 ⟨⟨z, rfl, hz0, hz1, hz2⟩, hb1⟩
  have HZ := Lib.hid hz2
  clear hz2
  go_wp2_with fail
  go_ret
  exact ⟨ret_bool HZ.out.symm, below_alloc hb1⟩
end Go.Proofs.Ytfodkefaflpicaa
