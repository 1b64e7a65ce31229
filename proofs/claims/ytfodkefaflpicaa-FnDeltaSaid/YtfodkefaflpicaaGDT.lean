/-
  Delt, DeltI.
-/
import Derived.Test.YtfodkefaflpicaaLev
import Derived.Test.YtfodkefaflpicaaOwn
namespace Go.Proofs.Ytfodkefaflpicaa
open Go.RowKit Wire

/-- the place of a price among the first levels -/
def spotL (zs : List Int) (p : Int) : Nat → Option Nat
  | 0 => none
  | k + 1 => match spotL zs p k with
    | some i => some i
    | none => if num zs (k * 3) = p then some k else none
theorem spotL_none {zs : List Int} {p : Int} : ∀ n, spotL zs p n = none ↔ ∀ j, j < n → num zs (j * 3) ≠ p
  | 0 => by simp [spotL]
  | n + 1 => by
    rw [spotL]
    have ih := spotL_none (zs := zs) (p := p) n
    cases h : spotL zs p n with
    | some i =>
      simp only [reduceCtorEq, false_iff]
      intro hj
      have := ih.2 (fun j hjn => hj j (by omega))
      rw [h] at this
      cases this
    | none =>
      have h1 := ih.1 h
      by_cases hp : num zs (n * 3) = p
      · simp only [hp, if_true, reduceCtorEq, false_iff]
        intro hj
        exact hj n (by omega) hp
      · simp only [hp, if_false, true_iff]
        intro j hj
        rcases Nat.lt_or_ge j n with hlt | hge
        · exact h1 j hlt
        · obtain rfl : j = n := by omega
          exact hp
theorem spotL_some {zs : List Int} {p : Int} {i : Nat} : ∀ n, spotL zs p n = some i → i < n ∧ num zs (i * 3) = p ∧ ∀ j, j < i → num zs (j * 3) ≠ p
  | 0, h => by simp [spotL] at h
  | n + 1, h => by
    rw [spotL] at h
    cases h1 : spotL zs p n with
    | some j =>
      rw [h1] at h
      injection h with h
      subst h
      obtain ⟨a, b, c⟩ := spotL_some n h1
      exact ⟨by omega, b, c⟩
    | none =>
      rw [h1] at h
      by_cases hp : num zs (n * 3) = p
      · simp only [hp, if_true] at h
        injection h with h
        subst h
        exact ⟨by omega, hp, (spotL_none n).1 h1⟩
      · simp only [hp, if_false] at h
        cases h
theorem spotL_one {zs : List Int} {p : Int} {n k : Nat} (hk : k < n) (h0 : ∀ j, j < k → num zs (j * 3) ≠ p) (h1 : num zs (k * 3) = p) : spotL zs p n = some k := by
  cases h : spotL zs p n with
  | none => exact absurd h1 ((spotL_none n).1 h k hk)
  | some i =>
    obtain ⟨a, b, c⟩ := spotL_some n h
    rcases Nat.lt_trichotomy i k with hlt | heq | hgt
    · exact absurd b (h0 i hlt)
    · rw [heq]
    · exact absurd h1 (c k hgt)
def spotV (o : Option Nat) : Int := match o with | some i => (i : Int) | none => -1
/-- a level of b is not a level of a -/
def newL (za : List Int) (n : Nat) (p q m : Int) : Bool := match spotL za p n with
  | none => true
  | some i => !(num za (i * 3) == p && (num za (i * 3 + 1) == q && num za (i * 3 + 2) == m))
/-- the prices that go, and the levels that come -/
def goneL (za zb : List Int) (m : Nat) : Nat → List Int
  | 0 => []
  | k + 1 => if spotL zb (num za (k * 3)) m = none then goneL za zb m k ++ [num za (k * 3), 0, 0] else goneL za zb m k
def comeL (za zb : List Int) (n : Nat) : Nat → List Int
  | 0 => []
  | k + 1 => if newL za n (num zb (k * 3)) (num zb (k * 3 + 1)) (num zb (k * 3 + 2)) = true then comeL za zb n k ++ [num zb (k * 3), num zb (k * 3 + 1), num zb (k * 3 + 2)] else comeL za zb n k
theorem goneL_len (za zb : List Int) (m : Nat) : ∀ k, ∃ j, (goneL za zb m k).length = j * 3 ∧ j ≤ k
  | 0 => ⟨0, rfl, Nat.le_refl _⟩
  | k + 1 => by
    obtain ⟨j, h1, h2⟩ := goneL_len za zb m k
    rw [goneL]
    split
    · exact ⟨j + 1, by simp [h1]; omega, by omega⟩
    · exact ⟨j, h1, by omega⟩
theorem comeL_len (za zb : List Int) (n : Nat) : ∀ k, ∃ j, (comeL za zb n k).length = j * 3 ∧ j ≤ k
  | 0 => ⟨0, rfl, Nat.le_refl _⟩
  | k + 1 => by
    obtain ⟨j, h1, h2⟩ := comeL_len za zb n k
    rw [comeL]
    split
    · exact ⟨j + 1, by simp [h1]; omega, by omega⟩
    · exact ⟨j, h1, by omega⟩
set_option maxHeartbeats 800000 in
set_option maxRecDepth 100000 in
theorem spec_l10At (A : Option Addr) (n c : Nat) (zs : List Int) (p : Int) (w : World) (hl : Lst w w.heap.size 3 A n zs) (hn : n ≤ 1048576) :
    Calls Try.prog 65 #[.slice A n c, .int .i64 p] w fun e w' => e = .returned (.int .i64 (spotV (spotL zs p n))) ∧ Below w.heap.size w w' := by
  go_enter Try.func65, Try.ntmps65
  go_wp2_with fail
  go_loopw [5] (fun i wr => ∃ k : Nat, k ≤ n ∧ i = .int .i64 (k : Int) ∧ (∀ j, j < k → num zs (j * 3) ≠ p) ∧ Below w.heap.size w wr) (fun i _ => n - (intOf i).toNat)
  case atStart => exact ⟨0, Nat.zero_le _, rfl, fun j hj => absurd hj (Nat.not_lt_zero j), Below.refl _ _⟩
  case round =>
    obtain ⟨k, hk, rfl, hno, hbel⟩ := hrel
    have HN := Lib.hid hno
    clear hno
    by_cases hlt : k < n
    · obtain ⟨b, o, rfl, hb, c0, c1, c2⟩ := (hl.below hbel).row3 hlt
      clear hl
      by_cases hp : num zs (k * 3) = p
      · have HR := Lib.hid (spotL_one hlt HN.out hp)
        rw [hp] at c0
        clear hp
        go_wp2_with fail
        go_ret
        exact ⟨by rw [HR.out]; rfl, hbel⟩
      · have HP := Lib.hid hp
        have t : (num zs (k * 3) == p) = false := beq_eq_false_iff_ne.2 hp
        clear hp
        go_wp2_with fail
        go_roundw
        case rel => exact ⟨k + 1, by omega, by go_num, fun j hj => by
          rcases Nat.lt_or_ge j k with h | h
          · exact HN.out j h
          · obtain rfl : j = k := by omega
            exact HP.out, hbel⟩
        case measure => simp [intOf]; omega
    · obtain rfl : k = n := by omega
      have HR := Lib.hid ((spotL_none k).2 HN.out)
      clear hl
      go_wp2_with fail
      go_ret
      exact ⟨by rw [HR.out]; rfl, hbel⟩
def dltB (side : Int) (za : List Int) (n : Nat) (zb : List Int) (m : Nat) : Bool := lvsB side za n && lvsB side zb m
def dltZ (side : Int) (za : List Int) (n : Nat) (zb : List Int) (m : Nat) : List Int := if dltB side za n zb m = true then goneL za zb m n ++ comeL za zb n m else []
theorem delt_mono {w : World} {base base' sz n : Nat} {e : TypeId} {v : Value} {xs : List Value} (h : w.ownsRow base e sz v n xs) (hb : base' ≤ base) : w.ownsRow base' e sz v n xs :=
  ⟨h.1, h.2.imp id (fun ⟨g, cap, cur, a, b, c⟩ => ⟨g, cap, cur, a, Nat.le_trans hb b, c⟩)⟩
theorem delt_empty (w : World) (e : TypeId) (sz : Nat) : (w.alloc (.cells #[] e)).ownsRow w.heap.size e sz (.slice (some ⟨w.heap.size, 0, none⟩) 0 0) 0 [] :=
  ⟨by simp, .inr ⟨w.heap.size, 0, #[], rfl, Nat.le_refl _, heap_alloc_new w _, Nat.le_refl _, Nat.zero_le _, by simp, by simp⟩⟩
theorem lev_info : (Try.prog.info? 94).map (fun i => (i.zero, i.size, i.bytes)) = some (some (.agg #[.int .i64 0, .int .i64 0, .int .i64 0]), 3, 24) := by kernel_rfl
set_option linter.unusedSimpArgs false in
set_option maxHeartbeats 3200000 in
set_option maxRecDepth 100000 in
theorem spec_DepthDelta (A : Option Addr) (n c : Nat) (za : List Int) (B : Option Addr) (m d : Nat) (zb : List Int) (side : Int) (w : World) (hl : Lst w w.heap.size 3 A n za) (hn : n ≤ 1048576) (hr : Lst w w.heap.size 3 B m zb) (hm : m ≤ 1048576) :
    Calls Try.prog 19 #[.slice A n c, .slice B m d, .int .i64 side] w fun e w' => (∃ v N, e = .returned (.tuple #[v, .bool (dltB side za n zb m)]) ∧ (dltZ side za n zb m).length = N * 3 ∧ w'.ownsRow w.heap.size 94 3 v N (nums (dltZ side za n zb m))) ∧ Below w.heap.size w w' := by
  obtain ⟨i0, hi, hz0, hz1, hz2⟩ := info_parts lev_info
  rcases Bool.eq_false_or_eq_true (lvsB side za n) with h1 | h1
  rotate_left
  · have HN := Lib.hid (show dltB side za n zb m = false by simp [dltB, h1])
    have HZ := Lib.hid (show dltZ side za n zb m = [] by simp [dltZ, HN.out])
    go_enter Try.func19, Try.ntmps19
    go_wp2_with fail
    refine (spec_LevelsOk A n c za side _ hl hn).mono ?_
    rw [h1]
    rintro e w1 ⟨rfl, hb1⟩
    clear h1 hl hr
    go_wp2_with fail
    refine bodyPost_ret (v := .tuple #[.slice none 0 0, .bool false]) (by simp [results, Try.results19, go_sem]) rfl ⟨⟨_, 0, by rw [HN.out], by rw [HZ.out]; rfl, ?_⟩, hb1⟩
    rw [HZ.out]
    exact World.ownsRow_nil _ _ _ _
  rcases Bool.eq_false_or_eq_true (lvsB side zb m) with h2 | h2
  rotate_left
  · have HN := Lib.hid (show dltB side za n zb m = false by simp [dltB, h2])
    have HZ := Lib.hid (show dltZ side za n zb m = [] by simp [dltZ, HN.out])
    go_enter Try.func19, Try.ntmps19
    go_wp2_with fail
    refine (spec_LevelsOk A n c za side _ hl hn).mono ?_
    rw [h1]
    rintro e w1 ⟨rfl, hb1⟩
    go_wp2_with fail
    refine (spec_LevelsOk B m d zb side _ (hr.later hb1) hm).mono ?_
    rw [h2]
    rintro e w2 ⟨rfl, hb2⟩
    have hB := below_later hb1 hb2
    clear h1 h2 hl hr hb1 hb2
    go_wp2_with fail
    refine bodyPost_ret (v := .tuple #[.slice none 0 0, .bool false]) (by simp [results, Try.results19, go_sem]) rfl ⟨⟨_, 0, by rw [HN.out], by rw [HZ.out]; rfl, ?_⟩, hB⟩
    rw [HZ.out]
    exact World.ownsRow_nil _ _ _ _
  have HN := Lib.hid (show dltB side za n zb m = true by simp [dltB, h1, h2])
  have HZ := Lib.hid (show dltZ side za n zb m = goneL za zb m n ++ comeL za zb n m by simp [dltZ, HN.out])
  go_enter Try.func19, Try.ntmps19
  go_wp2_with fail
  refine (spec_LevelsOk A n c za side _ hl hn).mono ?_
  rw [h1]
  rintro e w1 ⟨rfl, hb1⟩
  go_wp2_with fail
  refine (spec_LevelsOk B m d zb side _ (hr.later hb1) hm).mono ?_
  rw [h2]
  rintro e w2 ⟨rfl, hb2⟩
  have hB := below_later hb1 hb2
  clear h1 h2 hb1 hb2
  go_wp2_with fail
  have hq0 := delt_mono (base' := w.heap.size) (delt_empty w2 94 3) hB.size
  have hB0 := hB.alloc hB.size (.cells #[] 94)
  generalize w2.alloc (.cells #[] 94) = w3 at *
  generalize w2.heap.size = X2 at *
  clear hB
  go_loopw [8, 9] (fun r i wr => ∃ k N : Nat, k ≤ n ∧ N ≤ k ∧ i = .int .i64 (k : Int) ∧ (goneL za zb m k).length = N * 3 ∧ wr.ownsRow w.heap.size 94 3 r N (nums (goneL za zb m k)) ∧ Below w.heap.size w wr) (fun _ i _ => n - (intOf i).toNat)
  case atStart => exact ⟨0, 0, Nat.zero_le _, Nat.le_refl _, rfl, rfl, hq0, hB0⟩
  case round =>
    clear hq0 hB0
    obtain ⟨k, N, hk, hNk, rfl, hlen, hown, hbel⟩ := hrel
    obtain ⟨A2, d2, rfl, _, _⟩ := own_slice hown
    by_cases hlt : k < n
    · obtain ⟨b, o, rfl, hb, c0, c1, c2⟩ := (hl.below hbel).row3 hlt
      have HG := Lib.hid (show goneL za zb m (k + 1) = if spotL zb (num za (k * 3)) m = none then goneL za zb m k ++ [num za (k * 3), 0, 0] else goneL za zb m k from rfl)
      have HLN := Lib.hid hlen
      clear hlen
      go_wp2_with fail
      refine (spec_l10At B m d zb (num za (k * 3)) wr ((hr.below hbel).more hbel.size) hm).mono ?_
      cases hsp : spotL zb (num za (k * 3)) m with
      | none =>
        have HS := Lib.hid hsp
        clear hsp
        rw [show spotV none = -1 from rfl]
        rintro e w4 ⟨rfl, hb4⟩
        replace hown := own_below hown hb4
        replace c0 := (hb4.cell (p := ⟨b, o + k * 3, none⟩) (Nat.lt_of_lt_of_le hb hbel.size)).trans c0
        replace hbel := hbel.trans (hb4.mono hbel.size)
        clear hb4 c1 c2
        have hbs := hbel.size
        have hov := hown.lt
        go_wp2_with (at_builtin; refine wpList_append_own_at _ rfl _ _ 40 rfl w.heap.size 94 i0 _ 3 24 Try.underlying40 hi hz0 hz1 hz2 rfl (by decide) _ _ _ rfl (hown.alloc _) ⟨w4.heap.size, 0, none⟩ 1 1 [.int .i64 (num za (k * 3)), .int .i64 0, .int .i64 0] rfl rfl (World.news_of_block (heap_alloc_new w4 _)) (by intro u hu; simp at hu; rcases hu with rfl | rfl | rfl <;> rfl) (by unfold maxLen; omega) (by omega) (by simp; omega) ?_)
        intro v' w5 hown2 hgrow2 _ _
        have hbel2 := (hbel.alloc hbs (.cells #[.int .i64 (num za (k * 3)), .int .i64 0, .int .i64 0] 94)).grown hgrow2 (by simp; omega) (fun q hq => (hov q hq).1)
        obtain ⟨A3, d3, rfl, _, _⟩ := own_slice hown2
        have HO2 := Lib.hid hown2
        have HB2 := Lib.hid hbel2
        clear hbel2 hgrow2 hown2 hbel hown c0 hl hr
        go_wp2_with fail
        go_roundw
        case rel => exact ⟨k + 1, N + 1, by omega, by omega, by go_num, by rw [HG.out, if_pos HS.out, List.length_append, HLN.out]; simp; omega, by rw [HG.out, if_pos HS.out, nums_append]; exact HO2.out, HB2.out⟩
        case measure => simp [intOf]; omega
      | some i =>
        have HS := Lib.hid hsp
        clear hsp
        rw [show spotV (some i) = (i : Int) from rfl]
        rintro e w4 ⟨rfl, hb4⟩
        replace hown := own_below hown hb4
        replace hbel := hbel.trans (hb4.mono hbel.size)
        have hi0 : (0 : Int) ≤ (i : Int) := by omega
        clear hb4 c0 c1 c2 hl hr
        go_wp2_with fail
        go_roundw
        case rel => exact ⟨k + 1, N, by omega, by omega, by go_num, by rw [HG.out, if_neg (by rw [HS.out]; simp)]; exact HLN.out, by rw [HG.out, if_neg (by rw [HS.out]; simp)]; exact hown, hbel⟩
        case measure => simp [intOf]; omega
    · obtain rfl : k = n := by omega
      have HLN := Lib.hid hlen
      clear hlen
      go_wp2_with fail
      go_loopw [8, 10] (fun r i wr => ∃ j N : Nat, j ≤ m ∧ N ≤ k + j ∧ i = .int .i64 (j : Int) ∧ (goneL za zb m k ++ comeL za zb k j).length = N * 3 ∧ wr.ownsRow w.heap.size 94 3 r N (nums (goneL za zb m k ++ comeL za zb k j)) ∧ Below w.heap.size w wr) (fun _ i _ => m - (intOf i).toNat)
      case atStart => exact ⟨0, N, Nat.zero_le _, by omega, rfl, by simp [comeL, HLN.out], by simpa [comeL] using hown, hbel⟩
      case round =>
        clear hown hbel HLN
        obtain ⟨j, N, hj, hNj, rfl, hlen, hown, hbel⟩ := hrel
        obtain ⟨A2, d2, rfl, _, _⟩ := own_slice hown
        by_cases hjl : j < m
        · obtain ⟨b, o, rfl, hb, c0, c1, c2⟩ := (hr.below hbel).row3 hjl
          have HG := Lib.hid (show comeL za zb k (j + 1) = if newL za k (num zb (j * 3)) (num zb (j * 3 + 1)) (num zb (j * 3 + 2)) = true then comeL za zb k j ++ [num zb (j * 3), num zb (j * 3 + 1), num zb (j * 3 + 2)] else comeL za zb k j from rfl)
          have HLN := Lib.hid hlen
          clear hlen
          go_wp2_with fail
          refine (spec_l10At A k c za (num zb (j * 3)) _ ((hl.below hbel).more hbel.size) hn).mono ?_
          cases hsp : spotL za (num zb (j * 3)) k with
          | none =>
            have HS := Lib.hid (show newL za k (num zb (j * 3)) (num zb (j * 3 + 1)) (num zb (j * 3 + 2)) = true by simp [newL, hsp])
            clear hsp
            rw [show spotV none = -1 from rfl]
            rintro e w4 ⟨rfl, hb4⟩
            replace hown := own_below hown hb4
            have hbw := Nat.lt_of_lt_of_le hb hbel.size
            replace c0 := (hb4.cell (p := ⟨b, o + j * 3, none⟩) hbw).trans c0
            replace c1 := (hb4.cell (p := ⟨b, o + j * 3 + 1, none⟩) hbw).trans c1
            replace c2 := (hb4.cell (p := ⟨b, o + j * 3 + 2, none⟩) hbw).trans c2
            replace hbel := hbel.trans (hb4.mono hbel.size)
            clear hb4 hbw
            go_upto_region 13 with fail
            refine wp_region_held_drew (S := (fun w' => Below w4.heap.size w4 w' ∧ w'.cell? ⟨b, o + j * 3, none⟩ = some (.int .i64 (num zb (j * 3))) ∧ w'.cell? ⟨b, o + j * 3 + 1, none⟩ = some (.int .i64 (num zb (j * 3 + 1))) ∧ w'.cell? ⟨b, o + j * 3 + 2, none⟩ = some (.int .i64 (num zb (j * 3 + 2))))) (by kernel_rfl) ?hSq1xs (fun hHeld => ?restq1xs)
            case hSq1xs => ((first | assumption | ((((try dsimp only); repeat' apply And.intro) <;> (first | assumption | (refine below_later ?_ (by assumption); first | assumption | (simp only [*]; done) | (go_grown; done)) | (refine cell_later (by assumption) ?_; first | assumption | (simp only [*]; done) | (simp [go_sem]; done)) | (go_grown; done) | (simp [go_sem]; done))))))
            refine wpAnyH_take (i := 0) (oi := ?oiq1x1) (v := ?vq1x1) ?hiq1x1 (by kernel_rfl) (by kernel_rfl) (by kernel_rfl) ?hQq1x1 (Or.inl ⟨?hwq1x1, ?hyq1x1⟩) (by assumption) ?restq1x1
            case hiq1x1 => simp only [List.getElem?_toArray, List.getElem?_cons_succ, List.getElem?_cons_zero]; exact rfl
            case hQq1x1 => exact fun _ _ _ h => h
            case hwq1x1 => rfl
            case hyq1x1 => ((intro w hSw; (try dsimp only at hSw); go_simp) <;> with_reducible rfl)
            try simp only [Act.put, List.setIfInBounds_toArray, List.set_cons_zero, List.set_cons_succ]
            refine wpAnyH_take (i := 1) (oi := ?oiq1x2) (v := ?vq1x2) ?hiq1x2 (by kernel_rfl) (by kernel_rfl) (by kernel_rfl) ?hQq1x2 (Or.inl ⟨?hwq1x2, ?hyq1x2⟩) (by assumption) ?restq1x2
            case hiq1x2 => simp only [List.getElem?_toArray, List.getElem?_cons_succ, List.getElem?_cons_zero]; exact rfl
            case hQq1x2 => exact fun _ _ _ h => h
            case hwq1x2 => rfl
            case hyq1x2 => ((intro w hSw; (try dsimp only at hSw); go_simp) <;> with_reducible rfl)
            try simp only [Act.put, List.setIfInBounds_toArray, List.set_cons_zero, List.set_cons_succ]
            refine wpAnyH_take (i := 2) (oi := ?oiq1x3) (v := ?vq1x3) ?hiq1x3 (by kernel_rfl) (by kernel_rfl) (by kernel_rfl) ?hQq1x3 (Or.inl ⟨?hwq1x3, ?hyq1x3⟩) (by assumption) ?restq1x3
            case hiq1x3 => simp only [List.getElem?_toArray, List.getElem?_cons_succ, List.getElem?_cons_zero]; exact rfl
            case hQq1x3 => exact fun _ _ _ h => h
            case hwq1x3 => rfl
            case hyq1x3 => ((intro w hSw; (try dsimp only at hSw); go_simp) <;> with_reducible rfl)
            try simp only [Act.put, List.setIfInBounds_toArray, List.set_cons_zero, List.set_cons_succ]
            refine wpAnyH_take (i := 3) (oi := ?oiq1x4) (v := _) ?hiq1x4 (by kernel_rfl) (by kernel_rfl) (by kernel_rfl) ?hQq1x4 (Or.inr ⟨?hwq1x4, rfl⟩) (by assumption) ?restq1x4
            case hiq1x4 => simp only [List.getElem?_toArray, List.getElem?_cons_succ, List.getElem?_cons_zero]; exact rfl
            case hQq1x4 => exact fun _ _ _ h => h
            case hwq1x4 => rfl
            try simp only [Act.put, List.setIfInBounds_toArray, List.set_cons_zero, List.set_cons_succ]
            refine wpAnyH_take (i := 4) (oi := ?oiq1x5) (v := _) ?hiq1x5 (by kernel_rfl) (by kernel_rfl) (by kernel_rfl) ?hQq1x5 (Or.inr ⟨?hwq1x5, rfl⟩) (by assumption) ?restq1x5
            case hiq1x5 => simp only [List.getElem?_toArray, List.getElem?_cons_succ, List.getElem?_cons_zero]; exact rfl
            case hQq1x5 => exact fun _ _ _ h => h
            case hwq1x5 => rfl
            try simp only [Act.put, List.setIfInBounds_toArray, List.set_cons_zero, List.set_cons_succ]
            refine wpAnyH_take (i := 5) (oi := ?oiq1x6) (v := _) ?hiq1x6 (by kernel_rfl) (by kernel_rfl) (by kernel_rfl) ?hQq1x6 (Or.inr ⟨?hwq1x6, rfl⟩) (by assumption) ?restq1x6
            case hiq1x6 => simp only [List.getElem?_toArray, List.getElem?_cons_succ, List.getElem?_cons_zero]; exact rfl
            case hQq1x6 => exact fun _ _ _ h => h
            case hwq1x6 => rfl
            try simp only [Act.put, List.setIfInBounds_toArray, List.set_cons_zero, List.set_cons_succ]
            refine wpAnyH_take (i := 6) (oi := ?oiq1x7) (v := _) ?hiq1x7 (by kernel_rfl) (by kernel_rfl) (by kernel_rfl) ?hQq1x7 (Or.inr ⟨?hwq1x7, rfl⟩) (by assumption) ?restq1x7
            case hiq1x7 => simp only [List.getElem?_toArray, List.getElem?_cons_succ, List.getElem?_cons_zero]; exact rfl
            case hQq1x7 => exact fun _ _ _ h => h
            case hwq1x7 => rfl
            try simp only [Act.put, List.setIfInBounds_toArray, List.set_cons_zero, List.set_cons_succ]
            refine wpAnyH_take (i := 7) (oi := ?oiq1x8) (v := _) ?hiq1x8 (by kernel_rfl) (by kernel_rfl) (by kernel_rfl) ?hQq1x8 (Or.inr ⟨?hwq1x8, rfl⟩) (by assumption) ?restq1x8
            case hiq1x8 => simp only [List.getElem?_toArray, List.getElem?_cons_succ, List.getElem?_cons_zero]; exact rfl
            case hQq1x8 => exact fun _ _ _ h => h
            case hwq1x8 => rfl
            try simp only [Act.put, List.setIfInBounds_toArray, List.set_cons_zero, List.set_cons_succ]
            refine wpAnyH_take (i := 8) (oi := ?oiq1x9) (v := _) ?hiq1x9 (by kernel_rfl) (by kernel_rfl) (by kernel_rfl) ?hQq1x9 (Or.inr ⟨?hwq1x9, rfl⟩) (by assumption) ?restq1x9
            case hiq1x9 => simp only [List.getElem?_toArray, List.getElem?_cons_succ, List.getElem?_cons_zero]; exact rfl
            case hQq1x9 => exact fun _ _ _ h => h
            case hwq1x9 => rfl
            try simp only [Act.put, List.setIfInBounds_toArray, List.set_cons_zero, List.set_cons_succ]
            refine wpAnyH_take (i := 9) (oi := ?oiq1x10) (v := _) ?hiq1x10 (by kernel_rfl) (by kernel_rfl) (by kernel_rfl) ?hQq1x10 (Or.inr ⟨?hwq1x10, rfl⟩) (by assumption) ?restq1x10
            case hiq1x10 => simp only [List.getElem?_toArray, List.getElem?_cons_succ, List.getElem?_cons_zero]; exact rfl
            case hQq1x10 => exact fun _ _ _ h => h
            case hwq1x10 => rfl
            try simp only [Act.put, List.setIfInBounds_toArray, List.set_cons_zero, List.set_cons_succ]
            refine wpAnyH_take (i := 10) (oi := ?oiq1x11) (v := _) ?hiq1x11 (by kernel_rfl) (by kernel_rfl) (by kernel_rfl) ?hQq1x11 (Or.inr ⟨?hwq1x11, rfl⟩) (by assumption) ?restq1x11
            case hiq1x11 => simp only [List.getElem?_toArray, List.getElem?_cons_succ, List.getElem?_cons_zero]; exact rfl
            case hQq1x11 => exact fun _ _ _ h => h
            case hwq1x11 => rfl
            try simp only [Act.put, List.setIfInBounds_toArray, List.set_cons_zero, List.set_cons_succ]
            refine wpAnyH_take (i := 11) (oi := ?oiq1x12) (v := _) ?hiq1x12 (by kernel_rfl) (by kernel_rfl) (by kernel_rfl) ?hQq1x12 (Or.inr ⟨?hwq1x12, rfl⟩) (by assumption) ?restq1x12
            case hiq1x12 => simp only [List.getElem?_toArray, List.getElem?_cons_succ, List.getElem?_cons_zero]; exact rfl
            case hQq1x12 => exact fun _ _ _ h => h
            case hwq1x12 => rfl
            try simp only [Act.put, List.setIfInBounds_toArray, List.set_cons_zero, List.set_cons_succ]
            refine wpAnyH_take (i := 12) (oi := ?oiq1x13) (v := ?vq1x13) ?hiq1x13 (by kernel_rfl) (by kernel_rfl) (by kernel_rfl) ?hQq1x13 (Or.inl ⟨?hwq1x13, ?hyq1x13⟩) (by assumption) ?restq1x13
            case hiq1x13 => simp only [List.getElem?_toArray, List.getElem?_cons_succ, List.getElem?_cons_zero]; exact rfl
            case hQq1x13 => exact fun _ _ _ h => h
            case hwq1x13 => rfl
            case hyq1x13 => ((intro w hSw; (try dsimp only at hSw); go_simp) <;> with_reducible rfl)
            try simp only [Act.put, List.setIfInBounds_toArray, List.set_cons_zero, List.set_cons_succ]
            refine wpAnyH_done (by kernel_rfl) ?_ _
            obtain ⟨hb5, c0', c1', c2'⟩ := hHeld
            replace hown := own_below hown hb5
            replace hbel := hbel.trans (hb5.mono hbel.size)
            clear hb5 c0 c1 c2
            generalize w4.drew = w5 at *
            have hbs := hbel.size
            have hov := hown.lt
            go_wp2_with (at_builtin; refine wpList_append_own_at _ rfl _ _ 40 rfl w.heap.size 94 i0 _ 3 24 Try.underlying40 hi hz0 hz1 hz2 rfl (by decide) _ _ _ rfl (hown.alloc _) ⟨w5.heap.size, 0, none⟩ 1 1 [.int .i64 (num zb (j * 3)), .int .i64 (num zb (j * 3 + 1)), .int .i64 (num zb (j * 3 + 2))] rfl rfl (World.news_of_block (heap_alloc_new w5 _)) (by intro u hu; simp at hu; rcases hu with rfl | rfl | rfl <;> rfl) (by unfold maxLen; omega) (by omega) (by simp; omega) ?_)
            intro v' w6 hown2 hgrow2 _ _
            have hbel2 := (hbel.alloc hbs (.cells #[.int .i64 (num zb (j * 3)), .int .i64 (num zb (j * 3 + 1)), .int .i64 (num zb (j * 3 + 2))] 94)).grown hgrow2 (by simp; omega) (fun q hq => (hov q hq).1)
            obtain ⟨A3, d3, rfl, _, _⟩ := own_slice hown2
            have HO2 := Lib.hid hown2
            have HB2 := Lib.hid hbel2
            clear hbel2 hgrow2 hown2 hbel hown c0' c1' c2' hl hr
            go_wp2_with fail
            go_roundw
            case rel => exact ⟨j + 1, N + 1, by omega, by omega, by go_num, by rw [HG.out, if_pos HS.out, ← List.append_assoc, List.length_append, HLN.out]; simp; omega, by rw [HG.out, if_pos HS.out, ← List.append_assoc, nums_append]; exact HO2.out, HB2.out⟩
            case measure => simp [intOf]; omega
          | some i =>
            obtain ⟨hin, hpe, _⟩ := spotL_some k hsp
            obtain ⟨b', o', ea, hb', p0, p1, p2⟩ := (hl.below hbel).row3 hin
            subst ea
            rw [hpe] at p0
            have HW := Lib.hid (show newL za k (num zb (j * 3)) (num zb (j * 3 + 1)) (num zb (j * 3 + 2)) = !((num za (i * 3 + 1) == num zb (j * 3 + 1)) && (num za (i * 3 + 2) == num zb (j * 3 + 2))) by simp [newL, hsp, hpe])
            clear hsp hpe
            rw [show spotV (some i) = (i : Int) from rfl]
            rintro e w4 ⟨rfl, hb4⟩
            replace hown := own_below hown hb4
            have hbw := Nat.lt_of_lt_of_le hb hbel.size
            have hbw' := Nat.lt_of_lt_of_le hb' hbel.size
            replace c0 := (hb4.cell (p := ⟨b, o + j * 3, none⟩) hbw).trans c0
            replace c1 := (hb4.cell (p := ⟨b, o + j * 3 + 1, none⟩) hbw).trans c1
            replace c2 := (hb4.cell (p := ⟨b, o + j * 3 + 2, none⟩) hbw).trans c2
            replace p0 := (hb4.cell (p := ⟨b', o' + i * 3, none⟩) hbw').trans p0
            replace p1 := (hb4.cell (p := ⟨b', o' + i * 3 + 1, none⟩) hbw').trans p1
            replace p2 := (hb4.cell (p := ⟨b', o' + i * 3 + 2, none⟩) hbw').trans p2
            replace hbel := hbel.trans (hb4.mono hbel.size)
            clear hb4 hbw hbw'
            have hi0 : (0 : Int) ≤ (i : Int) := by omega
            have hi1 : (i : Int) < (k : Int) := by omega
            by_cases h1 : num za (i * 3 + 1) = num zb (j * 3 + 1)
            · rw [h1] at p1
              by_cases h2 : num za (i * 3 + 2) = num zb (j * 3 + 2)
              · rw [h2] at p2
                have HS : Hid (newL za k (num zb (j * 3)) (num zb (j * 3 + 1)) (num zb (j * 3 + 2)) = false) := Lib.hid (by rw [HW.out, h1, h2]; simp)
                clear h1 h2 HW
                go_upto_region 13 with fail
                refine wp_region_held_drew (S := (fun w' => Below w4.heap.size w4 w' ∧ w'.cell? ⟨b, o + j * 3, none⟩ = some (.int .i64 (num zb (j * 3))) ∧ w'.cell? ⟨b, o + j * 3 + 1, none⟩ = some (.int .i64 (num zb (j * 3 + 1))) ∧ w'.cell? ⟨b, o + j * 3 + 2, none⟩ = some (.int .i64 (num zb (j * 3 + 2))) ∧ w'.cell? ⟨b', o' + i * 3, none⟩ = some (.int .i64 (num zb (j * 3))) ∧ w'.cell? ⟨b', o' + i * 3 + 1, none⟩ = some (.int .i64 (num zb (j * 3 + 1))) ∧ w'.cell? ⟨b', o' + i * 3 + 2, none⟩ = some (.int .i64 (num zb (j * 3 + 2))))) (by kernel_rfl) ?hSq2xs (fun hHeld => ?restq2xs)
                case hSq2xs => ((first | assumption | ((((try dsimp only); repeat' apply And.intro) <;> (first | assumption | (refine below_later ?_ (by assumption); first | assumption | (simp only [*]; done) | (go_grown; done)) | (refine cell_later (by assumption) ?_; first | assumption | (simp only [*]; done) | (simp [go_sem]; done)) | (go_grown; done) | (simp [go_sem]; done))))))
                refine wpAnyH_take (i := 0) (oi := ?oiq2x1) (v := ?vq2x1) ?hiq2x1 (by kernel_rfl) (by kernel_rfl) (by kernel_rfl) ?hQq2x1 (Or.inl ⟨?hwq2x1, ?hyq2x1⟩) (by assumption) ?restq2x1
                case hiq2x1 => simp only [List.getElem?_toArray, List.getElem?_cons_succ, List.getElem?_cons_zero]; exact rfl
                case hQq2x1 => exact fun _ _ _ h => h
                case hwq2x1 => rfl
                case hyq2x1 => ((intro w hSw; (try dsimp only at hSw); go_simp) <;> with_reducible rfl)
                try simp only [Act.put, List.setIfInBounds_toArray, List.set_cons_zero, List.set_cons_succ]
                refine wpAnyH_take (i := 1) (oi := ?oiq2x2) (v := ?vq2x2) ?hiq2x2 (by kernel_rfl) (by kernel_rfl) (by kernel_rfl) ?hQq2x2 (Or.inl ⟨?hwq2x2, ?hyq2x2⟩) (by assumption) ?restq2x2
                case hiq2x2 => simp only [List.getElem?_toArray, List.getElem?_cons_succ, List.getElem?_cons_zero]; exact rfl
                case hQq2x2 => exact fun _ _ _ h => h
                case hwq2x2 => rfl
                case hyq2x2 => ((intro w hSw; (try dsimp only at hSw); go_simp) <;> with_reducible rfl)
                try simp only [Act.put, List.setIfInBounds_toArray, List.set_cons_zero, List.set_cons_succ]
                refine wpAnyH_take (i := 2) (oi := ?oiq2x3) (v := ?vq2x3) ?hiq2x3 (by kernel_rfl) (by kernel_rfl) (by kernel_rfl) ?hQq2x3 (Or.inl ⟨?hwq2x3, ?hyq2x3⟩) (by assumption) ?restq2x3
                case hiq2x3 => simp only [List.getElem?_toArray, List.getElem?_cons_succ, List.getElem?_cons_zero]; exact rfl
                case hQq2x3 => exact fun _ _ _ h => h
                case hwq2x3 => rfl
                case hyq2x3 => ((intro w hSw; (try dsimp only at hSw); go_simp) <;> with_reducible rfl)
                try simp only [Act.put, List.setIfInBounds_toArray, List.set_cons_zero, List.set_cons_succ]
                refine wpAnyH_take (i := 3) (oi := ?oiq2x4) (v := ?vq2x4) ?hiq2x4 (by kernel_rfl) (by kernel_rfl) (by kernel_rfl) ?hQq2x4 (Or.inl ⟨?hwq2x4, ?hyq2x4⟩) (by assumption) ?restq2x4
                case hiq2x4 => simp only [List.getElem?_toArray, List.getElem?_cons_succ, List.getElem?_cons_zero]; exact rfl
                case hQq2x4 => exact fun _ _ _ h => h
                case hwq2x4 => rfl
                case hyq2x4 => ((intro w hSw; (try dsimp only at hSw); go_simp) <;> with_reducible rfl)
                try simp only [Act.put, List.setIfInBounds_toArray, List.set_cons_zero, List.set_cons_succ]
                refine wpAnyH_take (i := 4) (oi := ?oiq2x5) (v := ?vq2x5) ?hiq2x5 (by kernel_rfl) (by kernel_rfl) (by kernel_rfl) ?hQq2x5 (Or.inl ⟨?hwq2x5, ?hyq2x5⟩) (by assumption) ?restq2x5
                case hiq2x5 => simp only [List.getElem?_toArray, List.getElem?_cons_succ, List.getElem?_cons_zero]; exact rfl
                case hQq2x5 => exact fun _ _ _ h => h
                case hwq2x5 => rfl
                case hyq2x5 => ((intro w hSw; (try dsimp only at hSw); go_simp) <;> with_reducible rfl)
                try simp only [Act.put, List.setIfInBounds_toArray, List.set_cons_zero, List.set_cons_succ]
                refine wpAnyH_take (i := 5) (oi := ?oiq2x6) (v := ?vq2x6) ?hiq2x6 (by kernel_rfl) (by kernel_rfl) (by kernel_rfl) ?hQq2x6 (Or.inl ⟨?hwq2x6, ?hyq2x6⟩) (by assumption) ?restq2x6
                case hiq2x6 => simp only [List.getElem?_toArray, List.getElem?_cons_succ, List.getElem?_cons_zero]; exact rfl
                case hQq2x6 => exact fun _ _ _ h => h
                case hwq2x6 => rfl
                case hyq2x6 => ((intro w hSw; (try dsimp only at hSw); go_simp) <;> with_reducible rfl)
                try simp only [Act.put, List.setIfInBounds_toArray, List.set_cons_zero, List.set_cons_succ]
                refine wpAnyH_take (i := 6) (oi := ?oiq2x7) (v := ?vq2x7) ?hiq2x7 (by kernel_rfl) (by kernel_rfl) (by kernel_rfl) ?hQq2x7 (Or.inl ⟨?hwq2x7, ?hyq2x7⟩) (by assumption) ?restq2x7
                case hiq2x7 => simp only [List.getElem?_toArray, List.getElem?_cons_succ, List.getElem?_cons_zero]; exact rfl
                case hQq2x7 => exact fun _ _ _ h => h
                case hwq2x7 => rfl
                case hyq2x7 => ((intro w hSw; (try dsimp only at hSw); go_simp) <;> with_reducible rfl)
                try simp only [Act.put, List.setIfInBounds_toArray, List.set_cons_zero, List.set_cons_succ]
                refine wpAnyH_take (i := 7) (oi := ?oiq2x8) (v := ?vq2x8) ?hiq2x8 (by kernel_rfl) (by kernel_rfl) (by kernel_rfl) ?hQq2x8 (Or.inl ⟨?hwq2x8, ?hyq2x8⟩) (by assumption) ?restq2x8
                case hiq2x8 => simp only [List.getElem?_toArray, List.getElem?_cons_succ, List.getElem?_cons_zero]; exact rfl
                case hQq2x8 => exact fun _ _ _ h => h
                case hwq2x8 => rfl
                case hyq2x8 => ((intro w hSw; (try dsimp only at hSw); go_simp) <;> with_reducible rfl)
                try simp only [Act.put, List.setIfInBounds_toArray, List.set_cons_zero, List.set_cons_succ]
                refine wpAnyH_take (i := 8) (oi := ?oiq2x9) (v := ?vq2x9) ?hiq2x9 (by kernel_rfl) (by kernel_rfl) (by kernel_rfl) ?hQq2x9 (Or.inl ⟨?hwq2x9, ?hyq2x9⟩) (by assumption) ?restq2x9
                case hiq2x9 => simp only [List.getElem?_toArray, List.getElem?_cons_succ, List.getElem?_cons_zero]; exact rfl
                case hQq2x9 => exact fun _ _ _ h => h
                case hwq2x9 => rfl
                case hyq2x9 => ((intro w hSw; (try dsimp only at hSw); go_simp) <;> with_reducible rfl)
                try simp only [Act.put, List.setIfInBounds_toArray, List.set_cons_zero, List.set_cons_succ]
                refine wpAnyH_take (i := 9) (oi := ?oiq2x10) (v := ?vq2x10) ?hiq2x10 (by kernel_rfl) (by kernel_rfl) (by kernel_rfl) ?hQq2x10 (Or.inl ⟨?hwq2x10, ?hyq2x10⟩) (by assumption) ?restq2x10
                case hiq2x10 => simp only [List.getElem?_toArray, List.getElem?_cons_succ, List.getElem?_cons_zero]; exact rfl
                case hQq2x10 => exact fun _ _ _ h => h
                case hwq2x10 => rfl
                case hyq2x10 => ((intro w hSw; (try dsimp only at hSw); go_simp) <;> with_reducible rfl)
                try simp only [Act.put, List.setIfInBounds_toArray, List.set_cons_zero, List.set_cons_succ]
                refine wpAnyH_take (i := 10) (oi := ?oiq2x11) (v := ?vq2x11) ?hiq2x11 (by kernel_rfl) (by kernel_rfl) (by kernel_rfl) ?hQq2x11 (Or.inl ⟨?hwq2x11, ?hyq2x11⟩) (by assumption) ?restq2x11
                case hiq2x11 => simp only [List.getElem?_toArray, List.getElem?_cons_succ, List.getElem?_cons_zero]; exact rfl
                case hQq2x11 => exact fun _ _ _ h => h
                case hwq2x11 => rfl
                case hyq2x11 => ((intro w hSw; (try dsimp only at hSw); go_simp) <;> with_reducible rfl)
                try simp only [Act.put, List.setIfInBounds_toArray, List.set_cons_zero, List.set_cons_succ]
                refine wpAnyH_take (i := 11) (oi := ?oiq2x12) (v := ?vq2x12) ?hiq2x12 (by kernel_rfl) (by kernel_rfl) (by kernel_rfl) ?hQq2x12 (Or.inl ⟨?hwq2x12, ?hyq2x12⟩) (by assumption) ?restq2x12
                case hiq2x12 => simp only [List.getElem?_toArray, List.getElem?_cons_succ, List.getElem?_cons_zero]; exact rfl
                case hQq2x12 => exact fun _ _ _ h => h
                case hwq2x12 => rfl
                case hyq2x12 => ((intro w hSw; (try dsimp only at hSw); go_simp) <;> with_reducible rfl)
                try simp only [Act.put, List.setIfInBounds_toArray, List.set_cons_zero, List.set_cons_succ]
                refine wpAnyH_take (i := 12) (oi := ?oiq2x13) (v := ?vq2x13) ?hiq2x13 (by kernel_rfl) (by kernel_rfl) (by kernel_rfl) ?hQq2x13 (Or.inl ⟨?hwq2x13, ?hyq2x13⟩) (by assumption) ?restq2x13
                case hiq2x13 => simp only [List.getElem?_toArray, List.getElem?_cons_succ, List.getElem?_cons_zero]; exact rfl
                case hQq2x13 => exact fun _ _ _ h => h
                case hwq2x13 => rfl
                case hyq2x13 => ((intro w hSw; (try dsimp only at hSw); go_simp) <;> with_reducible rfl)
                try simp only [Act.put, List.setIfInBounds_toArray, List.set_cons_zero, List.set_cons_succ]
                refine wpAnyH_done (by kernel_rfl) ?_ _
                obtain ⟨hb5, _⟩ := hHeld
                replace hown := own_below hown hb5
                replace hbel := hbel.trans (hb5.mono hbel.size)
                clear hb5 c0 c1 c2 p0 p1 p2 hl hr
                generalize w4.drew = w5 at *
                go_wp2_with fail
                go_roundw
                case rel => exact ⟨j + 1, N, by omega, by omega, by go_num, by rw [HG.out, if_neg (by rw [HS.out]; simp)]; exact HLN.out, by rw [HG.out, if_neg (by rw [HS.out]; simp)]; exact hown, hbel⟩
                case measure => simp [intOf]; omega
              · have HS : Hid (newL za k (num zb (j * 3)) (num zb (j * 3 + 1)) (num zb (j * 3 + 2)) = true) := Lib.hid (by rw [HW.out]; simp [h2])
                clear h1 HW
                go_upto_region 13 with fail
                refine wp_region_held_drew (S := (fun w' => Below w4.heap.size w4 w' ∧ w'.cell? ⟨b, o + j * 3, none⟩ = some (.int .i64 (num zb (j * 3))) ∧ w'.cell? ⟨b, o + j * 3 + 1, none⟩ = some (.int .i64 (num zb (j * 3 + 1))) ∧ w'.cell? ⟨b, o + j * 3 + 2, none⟩ = some (.int .i64 (num zb (j * 3 + 2))) ∧ w'.cell? ⟨b', o' + i * 3, none⟩ = some (.int .i64 (num zb (j * 3))) ∧ w'.cell? ⟨b', o' + i * 3 + 1, none⟩ = some (.int .i64 (num zb (j * 3 + 1))) ∧ w'.cell? ⟨b', o' + i * 3 + 2, none⟩ = some (.int .i64 (num za (i * 3 + 2))))) (by kernel_rfl) ?hSq3xs (fun hHeld => ?restq3xs)
                case hSq3xs => ((first | assumption | ((((try dsimp only); repeat' apply And.intro) <;> (first | assumption | (refine below_later ?_ (by assumption); first | assumption | (simp only [*]; done) | (go_grown; done)) | (refine cell_later (by assumption) ?_; first | assumption | (simp only [*]; done) | (simp [go_sem]; done)) | (go_grown; done) | (simp [go_sem]; done))))))
                refine wpAnyH_take (i := 0) (oi := ?oiq3x1) (v := ?vq3x1) ?hiq3x1 (by kernel_rfl) (by kernel_rfl) (by kernel_rfl) ?hQq3x1 (Or.inl ⟨?hwq3x1, ?hyq3x1⟩) (by assumption) ?restq3x1
                case hiq3x1 => simp only [List.getElem?_toArray, List.getElem?_cons_succ, List.getElem?_cons_zero]; exact rfl
                case hQq3x1 => exact fun _ _ _ h => h
                case hwq3x1 => rfl
                case hyq3x1 => ((intro w hSw; (try dsimp only at hSw); go_simp) <;> with_reducible rfl)
                try simp only [Act.put, List.setIfInBounds_toArray, List.set_cons_zero, List.set_cons_succ]
                refine wpAnyH_take (i := 1) (oi := ?oiq3x2) (v := ?vq3x2) ?hiq3x2 (by kernel_rfl) (by kernel_rfl) (by kernel_rfl) ?hQq3x2 (Or.inl ⟨?hwq3x2, ?hyq3x2⟩) (by assumption) ?restq3x2
                case hiq3x2 => simp only [List.getElem?_toArray, List.getElem?_cons_succ, List.getElem?_cons_zero]; exact rfl
                case hQq3x2 => exact fun _ _ _ h => h
                case hwq3x2 => rfl
                case hyq3x2 => ((intro w hSw; (try dsimp only at hSw); go_simp) <;> with_reducible rfl)
                try simp only [Act.put, List.setIfInBounds_toArray, List.set_cons_zero, List.set_cons_succ]
                refine wpAnyH_take (i := 2) (oi := ?oiq3x3) (v := ?vq3x3) ?hiq3x3 (by kernel_rfl) (by kernel_rfl) (by kernel_rfl) ?hQq3x3 (Or.inl ⟨?hwq3x3, ?hyq3x3⟩) (by assumption) ?restq3x3
                case hiq3x3 => simp only [List.getElem?_toArray, List.getElem?_cons_succ, List.getElem?_cons_zero]; exact rfl
                case hQq3x3 => exact fun _ _ _ h => h
                case hwq3x3 => rfl
                case hyq3x3 => ((intro w hSw; (try dsimp only at hSw); go_simp) <;> with_reducible rfl)
                try simp only [Act.put, List.setIfInBounds_toArray, List.set_cons_zero, List.set_cons_succ]
                refine wpAnyH_take (i := 3) (oi := ?oiq3x4) (v := ?vq3x4) ?hiq3x4 (by kernel_rfl) (by kernel_rfl) (by kernel_rfl) ?hQq3x4 (Or.inl ⟨?hwq3x4, ?hyq3x4⟩) (by assumption) ?restq3x4
                case hiq3x4 => simp only [List.getElem?_toArray, List.getElem?_cons_succ, List.getElem?_cons_zero]; exact rfl
                case hQq3x4 => exact fun _ _ _ h => h
                case hwq3x4 => rfl
                case hyq3x4 => ((intro w hSw; (try dsimp only at hSw); go_simp) <;> with_reducible rfl)
                try simp only [Act.put, List.setIfInBounds_toArray, List.set_cons_zero, List.set_cons_succ]
                refine wpAnyH_take (i := 4) (oi := ?oiq3x5) (v := ?vq3x5) ?hiq3x5 (by kernel_rfl) (by kernel_rfl) (by kernel_rfl) ?hQq3x5 (Or.inl ⟨?hwq3x5, ?hyq3x5⟩) (by assumption) ?restq3x5
                case hiq3x5 => simp only [List.getElem?_toArray, List.getElem?_cons_succ, List.getElem?_cons_zero]; exact rfl
                case hQq3x5 => exact fun _ _ _ h => h
                case hwq3x5 => rfl
                case hyq3x5 => ((intro w hSw; (try dsimp only at hSw); go_simp) <;> with_reducible rfl)
                try simp only [Act.put, List.setIfInBounds_toArray, List.set_cons_zero, List.set_cons_succ]
                refine wpAnyH_take (i := 5) (oi := ?oiq3x6) (v := ?vq3x6) ?hiq3x6 (by kernel_rfl) (by kernel_rfl) (by kernel_rfl) ?hQq3x6 (Or.inl ⟨?hwq3x6, ?hyq3x6⟩) (by assumption) ?restq3x6
                case hiq3x6 => simp only [List.getElem?_toArray, List.getElem?_cons_succ, List.getElem?_cons_zero]; exact rfl
                case hQq3x6 => exact fun _ _ _ h => h
                case hwq3x6 => rfl
                case hyq3x6 => ((intro w hSw; (try dsimp only at hSw); go_simp) <;> with_reducible rfl)
                try simp only [Act.put, List.setIfInBounds_toArray, List.set_cons_zero, List.set_cons_succ]
                refine wpAnyH_take (i := 6) (oi := ?oiq3x7) (v := ?vq3x7) ?hiq3x7 (by kernel_rfl) (by kernel_rfl) (by kernel_rfl) ?hQq3x7 (Or.inl ⟨?hwq3x7, ?hyq3x7⟩) (by assumption) ?restq3x7
                case hiq3x7 => simp only [List.getElem?_toArray, List.getElem?_cons_succ, List.getElem?_cons_zero]; exact rfl
                case hQq3x7 => exact fun _ _ _ h => h
                case hwq3x7 => rfl
                case hyq3x7 => ((intro w hSw; (try dsimp only at hSw); go_simp) <;> with_reducible rfl)
                try simp only [Act.put, List.setIfInBounds_toArray, List.set_cons_zero, List.set_cons_succ]
                refine wpAnyH_take (i := 7) (oi := ?oiq3x8) (v := ?vq3x8) ?hiq3x8 (by kernel_rfl) (by kernel_rfl) (by kernel_rfl) ?hQq3x8 (Or.inl ⟨?hwq3x8, ?hyq3x8⟩) (by assumption) ?restq3x8
                case hiq3x8 => simp only [List.getElem?_toArray, List.getElem?_cons_succ, List.getElem?_cons_zero]; exact rfl
                case hQq3x8 => exact fun _ _ _ h => h
                case hwq3x8 => rfl
                case hyq3x8 => ((intro w hSw; (try dsimp only at hSw); go_simp) <;> with_reducible rfl)
                try simp only [Act.put, List.setIfInBounds_toArray, List.set_cons_zero, List.set_cons_succ]
                refine wpAnyH_take (i := 8) (oi := ?oiq3x9) (v := ?vq3x9) ?hiq3x9 (by kernel_rfl) (by kernel_rfl) (by kernel_rfl) ?hQq3x9 (Or.inl ⟨?hwq3x9, ?hyq3x9⟩) (by assumption) ?restq3x9
                case hiq3x9 => simp only [List.getElem?_toArray, List.getElem?_cons_succ, List.getElem?_cons_zero]; exact rfl
                case hQq3x9 => exact fun _ _ _ h => h
                case hwq3x9 => rfl
                case hyq3x9 => ((intro w hSw; (try dsimp only at hSw); go_simp) <;> with_reducible rfl)
                try simp only [Act.put, List.setIfInBounds_toArray, List.set_cons_zero, List.set_cons_succ]
                refine wpAnyH_take (i := 9) (oi := ?oiq3x10) (v := ?vq3x10) ?hiq3x10 (by kernel_rfl) (by kernel_rfl) (by kernel_rfl) ?hQq3x10 (Or.inl ⟨?hwq3x10, ?hyq3x10⟩) (by assumption) ?restq3x10
                case hiq3x10 => simp only [List.getElem?_toArray, List.getElem?_cons_succ, List.getElem?_cons_zero]; exact rfl
                case hQq3x10 => exact fun _ _ _ h => h
                case hwq3x10 => rfl
                case hyq3x10 => ((intro w hSw; (try dsimp only at hSw); go_simp) <;> with_reducible rfl)
                try simp only [Act.put, List.setIfInBounds_toArray, List.set_cons_zero, List.set_cons_succ]
                refine wpAnyH_take (i := 10) (oi := ?oiq3x11) (v := ?vq3x11) ?hiq3x11 (by kernel_rfl) (by kernel_rfl) (by kernel_rfl) ?hQq3x11 (Or.inl ⟨?hwq3x11, ?hyq3x11⟩) (by assumption) ?restq3x11
                case hiq3x11 => simp only [List.getElem?_toArray, List.getElem?_cons_succ, List.getElem?_cons_zero]; exact rfl
                case hQq3x11 => exact fun _ _ _ h => h
                case hwq3x11 => rfl
                case hyq3x11 => ((intro w hSw; (try dsimp only at hSw); go_simp) <;> with_reducible rfl)
                try simp only [Act.put, List.setIfInBounds_toArray, List.set_cons_zero, List.set_cons_succ]
                refine wpAnyH_take (i := 11) (oi := ?oiq3x12) (v := ?vq3x12) ?hiq3x12 (by kernel_rfl) (by kernel_rfl) (by kernel_rfl) ?hQq3x12 (Or.inl ⟨?hwq3x12, ?hyq3x12⟩) (by assumption) ?restq3x12
                case hiq3x12 => simp only [List.getElem?_toArray, List.getElem?_cons_succ, List.getElem?_cons_zero]; exact rfl
                case hQq3x12 => exact fun _ _ _ h => h
                case hwq3x12 => rfl
                case hyq3x12 => ((intro w hSw; (try dsimp only at hSw); go_simp) <;> with_reducible rfl)
                try simp only [Act.put, List.setIfInBounds_toArray, List.set_cons_zero, List.set_cons_succ]
                refine wpAnyH_take (i := 12) (oi := ?oiq3x13) (v := ?vq3x13) ?hiq3x13 (by kernel_rfl) (by kernel_rfl) (by kernel_rfl) ?hQq3x13 (Or.inl ⟨?hwq3x13, ?hyq3x13⟩) (by assumption) ?restq3x13
                case hiq3x13 => simp only [List.getElem?_toArray, List.getElem?_cons_succ, List.getElem?_cons_zero]; exact rfl
                case hQq3x13 => exact fun _ _ _ h => h
                case hwq3x13 => rfl
                case hyq3x13 => ((intro w hSw; (try dsimp only at hSw); go_simp) <;> with_reducible rfl)
                try simp only [Act.put, List.setIfInBounds_toArray, List.set_cons_zero, List.set_cons_succ]
                refine wpAnyH_done (by kernel_rfl) ?_ _
                clear h2 p0 p1 p2
                obtain ⟨hb5, c0', c1', c2', _⟩ := hHeld
                replace hown := own_below hown hb5
                replace hbel := hbel.trans (hb5.mono hbel.size)
                clear hb5 c0 c1 c2
                generalize w4.drew = w5 at *
                have hbs := hbel.size
                have hov := hown.lt
                go_wp2_with (at_builtin; refine wpList_append_own_at _ rfl _ _ 40 rfl w.heap.size 94 i0 _ 3 24 Try.underlying40 hi hz0 hz1 hz2 rfl (by decide) _ _ _ rfl (hown.alloc _) ⟨w5.heap.size, 0, none⟩ 1 1 [.int .i64 (num zb (j * 3)), .int .i64 (num zb (j * 3 + 1)), .int .i64 (num zb (j * 3 + 2))] rfl rfl (World.news_of_block (heap_alloc_new w5 _)) (by intro u hu; simp at hu; rcases hu with rfl | rfl | rfl <;> rfl) (by unfold maxLen; omega) (by omega) (by simp; omega) ?_)
                intro v' w6 hown2 hgrow2 _ _
                have hbel2 := (hbel.alloc hbs (.cells #[.int .i64 (num zb (j * 3)), .int .i64 (num zb (j * 3 + 1)), .int .i64 (num zb (j * 3 + 2))] 94)).grown hgrow2 (by simp; omega) (fun q hq => (hov q hq).1)
                obtain ⟨A3, d3, rfl, _, _⟩ := own_slice hown2
                have HO2 := Lib.hid hown2
                have HB2 := Lib.hid hbel2
                clear hbel2 hgrow2 hown2 hbel hown c0' c1' c2' hl hr
                go_wp2_with fail
                go_roundw
                case rel => exact ⟨j + 1, N + 1, by omega, by omega, by go_num, by rw [HG.out, if_pos HS.out, ← List.append_assoc, List.length_append, HLN.out]; simp; omega, by rw [HG.out, if_pos HS.out, ← List.append_assoc, nums_append]; exact HO2.out, HB2.out⟩
                case measure => simp [intOf]; omega
            · have HS : Hid (newL za k (num zb (j * 3)) (num zb (j * 3 + 1)) (num zb (j * 3 + 2)) = true) := Lib.hid (by rw [HW.out]; simp [h1])
              clear HW
              go_upto_region 13 with fail
              refine wp_region_held_drew (S := (fun w' => Below w4.heap.size w4 w' ∧ w'.cell? ⟨b, o + j * 3, none⟩ = some (.int .i64 (num zb (j * 3))) ∧ w'.cell? ⟨b, o + j * 3 + 1, none⟩ = some (.int .i64 (num zb (j * 3 + 1))) ∧ w'.cell? ⟨b, o + j * 3 + 2, none⟩ = some (.int .i64 (num zb (j * 3 + 2))) ∧ w'.cell? ⟨b', o' + i * 3, none⟩ = some (.int .i64 (num zb (j * 3))) ∧ w'.cell? ⟨b', o' + i * 3 + 1, none⟩ = some (.int .i64 (num za (i * 3 + 1))) ∧ w'.cell? ⟨b', o' + i * 3 + 2, none⟩ = some (.int .i64 (num za (i * 3 + 2))))) (by kernel_rfl) ?hSq4xs (fun hHeld => ?restq4xs)
              case hSq4xs => ((first | assumption | ((((try dsimp only); repeat' apply And.intro) <;> (first | assumption | (refine below_later ?_ (by assumption); first | assumption | (simp only [*]; done) | (go_grown; done)) | (refine cell_later (by assumption) ?_; first | assumption | (simp only [*]; done) | (simp [go_sem]; done)) | (go_grown; done) | (simp [go_sem]; done))))))
              refine wpAnyH_take (i := 0) (oi := ?oiq4x1) (v := ?vq4x1) ?hiq4x1 (by kernel_rfl) (by kernel_rfl) (by kernel_rfl) ?hQq4x1 (Or.inl ⟨?hwq4x1, ?hyq4x1⟩) (by assumption) ?restq4x1
              case hiq4x1 => simp only [List.getElem?_toArray, List.getElem?_cons_succ, List.getElem?_cons_zero]; exact rfl
              case hQq4x1 => exact fun _ _ _ h => h
              case hwq4x1 => rfl
              case hyq4x1 => ((intro w hSw; (try dsimp only at hSw); go_simp) <;> with_reducible rfl)
              try simp only [Act.put, List.setIfInBounds_toArray, List.set_cons_zero, List.set_cons_succ]
              refine wpAnyH_take (i := 1) (oi := ?oiq4x2) (v := ?vq4x2) ?hiq4x2 (by kernel_rfl) (by kernel_rfl) (by kernel_rfl) ?hQq4x2 (Or.inl ⟨?hwq4x2, ?hyq4x2⟩) (by assumption) ?restq4x2
              case hiq4x2 => simp only [List.getElem?_toArray, List.getElem?_cons_succ, List.getElem?_cons_zero]; exact rfl
              case hQq4x2 => exact fun _ _ _ h => h
              case hwq4x2 => rfl
              case hyq4x2 => ((intro w hSw; (try dsimp only at hSw); go_simp) <;> with_reducible rfl)
              try simp only [Act.put, List.setIfInBounds_toArray, List.set_cons_zero, List.set_cons_succ]
              refine wpAnyH_take (i := 2) (oi := ?oiq4x3) (v := ?vq4x3) ?hiq4x3 (by kernel_rfl) (by kernel_rfl) (by kernel_rfl) ?hQq4x3 (Or.inl ⟨?hwq4x3, ?hyq4x3⟩) (by assumption) ?restq4x3
              case hiq4x3 => simp only [List.getElem?_toArray, List.getElem?_cons_succ, List.getElem?_cons_zero]; exact rfl
              case hQq4x3 => exact fun _ _ _ h => h
              case hwq4x3 => rfl
              case hyq4x3 => ((intro w hSw; (try dsimp only at hSw); go_simp) <;> with_reducible rfl)
              try simp only [Act.put, List.setIfInBounds_toArray, List.set_cons_zero, List.set_cons_succ]
              refine wpAnyH_take (i := 3) (oi := ?oiq4x4) (v := ?vq4x4) ?hiq4x4 (by kernel_rfl) (by kernel_rfl) (by kernel_rfl) ?hQq4x4 (Or.inl ⟨?hwq4x4, ?hyq4x4⟩) (by assumption) ?restq4x4
              case hiq4x4 => simp only [List.getElem?_toArray, List.getElem?_cons_succ, List.getElem?_cons_zero]; exact rfl
              case hQq4x4 => exact fun _ _ _ h => h
              case hwq4x4 => rfl
              case hyq4x4 => ((intro w hSw; (try dsimp only at hSw); go_simp) <;> with_reducible rfl)
              try simp only [Act.put, List.setIfInBounds_toArray, List.set_cons_zero, List.set_cons_succ]
              refine wpAnyH_take (i := 4) (oi := ?oiq4x5) (v := ?vq4x5) ?hiq4x5 (by kernel_rfl) (by kernel_rfl) (by kernel_rfl) ?hQq4x5 (Or.inl ⟨?hwq4x5, ?hyq4x5⟩) (by assumption) ?restq4x5
              case hiq4x5 => simp only [List.getElem?_toArray, List.getElem?_cons_succ, List.getElem?_cons_zero]; exact rfl
              case hQq4x5 => exact fun _ _ _ h => h
              case hwq4x5 => rfl
              case hyq4x5 => ((intro w hSw; (try dsimp only at hSw); go_simp) <;> with_reducible rfl)
              try simp only [Act.put, List.setIfInBounds_toArray, List.set_cons_zero, List.set_cons_succ]
              refine wpAnyH_take (i := 5) (oi := ?oiq4x6) (v := ?vq4x6) ?hiq4x6 (by kernel_rfl) (by kernel_rfl) (by kernel_rfl) ?hQq4x6 (Or.inl ⟨?hwq4x6, ?hyq4x6⟩) (by assumption) ?restq4x6
              case hiq4x6 => simp only [List.getElem?_toArray, List.getElem?_cons_succ, List.getElem?_cons_zero]; exact rfl
              case hQq4x6 => exact fun _ _ _ h => h
              case hwq4x6 => rfl
              case hyq4x6 => ((intro w hSw; (try dsimp only at hSw); go_simp) <;> with_reducible rfl)
              try simp only [Act.put, List.setIfInBounds_toArray, List.set_cons_zero, List.set_cons_succ]
              refine wpAnyH_take (i := 6) (oi := ?oiq4x7) (v := ?vq4x7) ?hiq4x7 (by kernel_rfl) (by kernel_rfl) (by kernel_rfl) ?hQq4x7 (Or.inl ⟨?hwq4x7, ?hyq4x7⟩) (by assumption) ?restq4x7
              case hiq4x7 => simp only [List.getElem?_toArray, List.getElem?_cons_succ, List.getElem?_cons_zero]; exact rfl
              case hQq4x7 => exact fun _ _ _ h => h
              case hwq4x7 => rfl
              case hyq4x7 => ((intro w hSw; (try dsimp only at hSw); go_simp) <;> with_reducible rfl)
              try simp only [Act.put, List.setIfInBounds_toArray, List.set_cons_zero, List.set_cons_succ]
              refine wpAnyH_take (i := 7) (oi := ?oiq4x8) (v := ?vq4x8) ?hiq4x8 (by kernel_rfl) (by kernel_rfl) (by kernel_rfl) ?hQq4x8 (Or.inl ⟨?hwq4x8, ?hyq4x8⟩) (by assumption) ?restq4x8
              case hiq4x8 => simp only [List.getElem?_toArray, List.getElem?_cons_succ, List.getElem?_cons_zero]; exact rfl
              case hQq4x8 => exact fun _ _ _ h => h
              case hwq4x8 => rfl
              case hyq4x8 => ((intro w hSw; (try dsimp only at hSw); go_simp) <;> with_reducible rfl)
              try simp only [Act.put, List.setIfInBounds_toArray, List.set_cons_zero, List.set_cons_succ]
              refine wpAnyH_take (i := 8) (oi := ?oiq4x9) (v := ?vq4x9) ?hiq4x9 (by kernel_rfl) (by kernel_rfl) (by kernel_rfl) ?hQq4x9 (Or.inl ⟨?hwq4x9, ?hyq4x9⟩) (by assumption) ?restq4x9
              case hiq4x9 => simp only [List.getElem?_toArray, List.getElem?_cons_succ, List.getElem?_cons_zero]; exact rfl
              case hQq4x9 => exact fun _ _ _ h => h
              case hwq4x9 => rfl
              case hyq4x9 => ((intro w hSw; (try dsimp only at hSw); go_simp) <;> with_reducible rfl)
              try simp only [Act.put, List.setIfInBounds_toArray, List.set_cons_zero, List.set_cons_succ]
              refine wpAnyH_take (i := 9) (oi := ?oiq4x10) (v := ?vq4x10) ?hiq4x10 (by kernel_rfl) (by kernel_rfl) (by kernel_rfl) ?hQq4x10 (Or.inl ⟨?hwq4x10, ?hyq4x10⟩) (by assumption) ?restq4x10
              case hiq4x10 => simp only [List.getElem?_toArray, List.getElem?_cons_succ, List.getElem?_cons_zero]; exact rfl
              case hQq4x10 => exact fun _ _ _ h => h
              case hwq4x10 => rfl
              case hyq4x10 => ((intro w hSw; (try dsimp only at hSw); go_simp) <;> with_reducible rfl)
              try simp only [Act.put, List.setIfInBounds_toArray, List.set_cons_zero, List.set_cons_succ]
              refine wpAnyH_take (i := 10) (oi := ?oiq4x11) (v := ?vq4x11) ?hiq4x11 (by kernel_rfl) (by kernel_rfl) (by kernel_rfl) ?hQq4x11 (Or.inl ⟨?hwq4x11, ?hyq4x11⟩) (by assumption) ?restq4x11
              case hiq4x11 => simp only [List.getElem?_toArray, List.getElem?_cons_succ, List.getElem?_cons_zero]; exact rfl
              case hQq4x11 => exact fun _ _ _ h => h
              case hwq4x11 => rfl
              case hyq4x11 => ((intro w hSw; (try dsimp only at hSw); go_simp) <;> with_reducible rfl)
              try simp only [Act.put, List.setIfInBounds_toArray, List.set_cons_zero, List.set_cons_succ]
              refine wpAnyH_take (i := 11) (oi := ?oiq4x12) (v := ?vq4x12) ?hiq4x12 (by kernel_rfl) (by kernel_rfl) (by kernel_rfl) ?hQq4x12 (Or.inl ⟨?hwq4x12, ?hyq4x12⟩) (by assumption) ?restq4x12
              case hiq4x12 => simp only [List.getElem?_toArray, List.getElem?_cons_succ, List.getElem?_cons_zero]; exact rfl
              case hQq4x12 => exact fun _ _ _ h => h
              case hwq4x12 => rfl
              case hyq4x12 => ((intro w hSw; (try dsimp only at hSw); go_simp) <;> with_reducible rfl)
              try simp only [Act.put, List.setIfInBounds_toArray, List.set_cons_zero, List.set_cons_succ]
              refine wpAnyH_take (i := 12) (oi := ?oiq4x13) (v := ?vq4x13) ?hiq4x13 (by kernel_rfl) (by kernel_rfl) (by kernel_rfl) ?hQq4x13 (Or.inl ⟨?hwq4x13, ?hyq4x13⟩) (by assumption) ?restq4x13
              case hiq4x13 => simp only [List.getElem?_toArray, List.getElem?_cons_succ, List.getElem?_cons_zero]; exact rfl
              case hQq4x13 => exact fun _ _ _ h => h
              case hwq4x13 => rfl
              case hyq4x13 => ((intro w hSw; (try dsimp only at hSw); go_simp) <;> with_reducible rfl)
              try simp only [Act.put, List.setIfInBounds_toArray, List.set_cons_zero, List.set_cons_succ]
              refine wpAnyH_done (by kernel_rfl) ?_ _
              clear h1 p0 p1 p2
              obtain ⟨hb5, c0', c1', c2', _⟩ := hHeld
              replace hown := own_below hown hb5
              replace hbel := hbel.trans (hb5.mono hbel.size)
              clear hb5 c0 c1 c2
              generalize w4.drew = w5 at *
              have hbs := hbel.size
              have hov := hown.lt
              go_wp2_with (at_builtin; refine wpList_append_own_at _ rfl _ _ 40 rfl w.heap.size 94 i0 _ 3 24 Try.underlying40 hi hz0 hz1 hz2 rfl (by decide) _ _ _ rfl (hown.alloc _) ⟨w5.heap.size, 0, none⟩ 1 1 [.int .i64 (num zb (j * 3)), .int .i64 (num zb (j * 3 + 1)), .int .i64 (num zb (j * 3 + 2))] rfl rfl (World.news_of_block (heap_alloc_new w5 _)) (by intro u hu; simp at hu; rcases hu with rfl | rfl | rfl <;> rfl) (by unfold maxLen; omega) (by omega) (by simp; omega) ?_)
              intro v' w6 hown2 hgrow2 _ _
              have hbel2 := (hbel.alloc hbs (.cells #[.int .i64 (num zb (j * 3)), .int .i64 (num zb (j * 3 + 1)), .int .i64 (num zb (j * 3 + 2))] 94)).grown hgrow2 (by simp; omega) (fun q hq => (hov q hq).1)
              obtain ⟨A3, d3, rfl, _, _⟩ := own_slice hown2
              have HO2 := Lib.hid hown2
              have HB2 := Lib.hid hbel2
              clear hbel2 hgrow2 hown2 hbel hown c0' c1' c2' hl hr
              go_wp2_with fail
              go_roundw
              case rel => exact ⟨j + 1, N + 1, by omega, by omega, by go_num, by rw [HG.out, if_pos HS.out, ← List.append_assoc, List.length_append, HLN.out]; simp; omega, by rw [HG.out, if_pos HS.out, ← List.append_assoc, nums_append]; exact HO2.out, HB2.out⟩
              case measure => simp [intOf]; omega
        · obtain rfl : j = m := by omega
          have HD : Hid (dltZ side za k zb j = goneL za zb j k ++ comeL za zb k j) := Lib.hid HZ.out
          clear hl hr
          go_wp2_with fail
          exact bodyPost_ret (v := .tuple #[.slice A2 N d2, .bool true]) (by simp [results, Try.results19, go_sem]) rfl ⟨⟨_, N, by rw [HN.out], by rw [HD.out]; exact hlen, by rw [HD.out]; exact hown⟩, hbel⟩
end Go.Proofs.Ytfodkefaflpicaa

namespace Go.Proofs.Ytfodkefaflpicaa
open Go.RowKit Wire

/-- level k is this one -/
def sameL (zs : List Int) (p q m : Int) (k : Nat) : Bool := p == num zs (k * 3) && (q == num zs (k * 3 + 1) && m == num zs (k * 3 + 2))
/-- one of the first levels is this one -/
def hasTo (zs : List Int) (p q m : Int) : Nat → Bool
  | 0 => false
  | k + 1 => hasTo zs p q m k || sameL zs p q m k
theorem hasTo_no {zs : List Int} {p q m : Int} : ∀ n, hasTo zs p q m n = false ↔ ∀ j, j < n → sameL zs p q m j = false
  | 0 => by simp [hasTo]
  | n + 1 => by
    rw [hasTo, Bool.or_eq_false_iff, hasTo_no n]
    constructor
    · rintro ⟨h1, h2⟩ j hj
      rcases Nat.lt_or_ge j n with h | h
      · exact h1 j h
      · obtain rfl : j = n := by omega
        exact h2
    · intro h
      exact ⟨fun j hj => h j (by omega), h n (by omega)⟩
theorem hasTo_yes {zs : List Int} {p q m : Int} {k n : Nat} (hk : k < n) (h : sameL zs p q m k = true) : hasTo zs p q m n = true := by
  cases hh : hasTo zs p q m n with
  | true => rfl
  | false =>
    have := (hasTo_no n).1 hh k hk
    rw [h] at this
    cases this
theorem ahd_trans {side a b c : Int} (h1 : ahdB side a b = true) (h2 : ahdB side b c = true) : ahdB side a c = true := by
  unfold ahdB at *
  split at h1 <;> simp_all <;> omega
theorem ahd_ne {side a b : Int} (h : ahdB side a b = true) : a ≠ b := by
  unfold ahdB at h
  split at h <;> simp at h <;> omega
theorem lv_order {side : Int} {zs : List Int} {n : Nat} (h : lvTo side zs n = true) : ∀ j i, i < j → j < n → ahdB side (num zs (i * 3)) (num zs (j * 3)) = true
  | 0, i, hi, _ => absurd hi (Nat.not_lt_zero i)
  | j + 1, i, hi, hj => by
    have hstep : ∀ n, lvTo side zs n = true → j + 1 < n → ahdB side (num zs (j * 3)) (num zs ((j + 1) * 3)) = true := by
      intro n
      induction n with
      | zero => intro _ h; omega
      | succ n ih =>
        intro h hlt
        simp only [lvTo, Bool.and_eq_true] at h
        rcases Nat.lt_or_ge (j + 1) n with h' | h'
        · exact ih h.1 h'
        · obtain rfl : n = j + 1 := by omega
          have := h.2.2
          simpa using this
    have h1 := hstep n h hj
    rcases Nat.lt_or_ge i j with h' | h'
    · exact ahd_trans (lv_order h j i h' (by omega)) h1
    · obtain rfl : i = j := by omega
      exact h1
/-- among right levels the first one with a price is the only one -/
theorem newL_has {side : Int} {zs : List Int} {n : Nat} {p q m : Int} (h : lvTo side zs n = true) : newL zs n p q m = !hasTo zs p q m n := by
  unfold newL
  cases hs : spotL zs p n with
  | none =>
    have h1 := (spotL_none n).1 hs
    have : hasTo zs p q m n = false := (hasTo_no n).2 (fun j hj => by
      have := h1 j hj
      simp only [sameL, Bool.and_eq_false_iff, beq_eq_false_iff_ne]
      exact .inl (fun e => this e.symm))
    rw [this]; rfl
  | some i =>
    obtain ⟨hi, hp, hb⟩ := spotL_some n hs
    dsimp only
    congr 1
    cases hh : hasTo zs p q m n with
    | false =>
      have := (hasTo_no n).1 hh i hi
      simp only [sameL, Bool.and_eq_false_iff, beq_eq_false_iff_ne] at this
      simp only [Bool.and_eq_false_iff, beq_eq_false_iff_ne]
      rcases this with h1 | h1 | h1
      · exact absurd hp.symm h1
      · exact .inr (.inl (fun e => h1 e.symm))
      · exact .inr (.inr (fun e => h1 e.symm))
    | true =>
      obtain ⟨k, hk, hsm⟩ : ∃ k, k < n ∧ sameL zs p q m k = true := by
        refine Classical.byContradiction fun hno => ?_
        have : hasTo zs p q m n = false := (hasTo_no n).2 (fun j hj => by
          cases hj2 : sameL zs p q m j with
          | false => rfl
          | true => exact absurd ⟨j, hj, hj2⟩ hno)
        rw [hh] at this
        cases this
      simp only [sameL, Bool.and_eq_true, beq_iff_eq] at hsm
      have hki : k = i := by
        rcases Nat.lt_trichotomy k i with h' | h' | h'
        · exact absurd hsm.1.symm (hb k h')
        · exact h'
        · exact absurd (hp.trans hsm.1) (ahd_ne (lv_order h k i h' hk))
      subst hki
      simp [hp, hsm.2.1, hsm.2.2]
set_option linter.unusedSimpArgs false in
set_option maxHeartbeats 1600000 in
set_option maxRecDepth 100000 in
theorem lev_Index (A : Option Addr) (n c : Nat) (zs : List Int) (p q m : Int) (w : World) (hl : Lst w w.heap.size 3 A n zs) (hn : n ≤ 1048576) :
    Calls Try.prog 115 #[.slice A n c, .agg #[.int .i64 p, .int .i64 q, .int .i64 m]] w fun e w' => (∃ z : Int, e = .returned (.int .i64 z) ∧ -1 ≤ z ∧ z ≤ 1048576 ∧ hasTo zs p q m n = decide (0 ≤ z)) ∧ Below w.heap.size w w' := by
  have hb0 : Below w.heap.size w (w.alloc (.cells #[.int .i64 p, .int .i64 q, .int .i64 m] 94)) := (Below.refl _ _).alloc (Nat.le_refl _) _
  have hk0 : (w.alloc (.cells #[.int .i64 p, .int .i64 q, .int .i64 m] 94)).heap[w.heap.size]? = some (.cells #[.int .i64 p, .int .i64 q, .int .i64 m] 94 (0, 0)) := heap_alloc_new w _
  go_enter Try.func115, Try.ntmps115
  go_wp2_with fail
  generalize w.alloc (.cells #[.int .i64 p, .int .i64 q, .int .i64 m] 94) = w0 at *
  go_loopw [8] (fun i wr => ∃ k : Nat, k ≤ n ∧ i = .int .i64 (k : Int) ∧ (∀ j, j < k → sameL zs p q m j = false) ∧ Below w.heap.size w wr ∧ (wr.cell? ⟨w.heap.size, 0, none⟩ = some (.int .i64 p) ∧ wr.cell? ⟨w.heap.size, 1, none⟩ = some (.int .i64 q) ∧ wr.cell? ⟨w.heap.size, 2, none⟩ = some (.int .i64 m))) (fun i _ => n - (intOf i).toNat)
  case atStart => exact ⟨0, Nat.zero_le _, rfl, fun j hj => absurd hj (Nat.not_lt_zero j), hb0, by simp [World.cell?, hk0], by simp [World.cell?, hk0], by simp [World.cell?, hk0]⟩
  case round =>
    clear hb0 hk0
    obtain ⟨k, hk, rfl, hno, hbel, x0, x1, x2⟩ := hrel
    have HN := Lib.hid hno
    clear hno
    by_cases hlt : k < n
    · obtain ⟨b, o, rfl, hb, c0, c1, c2⟩ := (hl.below hbel).row3 hlt
      by_cases h0 : p = num zs (k * 3)
      · rw [← h0] at c0
        by_cases h1 : q = num zs (k * 3 + 1)
        · rw [← h1] at c1
          by_cases h2 : m = num zs (k * 3 + 2)
          · rw [← h2] at c2
            have HS : Hid (sameL zs p q m k = true) := Lib.hid (by simp [sameL, ← h0, ← h1, ← h2])
            clear hl h0 h1 h2
            go_upto_region 4 with fail
            refine wp_region_held_drew (S := (fun w' => Below wr.heap.size wr w' ∧ w'.cell? ⟨w.heap.size, 0, none⟩ = some (.int .i64 p) ∧ w'.cell? ⟨w.heap.size, 1, none⟩ = some (.int .i64 q) ∧ w'.cell? ⟨w.heap.size, 2, none⟩ = some (.int .i64 m) ∧ w'.cell? ⟨b, o + k * 3, none⟩ = some (.int .i64 p) ∧ w'.cell? ⟨b, o + k * 3 + 1, none⟩ = some (.int .i64 q) ∧ w'.cell? ⟨b, o + k * 3 + 2, none⟩ = some (.int .i64 m))) (by kernel_rfl) ?hSq1xs (fun hHeld => ?restq1xs)
            case hSq1xs => ((first | assumption | ((((try dsimp only); repeat' apply And.intro) <;> (first | assumption | (refine below_later ?_ (by assumption); first | assumption | (simp only [*]; done) | (go_grown; done)) | (refine cell_later (by assumption) ?_; first | assumption | (simp only [*]; done) | (simp [go_sem]; done)) | (go_grown; done) | (simp [go_sem]; done))))))
            refine wpAnyH_take (i := 0) (oi := ?oiq1x1) (v := ?vq1x1) ?hiq1x1 (by kernel_rfl) (by kernel_rfl) (by kernel_rfl) ?hQq1x1 (Or.inl ⟨?hwq1x1, ?hyq1x1⟩) (by assumption) ?restq1x1
            case hiq1x1 => simp only [List.getElem?_toArray, List.getElem?_cons_succ, List.getElem?_cons_zero]; exact rfl
            case hQq1x1 => exact fun _ _ _ h => h
            case hwq1x1 => rfl
            case hyq1x1 => ((intro w hSw; (try dsimp only at hSw); go_simp) <;> with_reducible rfl)
            try simp only [Act.put, List.setIfInBounds_toArray, List.set_cons_zero, List.set_cons_succ]
            refine wpAnyH_take (i := 1) (oi := ?oiq1x2) (v := ?vq1x2) ?hiq1x2 (by kernel_rfl) (by kernel_rfl) (by kernel_rfl) ?hQq1x2 (Or.inl ⟨?hwq1x2, ?hyq1x2⟩) (by assumption) ?restq1x2
            case hiq1x2 => simp only [List.getElem?_toArray, List.getElem?_cons_succ, List.getElem?_cons_zero]; exact rfl
            case hQq1x2 => exact fun _ _ _ h => h
            case hwq1x2 => rfl
            case hyq1x2 => ((intro w hSw; (try dsimp only at hSw); go_simp) <;> with_reducible rfl)
            try simp only [Act.put, List.setIfInBounds_toArray, List.set_cons_zero, List.set_cons_succ]
            refine wpAnyH_take (i := 2) (oi := ?oiq1x3) (v := ?vq1x3) ?hiq1x3 (by kernel_rfl) (by kernel_rfl) (by kernel_rfl) ?hQq1x3 (Or.inl ⟨?hwq1x3, ?hyq1x3⟩) (by assumption) ?restq1x3
            case hiq1x3 => simp only [List.getElem?_toArray, List.getElem?_cons_succ, List.getElem?_cons_zero]; exact rfl
            case hQq1x3 => exact fun _ _ _ h => h
            case hwq1x3 => rfl
            case hyq1x3 => ((intro w hSw; (try dsimp only at hSw); go_simp) <;> with_reducible rfl)
            try simp only [Act.put, List.setIfInBounds_toArray, List.set_cons_zero, List.set_cons_succ]
            refine wpAnyH_take (i := 3) (oi := ?oiq1x4) (v := ?vq1x4) ?hiq1x4 (by kernel_rfl) (by kernel_rfl) (by kernel_rfl) ?hQq1x4 (Or.inl ⟨?hwq1x4, ?hyq1x4⟩) (by assumption) ?restq1x4
            case hiq1x4 => simp only [List.getElem?_toArray, List.getElem?_cons_succ, List.getElem?_cons_zero]; exact rfl
            case hQq1x4 => exact fun _ _ _ h => h
            case hwq1x4 => rfl
            case hyq1x4 => ((intro w hSw; (try dsimp only at hSw); go_simp) <;> with_reducible rfl)
            try simp only [Act.put, List.setIfInBounds_toArray, List.set_cons_zero, List.set_cons_succ]
            refine wpAnyH_take (i := 4) (oi := ?oiq1x5) (v := ?vq1x5) ?hiq1x5 (by kernel_rfl) (by kernel_rfl) (by kernel_rfl) ?hQq1x5 (Or.inl ⟨?hwq1x5, ?hyq1x5⟩) (by assumption) ?restq1x5
            case hiq1x5 => simp only [List.getElem?_toArray, List.getElem?_cons_succ, List.getElem?_cons_zero]; exact rfl
            case hQq1x5 => exact fun _ _ _ h => h
            case hwq1x5 => rfl
            case hyq1x5 => ((intro w hSw; (try dsimp only at hSw); go_simp) <;> with_reducible rfl)
            try simp only [Act.put, List.setIfInBounds_toArray, List.set_cons_zero, List.set_cons_succ]
            refine wpAnyH_take (i := 5) (oi := ?oiq1x6) (v := ?vq1x6) ?hiq1x6 (by kernel_rfl) (by kernel_rfl) (by kernel_rfl) ?hQq1x6 (Or.inl ⟨?hwq1x6, ?hyq1x6⟩) (by assumption) ?restq1x6
            case hiq1x6 => simp only [List.getElem?_toArray, List.getElem?_cons_succ, List.getElem?_cons_zero]; exact rfl
            case hQq1x6 => exact fun _ _ _ h => h
            case hwq1x6 => rfl
            case hyq1x6 => ((intro w hSw; (try dsimp only at hSw); go_simp) <;> with_reducible rfl)
            try simp only [Act.put, List.setIfInBounds_toArray, List.set_cons_zero, List.set_cons_succ]
            refine wpAnyH_done (by kernel_rfl) ?_ _
            have hB := hbel.trans (hHeld.1.mono hbel.size)
            clear hHeld
            have HT := Lib.hid (hasTo_yes hlt HS.out)
            go_wp2_with fail
            go_ret
            exact ⟨⟨_, rfl, by omega, by omega, by rw [HT.out]; simp⟩, hB⟩
          · have HS : Hid (sameL zs p q m k = false) := Lib.hid (by simp [sameL, h2])
            clear hl h0 h1
            go_upto_region 4 with fail
            refine wp_region_held_drew (S := (fun w' => Below wr.heap.size wr w' ∧ w'.cell? ⟨w.heap.size, 0, none⟩ = some (.int .i64 p) ∧ w'.cell? ⟨w.heap.size, 1, none⟩ = some (.int .i64 q) ∧ w'.cell? ⟨w.heap.size, 2, none⟩ = some (.int .i64 m) ∧ w'.cell? ⟨b, o + k * 3, none⟩ = some (.int .i64 p) ∧ w'.cell? ⟨b, o + k * 3 + 1, none⟩ = some (.int .i64 q) ∧ w'.cell? ⟨b, o + k * 3 + 2, none⟩ = some (.int .i64 (num zs (k * 3 + 2))))) (by kernel_rfl) ?hSq2xs (fun hHeld => ?restq2xs)
            case hSq2xs => ((first | assumption | ((((try dsimp only); repeat' apply And.intro) <;> (first | assumption | (refine below_later ?_ (by assumption); first | assumption | (simp only [*]; done) | (go_grown; done)) | (refine cell_later (by assumption) ?_; first | assumption | (simp only [*]; done) | (simp [go_sem]; done)) | (go_grown; done) | (simp [go_sem]; done))))))
            refine wpAnyH_take (i := 0) (oi := ?oiq2x1) (v := ?vq2x1) ?hiq2x1 (by kernel_rfl) (by kernel_rfl) (by kernel_rfl) ?hQq2x1 (Or.inl ⟨?hwq2x1, ?hyq2x1⟩) (by assumption) ?restq2x1
            case hiq2x1 => simp only [List.getElem?_toArray, List.getElem?_cons_succ, List.getElem?_cons_zero]; exact rfl
            case hQq2x1 => exact fun _ _ _ h => h
            case hwq2x1 => rfl
            case hyq2x1 => ((intro w hSw; (try dsimp only at hSw); go_simp) <;> with_reducible rfl)
            try simp only [Act.put, List.setIfInBounds_toArray, List.set_cons_zero, List.set_cons_succ]
            refine wpAnyH_take (i := 1) (oi := ?oiq2x2) (v := ?vq2x2) ?hiq2x2 (by kernel_rfl) (by kernel_rfl) (by kernel_rfl) ?hQq2x2 (Or.inl ⟨?hwq2x2, ?hyq2x2⟩) (by assumption) ?restq2x2
            case hiq2x2 => simp only [List.getElem?_toArray, List.getElem?_cons_succ, List.getElem?_cons_zero]; exact rfl
            case hQq2x2 => exact fun _ _ _ h => h
            case hwq2x2 => rfl
            case hyq2x2 => ((intro w hSw; (try dsimp only at hSw); go_simp) <;> with_reducible rfl)
            try simp only [Act.put, List.setIfInBounds_toArray, List.set_cons_zero, List.set_cons_succ]
            refine wpAnyH_take (i := 2) (oi := ?oiq2x3) (v := ?vq2x3) ?hiq2x3 (by kernel_rfl) (by kernel_rfl) (by kernel_rfl) ?hQq2x3 (Or.inl ⟨?hwq2x3, ?hyq2x3⟩) (by assumption) ?restq2x3
            case hiq2x3 => simp only [List.getElem?_toArray, List.getElem?_cons_succ, List.getElem?_cons_zero]; exact rfl
            case hQq2x3 => exact fun _ _ _ h => h
            case hwq2x3 => rfl
            case hyq2x3 => ((intro w hSw; (try dsimp only at hSw); go_simp) <;> with_reducible rfl)
            try simp only [Act.put, List.setIfInBounds_toArray, List.set_cons_zero, List.set_cons_succ]
            refine wpAnyH_take (i := 3) (oi := ?oiq2x4) (v := ?vq2x4) ?hiq2x4 (by kernel_rfl) (by kernel_rfl) (by kernel_rfl) ?hQq2x4 (Or.inl ⟨?hwq2x4, ?hyq2x4⟩) (by assumption) ?restq2x4
            case hiq2x4 => simp only [List.getElem?_toArray, List.getElem?_cons_succ, List.getElem?_cons_zero]; exact rfl
            case hQq2x4 => exact fun _ _ _ h => h
            case hwq2x4 => rfl
            case hyq2x4 => ((intro w hSw; (try dsimp only at hSw); go_simp) <;> with_reducible rfl)
            try simp only [Act.put, List.setIfInBounds_toArray, List.set_cons_zero, List.set_cons_succ]
            refine wpAnyH_take (i := 4) (oi := ?oiq2x5) (v := ?vq2x5) ?hiq2x5 (by kernel_rfl) (by kernel_rfl) (by kernel_rfl) ?hQq2x5 (Or.inl ⟨?hwq2x5, ?hyq2x5⟩) (by assumption) ?restq2x5
            case hiq2x5 => simp only [List.getElem?_toArray, List.getElem?_cons_succ, List.getElem?_cons_zero]; exact rfl
            case hQq2x5 => exact fun _ _ _ h => h
            case hwq2x5 => rfl
            case hyq2x5 => ((intro w hSw; (try dsimp only at hSw); go_simp) <;> with_reducible rfl)
            try simp only [Act.put, List.setIfInBounds_toArray, List.set_cons_zero, List.set_cons_succ]
            refine wpAnyH_take (i := 5) (oi := ?oiq2x6) (v := ?vq2x6) ?hiq2x6 (by kernel_rfl) (by kernel_rfl) (by kernel_rfl) ?hQq2x6 (Or.inl ⟨?hwq2x6, ?hyq2x6⟩) (by assumption) ?restq2x6
            case hiq2x6 => simp only [List.getElem?_toArray, List.getElem?_cons_succ, List.getElem?_cons_zero]; exact rfl
            case hQq2x6 => exact fun _ _ _ h => h
            case hwq2x6 => rfl
            case hyq2x6 => ((intro w hSw; (try dsimp only at hSw); go_simp) <;> with_reducible rfl)
            try simp only [Act.put, List.setIfInBounds_toArray, List.set_cons_zero, List.set_cons_succ]
            refine wpAnyH_done (by kernel_rfl) ?_ _
            have hB := hbel.trans (hHeld.1.mono hbel.size)
            have X3 := And.intro hHeld.2.1 (And.intro hHeld.2.2.1 hHeld.2.2.2.1)
            clear hHeld
            go_wp2_with fail
            go_roundw
            case rel => exact ⟨k + 1, by omega, by go_num, fun j hj => by
              rcases Nat.lt_or_ge j k with h | h
              · exact HN.out j h
              · obtain rfl : j = k := by omega
                exact HS.out, hB, X3⟩
            case measure => simp [intOf]; omega
        · have HS : Hid (sameL zs p q m k = false) := Lib.hid (by simp [sameL, h1])
          clear hl h0
          go_upto_region 4 with fail
          refine wp_region_held_drew (S := (fun w' => Below wr.heap.size wr w' ∧ w'.cell? ⟨w.heap.size, 0, none⟩ = some (.int .i64 p) ∧ w'.cell? ⟨w.heap.size, 1, none⟩ = some (.int .i64 q) ∧ w'.cell? ⟨w.heap.size, 2, none⟩ = some (.int .i64 m) ∧ w'.cell? ⟨b, o + k * 3, none⟩ = some (.int .i64 p) ∧ w'.cell? ⟨b, o + k * 3 + 1, none⟩ = some (.int .i64 (num zs (k * 3 + 1))) ∧ w'.cell? ⟨b, o + k * 3 + 2, none⟩ = some (.int .i64 (num zs (k * 3 + 2))))) (by kernel_rfl) ?hSq3xs (fun hHeld => ?restq3xs)
          case hSq3xs => ((first | assumption | ((((try dsimp only); repeat' apply And.intro) <;> (first | assumption | (refine below_later ?_ (by assumption); first | assumption | (simp only [*]; done) | (go_grown; done)) | (refine cell_later (by assumption) ?_; first | assumption | (simp only [*]; done) | (simp [go_sem]; done)) | (go_grown; done) | (simp [go_sem]; done))))))
          refine wpAnyH_take (i := 0) (oi := ?oiq3x1) (v := ?vq3x1) ?hiq3x1 (by kernel_rfl) (by kernel_rfl) (by kernel_rfl) ?hQq3x1 (Or.inl ⟨?hwq3x1, ?hyq3x1⟩) (by assumption) ?restq3x1
          case hiq3x1 => simp only [List.getElem?_toArray, List.getElem?_cons_succ, List.getElem?_cons_zero]; exact rfl
          case hQq3x1 => exact fun _ _ _ h => h
          case hwq3x1 => rfl
          case hyq3x1 => ((intro w hSw; (try dsimp only at hSw); go_simp) <;> with_reducible rfl)
          try simp only [Act.put, List.setIfInBounds_toArray, List.set_cons_zero, List.set_cons_succ]
          refine wpAnyH_take (i := 1) (oi := ?oiq3x2) (v := ?vq3x2) ?hiq3x2 (by kernel_rfl) (by kernel_rfl) (by kernel_rfl) ?hQq3x2 (Or.inl ⟨?hwq3x2, ?hyq3x2⟩) (by assumption) ?restq3x2
          case hiq3x2 => simp only [List.getElem?_toArray, List.getElem?_cons_succ, List.getElem?_cons_zero]; exact rfl
          case hQq3x2 => exact fun _ _ _ h => h
          case hwq3x2 => rfl
          case hyq3x2 => ((intro w hSw; (try dsimp only at hSw); go_simp) <;> with_reducible rfl)
          try simp only [Act.put, List.setIfInBounds_toArray, List.set_cons_zero, List.set_cons_succ]
          refine wpAnyH_take (i := 2) (oi := ?oiq3x3) (v := ?vq3x3) ?hiq3x3 (by kernel_rfl) (by kernel_rfl) (by kernel_rfl) ?hQq3x3 (Or.inl ⟨?hwq3x3, ?hyq3x3⟩) (by assumption) ?restq3x3
          case hiq3x3 => simp only [List.getElem?_toArray, List.getElem?_cons_succ, List.getElem?_cons_zero]; exact rfl
          case hQq3x3 => exact fun _ _ _ h => h
          case hwq3x3 => rfl
          case hyq3x3 => ((intro w hSw; (try dsimp only at hSw); go_simp) <;> with_reducible rfl)
          try simp only [Act.put, List.setIfInBounds_toArray, List.set_cons_zero, List.set_cons_succ]
          refine wpAnyH_take (i := 3) (oi := ?oiq3x4) (v := ?vq3x4) ?hiq3x4 (by kernel_rfl) (by kernel_rfl) (by kernel_rfl) ?hQq3x4 (Or.inl ⟨?hwq3x4, ?hyq3x4⟩) (by assumption) ?restq3x4
          case hiq3x4 => simp only [List.getElem?_toArray, List.getElem?_cons_succ, List.getElem?_cons_zero]; exact rfl
          case hQq3x4 => exact fun _ _ _ h => h
          case hwq3x4 => rfl
          case hyq3x4 => ((intro w hSw; (try dsimp only at hSw); go_simp) <;> with_reducible rfl)
          try simp only [Act.put, List.setIfInBounds_toArray, List.set_cons_zero, List.set_cons_succ]
          refine wpAnyH_take (i := 4) (oi := ?oiq3x5) (v := ?vq3x5) ?hiq3x5 (by kernel_rfl) (by kernel_rfl) (by kernel_rfl) ?hQq3x5 (Or.inl ⟨?hwq3x5, ?hyq3x5⟩) (by assumption) ?restq3x5
          case hiq3x5 => simp only [List.getElem?_toArray, List.getElem?_cons_succ, List.getElem?_cons_zero]; exact rfl
          case hQq3x5 => exact fun _ _ _ h => h
          case hwq3x5 => rfl
          case hyq3x5 => ((intro w hSw; (try dsimp only at hSw); go_simp) <;> with_reducible rfl)
          try simp only [Act.put, List.setIfInBounds_toArray, List.set_cons_zero, List.set_cons_succ]
          refine wpAnyH_take (i := 5) (oi := ?oiq3x6) (v := ?vq3x6) ?hiq3x6 (by kernel_rfl) (by kernel_rfl) (by kernel_rfl) ?hQq3x6 (Or.inl ⟨?hwq3x6, ?hyq3x6⟩) (by assumption) ?restq3x6
          case hiq3x6 => simp only [List.getElem?_toArray, List.getElem?_cons_succ, List.getElem?_cons_zero]; exact rfl
          case hQq3x6 => exact fun _ _ _ h => h
          case hwq3x6 => rfl
          case hyq3x6 => ((intro w hSw; (try dsimp only at hSw); go_simp) <;> with_reducible rfl)
          try simp only [Act.put, List.setIfInBounds_toArray, List.set_cons_zero, List.set_cons_succ]
          refine wpAnyH_done (by kernel_rfl) ?_ _
          have hB := hbel.trans (hHeld.1.mono hbel.size)
          have X3 := And.intro hHeld.2.1 (And.intro hHeld.2.2.1 hHeld.2.2.2.1)
          clear hHeld
          go_wp2_with fail
          go_roundw
          case rel => exact ⟨k + 1, by omega, by go_num, fun j hj => by
            rcases Nat.lt_or_ge j k with h | h
            · exact HN.out j h
            · obtain rfl : j = k := by omega
              exact HS.out, hB, X3⟩
          case measure => simp [intOf]; omega
      · have HS : Hid (sameL zs p q m k = false) := Lib.hid (by simp [sameL, h0])
        clear hl
        go_upto_region 4 with fail
        refine wp_region_held_drew (S := (fun w' => Below wr.heap.size wr w' ∧ w'.cell? ⟨w.heap.size, 0, none⟩ = some (.int .i64 p) ∧ w'.cell? ⟨w.heap.size, 1, none⟩ = some (.int .i64 q) ∧ w'.cell? ⟨w.heap.size, 2, none⟩ = some (.int .i64 m) ∧ w'.cell? ⟨b, o + k * 3, none⟩ = some (.int .i64 (num zs (k * 3))) ∧ w'.cell? ⟨b, o + k * 3 + 1, none⟩ = some (.int .i64 (num zs (k * 3 + 1))) ∧ w'.cell? ⟨b, o + k * 3 + 2, none⟩ = some (.int .i64 (num zs (k * 3 + 2))))) (by kernel_rfl) ?hSq4xs (fun hHeld => ?restq4xs)
        case hSq4xs => ((first | assumption | ((((try dsimp only); repeat' apply And.intro) <;> (first | assumption | (refine below_later ?_ (by assumption); first | assumption | (simp only [*]; done) | (go_grown; done)) | (refine cell_later (by assumption) ?_; first | assumption | (simp only [*]; done) | (simp [go_sem]; done)) | (go_grown; done) | (simp [go_sem]; done))))))
        refine wpAnyH_take (i := 0) (oi := ?oiq4x1) (v := ?vq4x1) ?hiq4x1 (by kernel_rfl) (by kernel_rfl) (by kernel_rfl) ?hQq4x1 (Or.inl ⟨?hwq4x1, ?hyq4x1⟩) (by assumption) ?restq4x1
        case hiq4x1 => simp only [List.getElem?_toArray, List.getElem?_cons_succ, List.getElem?_cons_zero]; exact rfl
        case hQq4x1 => exact fun _ _ _ h => h
        case hwq4x1 => rfl
        case hyq4x1 => ((intro w hSw; (try dsimp only at hSw); go_simp) <;> with_reducible rfl)
        try simp only [Act.put, List.setIfInBounds_toArray, List.set_cons_zero, List.set_cons_succ]
        refine wpAnyH_take (i := 1) (oi := ?oiq4x2) (v := ?vq4x2) ?hiq4x2 (by kernel_rfl) (by kernel_rfl) (by kernel_rfl) ?hQq4x2 (Or.inl ⟨?hwq4x2, ?hyq4x2⟩) (by assumption) ?restq4x2
        case hiq4x2 => simp only [List.getElem?_toArray, List.getElem?_cons_succ, List.getElem?_cons_zero]; exact rfl
        case hQq4x2 => exact fun _ _ _ h => h
        case hwq4x2 => rfl
        case hyq4x2 => ((intro w hSw; (try dsimp only at hSw); go_simp) <;> with_reducible rfl)
        try simp only [Act.put, List.setIfInBounds_toArray, List.set_cons_zero, List.set_cons_succ]
        refine wpAnyH_take (i := 2) (oi := ?oiq4x3) (v := ?vq4x3) ?hiq4x3 (by kernel_rfl) (by kernel_rfl) (by kernel_rfl) ?hQq4x3 (Or.inl ⟨?hwq4x3, ?hyq4x3⟩) (by assumption) ?restq4x3
        case hiq4x3 => simp only [List.getElem?_toArray, List.getElem?_cons_succ, List.getElem?_cons_zero]; exact rfl
        case hQq4x3 => exact fun _ _ _ h => h
        case hwq4x3 => rfl
        case hyq4x3 => ((intro w hSw; (try dsimp only at hSw); go_simp) <;> with_reducible rfl)
        try simp only [Act.put, List.setIfInBounds_toArray, List.set_cons_zero, List.set_cons_succ]
        refine wpAnyH_take (i := 3) (oi := ?oiq4x4) (v := ?vq4x4) ?hiq4x4 (by kernel_rfl) (by kernel_rfl) (by kernel_rfl) ?hQq4x4 (Or.inl ⟨?hwq4x4, ?hyq4x4⟩) (by assumption) ?restq4x4
        case hiq4x4 => simp only [List.getElem?_toArray, List.getElem?_cons_succ, List.getElem?_cons_zero]; exact rfl
        case hQq4x4 => exact fun _ _ _ h => h
        case hwq4x4 => rfl
        case hyq4x4 => ((intro w hSw; (try dsimp only at hSw); go_simp) <;> with_reducible rfl)
        try simp only [Act.put, List.setIfInBounds_toArray, List.set_cons_zero, List.set_cons_succ]
        refine wpAnyH_take (i := 4) (oi := ?oiq4x5) (v := ?vq4x5) ?hiq4x5 (by kernel_rfl) (by kernel_rfl) (by kernel_rfl) ?hQq4x5 (Or.inl ⟨?hwq4x5, ?hyq4x5⟩) (by assumption) ?restq4x5
        case hiq4x5 => simp only [List.getElem?_toArray, List.getElem?_cons_succ, List.getElem?_cons_zero]; exact rfl
        case hQq4x5 => exact fun _ _ _ h => h
        case hwq4x5 => rfl
        case hyq4x5 => ((intro w hSw; (try dsimp only at hSw); go_simp) <;> with_reducible rfl)
        try simp only [Act.put, List.setIfInBounds_toArray, List.set_cons_zero, List.set_cons_succ]
        refine wpAnyH_take (i := 5) (oi := ?oiq4x6) (v := ?vq4x6) ?hiq4x6 (by kernel_rfl) (by kernel_rfl) (by kernel_rfl) ?hQq4x6 (Or.inl ⟨?hwq4x6, ?hyq4x6⟩) (by assumption) ?restq4x6
        case hiq4x6 => simp only [List.getElem?_toArray, List.getElem?_cons_succ, List.getElem?_cons_zero]; exact rfl
        case hQq4x6 => exact fun _ _ _ h => h
        case hwq4x6 => rfl
        case hyq4x6 => ((intro w hSw; (try dsimp only at hSw); go_simp) <;> with_reducible rfl)
        try simp only [Act.put, List.setIfInBounds_toArray, List.set_cons_zero, List.set_cons_succ]
        refine wpAnyH_done (by kernel_rfl) ?_ _
        have hB := hbel.trans (hHeld.1.mono hbel.size)
        have X3 := And.intro hHeld.2.1 (And.intro hHeld.2.2.1 hHeld.2.2.2.1)
        clear hHeld
        go_wp2_with fail
        go_roundw
        case rel => exact ⟨k + 1, by omega, by go_num, fun j hj => by
          rcases Nat.lt_or_ge j k with h | h
          · exact HN.out j h
          · obtain rfl : j = k := by omega
            exact HS.out, hB, X3⟩
        case measure => simp [intOf]; omega
    · obtain rfl : k = n := by omega
      have HT := Lib.hid ((hasTo_no k).2 HN.out)
      clear hl x0 x1 x2
      go_wp2_with fail
      go_ret
      exact ⟨⟨_, rfl, by omega, by omega, by rw [HT.out]; rfl⟩, hbel⟩
set_option maxRecDepth 100000 in
theorem lev_Contains (A : Option Addr) (n c : Nat) (zs : List Int) (p q m : Int) (w : World) (hl : Lst w w.heap.size 3 A n zs) (hn : n ≤ 1048576) :
    Calls Try.prog 63 #[.slice A n c, .agg #[.int .i64 p, .int .i64 q, .int .i64 m]] w fun e w' => e = .returned (.bool (hasTo zs p q m n)) ∧ Below w.heap.size w w' := by
  go_enter Try.func63, Try.ntmps63
  go_wp2_with fail
  refine (lev_Index A n c zs p q m _ (hl.later ((Below.refl _ _).alloc (Nat.le_refl _) _)) hn).mono ?_
  rintro e w1 ⟨⟨z, rfl, hz0, hz1, hz2⟩, hb1⟩
  have HZ := Lib.hid hz2
  clear hz2
  go_wp2_with fail
  go_ret
  exact ⟨ret_bool HZ.out.symm, below_alloc hb1⟩
end Go.Proofs.Ytfodkefaflpicaa
