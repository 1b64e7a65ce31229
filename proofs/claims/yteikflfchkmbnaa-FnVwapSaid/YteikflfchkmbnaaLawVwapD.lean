/-
  The drawn law of the average price.
-/
import Derived.Test.YteikflfchkmbnaaDrawTrd
import Derived.Test.YteikflfchkmbnaaTrdM
import Derived.Test.YteikflfchkmbnaaVwp
import Derived.Test.YteikflfchkmbnaaStep
import Derived.Test.YteikflfchkmbnaaLawInts
namespace Go.Proofs.Yteikflfchkmbnaa
open Go.RowKit Wire

theorem num_front {a b : List Int} {j : Nat} (h : j < a.length) : num (a ++ b) j = num a j := by
  unfold num; rw [List.getD_eq_getElem?_getD, List.getD_eq_getElem?_getD, List.getElem?_append_left h]
/-- the same quantities at the first price -/
def oneZ (zs : List Int) : Nat → List Int
  | 0 => []
  | k + 1 => oneZ zs k ++ [num zs 0, num zs (k * 2 + 1)]
theorem oneZ_len (zs : List Int) : ∀ k, (oneZ zs k).length = k * 2
  | 0 => rfl
  | k + 1 => by rw [oneZ, List.length_append, oneZ_len zs k]; simp; omega
theorem oneZ_num (zs : List Int) : ∀ n k, k < n → num (oneZ zs n) (k * 2) = num zs 0 ∧ num (oneZ zs n) (k * 2 + 1) = num zs (k * 2 + 1)
  | 0, k, h => absurd h (Nat.not_lt_zero k)
  | n + 1, k, h => by
    have hl := oneZ_len zs n
    rcases Nat.lt_or_ge k n with h1 | h1
    · have ih := oneZ_num zs n k h1
      constructor
      · rw [oneZ, num_front (by omega)]; exact ih.1 -- num_front (by omega)
      · rw [oneZ, num_front (by omega)]; exact ih.2 -- num_front (by omega)
    · obtain rfl : k = n := by omega
      constructor
      · rw [oneZ]; unfold num; rw [List.getD_eq_getElem?_getD, List.getElem?_append_right (by omega), hl]; simp
      · rw [oneZ]; unfold num; rw [List.getD_eq_getElem?_getD, List.getElem?_append_right (by omega), hl]; simp
theorem one_to {zs : List Int} {N : Nat} (h : trdTo zs N = true) (hN : 1 ≤ N) : ∀ k, k ≤ N → trdTo (oneZ zs N) k = true
  | 0, _ => rfl
  | k + 1, hk => by
    have e := oneZ_num zs N k (by omega)
    have h0 := trdTo_at N 0 h (by omega)
    have h1 := trdTo_at N k h (by omega)
    refine trdTo_step (one_to h hN k (by omega)) ?_
    rw [trdAt, e.1, e.2]
    simp [trdI, inB]
    simp at h0
    omega
theorem one_sum {zs : List Int} {N : Nat} : ∀ k, k ≤ N → qtA (oneZ zs N) k = qtA zs k ∧ woA (oneZ zs N) k = num zs 0 * qtA zs k
  | 0, _ => by simp [qtA, woA]
  | k + 1, hk => by
    have e := oneZ_num zs N k (by omega)
    have ih := one_sum (zs := zs) (N := N) k (by omega)
    rw [qtA, woA, qtA, ih.1, ih.2, e.1, e.2, Int.mul_add]
    exact ⟨rfl, rfl⟩
theorem one_avg {zs : List Int} {n : Nat} (h : cndB zs n = true) : vwpV (oneZ zs n) n = num zs 0 := by
  obtain ⟨h1, h2, h3⟩ := cnd_parts h
  have hq := (cnd_ok h).q1
  have e := one_sum (zs := zs) (N := n) n (Nat.le_refl _)
  have hb : cndB (oneZ zs n) n = true := by simp [cndB, one_to h3 h1 n (Nat.le_refl _)]; omega
  rw [vwpV, if_pos hb, e.1, e.2, Int.mul_ediv_cancel _ (by omega)]
set_option linter.unusedSimpArgs false in
set_option maxHeartbeats 3200000 in
set_option maxRecDepth 100000 in
theorem law_VwapD (A : Option Addr) (len cap : Nat) (ys : List Int) (w : World) (hrow : IsRow .u8 w A len cap ys) :
    Calls Try.prog 8 #[.slice A len cap] w fun e w' => e = .returned (.bool true) ∧ Below w.heap.size w w' := by
  have hs := src_of_row hrow
  have hl := row_len hrow
  clear hrow
  by_cases hbig : 1048576 < len
  · go_enter Try.func8, Try.ntmps8
    go_wp2_with (go_at_call 11; go_in)
    go_ret
    exact ⟨rfl, Below.refl _ _⟩
  obtain ⟨i0, hi, hz0, hz1, hz2⟩ := info_parts trd_info
  go_enter Try.func8, Try.ntmps8
  go_wp2_with (go_at_call 11; go_in)
  refine (DrawVwap_any A len cap _ hs hl).mono ?_
  rintro e w1 ⟨v, n, zs, hn, rfl, hown, hb1⟩
  obtain ⟨A1, c1, rfl, hc1, hc2⟩ := own_slice hown
  have hL := Lst.of_own hown
  clear hown hs
  have hcap : n ≤ c1 ∧ c1 ≤ maxLen := ⟨hc1, hc2⟩
  go_wp2_with fail
  refine (impl_Vwap A1 n c1 zs _ hL (by omega) hcap).mono ?_
  rintro e w2 ⟨rfl, hb2⟩
  have hL2 := hL.later hb2
  have hB2 := below_later hb1 hb2
  clear hL hb1 hb2
  go_wp2_with fail
  refine (impl_CandleOf A1 n c1 zs _ hL2 (by omega) hcap).mono ?_
  rcases Bool.eq_false_or_eq_true (cndB zs n) with hb | hb
  rotate_left
  · have HV : Hid (vwpV zs n = 0) := Lib.hid (by simp [vwpV, hb])
    rw [cndV_no hb]
    rintro e w3 ⟨rfl, hb3⟩
    rw [HV.out]
    have hL3 := hL2.later (hb3.alloc hb3.size (.cells #[.int .i64 0, .int .i64 0, .int .i64 0, .int .i64 0, .int .i64 0, .int .i64 0] 44))
    have hB3 := below_later hB2 (hb3.alloc hb3.size (.cells #[.int .i64 0, .int .i64 0, .int .i64 0, .int .i64 0, .int .i64 0, .int .i64 0] 44))
    clear hL2 hB2 hb3 hb
    go_wp2_with fail
    generalize w3.alloc (.cells #[.int .i64 0, .int .i64 0, .int .i64 0, .int .i64 0, .int .i64 0, .int .i64 0] 44) = w3' at *
    refine (spec_Vwap A1 n c1 zs _ hL3 (by omega) hcap).mono ?_
    rintro e w4 ⟨rfl, hb4⟩
    rw [HV.out]
    have hL4 := hL3.later hb4
    have hB4 := below_later hB3 hb4
    clear hL3 hB3 hb4
    go_wp2_with fail
    refine (spec_Vwap A1 n c1 zs _ hL4 (by omega) hcap).mono ?_
    rintro e w5 ⟨rfl, hb5⟩
    rw [HV.out]
    have hB5 := below_later hB4 hb5
    clear hL4 hB4 hb5
    go_wp2_with fail
    go_ret
    exact ⟨by first | rfl | simp, hB5⟩
  · have HO := Lib.hid (one_avg hb)
    have HA := Lib.hid (avg_in hb)
    have HV : Hid (vwpV zs n = woA zs n / qtA zs n) := Lib.hid (by simp [vwpV, hb])
    obtain ⟨hn1, _, _⟩ := cnd_parts hb
    rw [cndV_yes hb]
    clear hb
    obtain ⟨lo, hlo⟩ : ∃ x, loA zs n = x := ⟨_, rfl⟩
    obtain ⟨hi', hhi⟩ : ∃ x, hiA zs n = x := ⟨_, rfl⟩
    obtain ⟨P, hP⟩ : ∃ x, vwpV zs n = x := ⟨_, rfl⟩
    have hlh : lo ≤ P ∧ P ≤ hi' := by rw [← hlo, ← hhi, ← hP, HV.out]; exact HA.out
    obtain ⟨hlo1, hhi1⟩ := hlh
    have HP := Lib.hid hP
    rw [hP, hlo, hhi]
    clear hlo hhi HA HV hP
    generalize num zs ((n - 1) * 2) = u3
    generalize qtA zs n = u4
    generalize woA zs n = u5
    rintro e w3 ⟨rfl, hb3⟩
    obtain ⟨p0, hp0⟩ : ∃ x, num zs 0 = x := ⟨_, rfl⟩
    rw [hp0] at HO ⊢
    have HP0 := Lib.hid hp0
    clear hp0
    have hbx := hb3.alloc hb3.size (.cells #[.int .i64 p0, .int .i64 hi', .int .i64 lo, .int .i64 u3, .int .i64 u4, .int .i64 u5] 44)
    have hL3 := hL2.later hbx
    have hB3 := below_later hB2 hbx
    have hK := heap_alloc_new w3 (.cells #[.int .i64 p0, .int .i64 hi', .int .i64 lo, .int .i64 u3, .int .i64 u4, .int .i64 u5] 44)
    have hGl : w3.heap.size < (w3.alloc (.cells #[.int .i64 p0, .int .i64 hi', .int .i64 lo, .int .i64 u3, .int .i64 u4, .int .i64 u5] 44)).heap.size := by simp
    clear hL2 hB2 hb3 hbx
    go_wp2_with fail
    generalize w3.alloc (.cells #[.int .i64 p0, .int .i64 hi', .int .i64 lo, .int .i64 u3, .int .i64 u4, .int .i64 u5] 44) = w3' at *
    generalize w3.heap.size = G at *
    refine (spec_Vwap A1 n c1 zs _ hL3 (by omega) hcap).mono ?_
    rw [HP.out]
    rintro e w4 ⟨rfl, hb4⟩
    have hL4 := hL3.later hb4
    have hB4 := below_later hB3 hb4
    have hK4 := (hb4.block G hGl).trans hK
    have hG4 : G < w4.heap.size := Nat.lt_of_lt_of_le hGl hb4.size
    clear hL3 hB3 hb4 hK hGl
    go_wp2_with fail
    have hB : (w4.alloc (.cells #[] 31)).ownsRow w4.heap.size 31 2 (.slice (some ⟨w4.heap.size, 0, none⟩) 0 0) 0 (nums (oneZ zs 0)) := ⟨rfl, .inr ⟨w4.heap.size, 0, #[], rfl, Nat.le_refl _, heap_alloc_new w4 _, Nat.le_refl _, Nat.zero_le _, rfl, rfl⟩⟩
    go_loopw [7, 8] (fun v i wr => ∃ k : Nat, k ≤ n ∧ i = .int .i64 (k : Int) ∧ wr.ownsRow w4.heap.size 31 2 v k (nums (oneZ zs k)) ∧ Below w4.heap.size w4 wr) (fun _ i _ => n - (intOf i).toNat)
    case atStart => exact ⟨0, Nat.zero_le _, rfl, hB, (Below.refl _ _).alloc (Nat.le_refl _) _⟩
    case round =>
      clear hB
      obtain ⟨k, hk, rfl, hown, hbel⟩ := hrel
      obtain ⟨A2, d2, rfl, hd1, hd2⟩ := own_slice hown
      obtain ⟨b, o, rfl, hb, x0, _⟩ := hL4.row2 (k := 0) (by omega)
      rw [show o + 0 * 2 = o by omega, show 0 * 2 = 0 from rfl, HP0.out] at x0
      by_cases hlt : k < n
      · obtain ⟨b', o', e, _, _, x1⟩ := hL4.row2 (k := k) hlt
        injection e with e
        injection e with e1 e2
        subst e1 e2
        have HZ := Lib.hid (show oneZ zs (k + 1) = oneZ zs k ++ [num zs 0, num zs (k * 2 + 1)] from rfl)
        rw [HP0.out] at HZ
        generalize num zs (k * 2 + 1) = q at x1 HZ
        have n0 : (0 < n) = True := by simp; omega
        have nk : (k < n) = True := by simp; omega
        clear hK4 hL4 hlo1 hhi1
        go_upto_region 12 with fail
        refine wp_region_held_drew (S := (fun w' => Below w4.heap.size w4 w' ∧ w'.cell? ⟨b, o, none⟩ = some (.int .i64 p0) ∧ w'.cell? ⟨b, o + k * 2 + 1, none⟩ = some (.int .i64 q))) (by kernel_rfl) ?hSr (fun hHeld => ?restr)
        case hSr => exact ⟨hbel.drew, ((hbel.drew).cell (p := ⟨b, o, none⟩) hb).trans x0, ((hbel.drew).cell (p := ⟨b, o + k * 2 + 1, none⟩) hb).trans x1⟩
        refine wpAnyH_take (i := 0) (oi := ?oiu1) (v := ?vu1) ?hiu1 (by kernel_rfl) (by kernel_rfl) (by kernel_rfl) ?hQu1 (Or.inl ⟨?hwu1, ?hyu1⟩) (by assumption) ?restu1
        case hiu1 => simp only [List.getElem?_toArray, List.getElem?_cons_succ, List.getElem?_cons_zero]; exact rfl
        case hQu1 => exact fun _ _ _ h => h
        case hwu1 => rfl
        case hyu1 => ((intro w hSw; (try dsimp only at hSw); go_simp) <;> with_reducible rfl)
        try simp only [Act.put, List.setIfInBounds_toArray, List.set_cons_zero, List.set_cons_succ]
        refine wpAnyH_take (i := 1) (oi := ?oiu2) (v := ?vu2) ?hiu2 (by kernel_rfl) (by kernel_rfl) (by kernel_rfl) ?hQu2 (Or.inl ⟨?hwu2, ?hyu2⟩) (by assumption) ?restu2
        case hiu2 => simp only [List.getElem?_toArray, List.getElem?_cons_succ, List.getElem?_cons_zero]; exact rfl
        case hQu2 => exact fun _ _ _ h => h
        case hwu2 => rfl
        case hyu2 => ((intro w hSw; (try dsimp only at hSw); go_simp) <;> with_reducible rfl)
        try simp only [Act.put, List.setIfInBounds_toArray, List.set_cons_zero, List.set_cons_succ]
        refine wpAnyH_take (i := 2) (oi := ?oiu3) (v := ?vu3) ?hiu3 (by kernel_rfl) (by kernel_rfl) (by kernel_rfl) ?hQu3 (Or.inl ⟨?hwu3, ?hyu3⟩) (by assumption) ?restu3
        case hiu3 => simp only [List.getElem?_toArray, List.getElem?_cons_succ, List.getElem?_cons_zero]; exact rfl
        case hQu3 => exact fun _ _ _ h => h
        case hwu3 => rfl
        case hyu3 => ((intro w hSw; (try dsimp only at hSw); go_simp) <;> with_reducible rfl)
        try simp only [Act.put, List.setIfInBounds_toArray, List.set_cons_zero, List.set_cons_succ]
        refine wpAnyH_take (i := 3) (oi := ?oiu4) (v := ?vu4) ?hiu4 (by kernel_rfl) (by kernel_rfl) (by kernel_rfl) ?hQu4 (Or.inl ⟨?hwu4, ?hyu4⟩) (by assumption) ?restu4
        case hiu4 => simp only [List.getElem?_toArray, List.getElem?_cons_succ, List.getElem?_cons_zero]; exact rfl
        case hQu4 => exact fun _ _ _ h => h
        case hwu4 => rfl
        case hyu4 => ((intro w hSw; (try dsimp only at hSw); go_simp) <;> with_reducible rfl)
        try simp only [Act.put, List.setIfInBounds_toArray, List.set_cons_zero, List.set_cons_succ]
        refine wpAnyH_take (i := 4) (oi := ?oiu5) (v := ?vu5) ?hiu5 (by kernel_rfl) (by kernel_rfl) (by kernel_rfl) ?hQu5 (Or.inl ⟨?hwu5, ?hyu5⟩) (by assumption) ?restu5
        case hiu5 => simp only [List.getElem?_toArray, List.getElem?_cons_succ, List.getElem?_cons_zero]; exact rfl
        case hQu5 => exact fun _ _ _ h => h
        case hwu5 => rfl
        case hyu5 => ((intro w hSw; (try dsimp only at hSw); go_simp) <;> with_reducible rfl)
        try simp only [Act.put, List.setIfInBounds_toArray, List.set_cons_zero, List.set_cons_succ]
        refine wpAnyH_take (i := 5) (oi := ?oiu6) (v := ?vu6) ?hiu6 (by kernel_rfl) (by kernel_rfl) (by kernel_rfl) ?hQu6 (Or.inl ⟨?hwu6, ?hyu6⟩) (by assumption) ?restu6
        case hiu6 => simp only [List.getElem?_toArray, List.getElem?_cons_succ, List.getElem?_cons_zero]; exact rfl
        case hQu6 => exact fun _ _ _ h => h
        case hwu6 => rfl
        case hyu6 => ((intro w hSw; (try dsimp only at hSw); go_simp) <;> with_reducible rfl)
        try simp only [Act.put, List.setIfInBounds_toArray, List.set_cons_zero, List.set_cons_succ]
        refine wpAnyH_take (i := 6) (oi := ?oiu7) (v := ?vu7) ?hiu7 (by kernel_rfl) (by kernel_rfl) (by kernel_rfl) ?hQu7 (Or.inl ⟨?hwu7, ?hyu7⟩) (by assumption) ?restu7
        case hiu7 => simp only [List.getElem?_toArray, List.getElem?_cons_succ, List.getElem?_cons_zero]; exact rfl
        case hQu7 => exact fun _ _ _ h => h
        case hwu7 => rfl
        case hyu7 => ((intro w hSw; (try dsimp only at hSw); go_simp) <;> with_reducible rfl)
        try simp only [Act.put, List.setIfInBounds_toArray, List.set_cons_zero, List.set_cons_succ]
        refine wpAnyH_take (i := 7) (oi := ?oiu8) (v := ?vu8) ?hiu8 (by kernel_rfl) (by kernel_rfl) (by kernel_rfl) ?hQu8 (Or.inl ⟨?hwu8, ?hyu8⟩) (by assumption) ?restu8
        case hiu8 => simp only [List.getElem?_toArray, List.getElem?_cons_succ, List.getElem?_cons_zero]; exact rfl
        case hQu8 => exact fun _ _ _ h => h
        case hwu8 => rfl
        case hyu8 => ((intro w hSw; (try dsimp only at hSw); go_simp) <;> with_reducible rfl)
        try simp only [Act.put, List.setIfInBounds_toArray, List.set_cons_zero, List.set_cons_succ]
        refine wpAnyH_take (i := 8) (oi := ?oiu9) (v := ?vu9) ?hiu9 (by kernel_rfl) (by kernel_rfl) (by kernel_rfl) ?hQu9 (Or.inl ⟨?hwu9, ?hyu9⟩) (by assumption) ?restu9
        case hiu9 => simp only [List.getElem?_toArray, List.getElem?_cons_succ, List.getElem?_cons_zero]; exact rfl
        case hQu9 => exact fun _ _ _ h => h
        case hwu9 => rfl
        case hyu9 => ((intro w hSw; (try dsimp only at hSw); go_simp) <;> with_reducible rfl)
        try simp only [Act.put, List.setIfInBounds_toArray, List.set_cons_zero, List.set_cons_succ]
        refine wpAnyH_take (i := 9) (oi := ?oiu10) (v := ?vu10) ?hiu10 (by kernel_rfl) (by kernel_rfl) (by kernel_rfl) ?hQu10 (Or.inl ⟨?hwu10, ?hyu10⟩) (by assumption) ?restu10
        case hiu10 => simp only [List.getElem?_toArray, List.getElem?_cons_succ, List.getElem?_cons_zero]; exact rfl
        case hQu10 => exact fun _ _ _ h => h
        case hwu10 => rfl
        case hyu10 => ((intro w hSw; (try dsimp only at hSw); go_simp) <;> with_reducible rfl)
        try simp only [Act.put, List.setIfInBounds_toArray, List.set_cons_zero, List.set_cons_succ]
        refine wpAnyH_take (i := 10) (oi := ?oiu11) (v := ?vu11) ?hiu11 (by kernel_rfl) (by kernel_rfl) (by kernel_rfl) ?hQu11 (Or.inl ⟨?hwu11, ?hyu11⟩) (by assumption) ?restu11
        case hiu11 => simp only [List.getElem?_toArray, List.getElem?_cons_succ, List.getElem?_cons_zero]; exact rfl
        case hQu11 => exact fun _ _ _ h => h
        case hwu11 => rfl
        case hyu11 => ((intro w hSw; (try dsimp only at hSw); go_simp) <;> with_reducible rfl)
        try simp only [Act.put, List.setIfInBounds_toArray, List.set_cons_zero, List.set_cons_succ]
        refine wpAnyH_ready (rs := [11]) (by kernel_rfl) (by simp) ?_
        refine AllReadyH.cons (o := ?ou12) ?hou12 (fun K hK => ?stepu12) ?moreu12
        case hou12 => simp only [List.getElem?_toArray, List.getElem?_cons_succ, List.getElem?_cons_zero]; exact rfl
        case moreu12 => exact AllReadyH.nil
        go_simp
        refine hK.out _ _ ?hSu12 (fun hHeld => ?restu12)
        case hSu12 => exact ⟨hHeld.1.alloc (hbel.size) _, ((hHeld.1.alloc (hbel.size) _).cell (p := ⟨b, o, none⟩) hb).trans x0, ((hHeld.1.alloc (hbel.size) _).cell (p := ⟨b, o + k * 2 + 1, none⟩) hb).trans x1⟩
        clear hK K
        try simp only [Act.put, List.setIfInBounds_toArray, List.set_cons_zero, List.set_cons_succ]
        refine wpAnyH_ready (rs := [12]) (by kernel_rfl) (by simp) ?_
        refine AllReadyH.cons (o := ?ou13) ?hou13 (fun K hK => ?stepu13) ?moreu13
        case hou13 => simp only [List.getElem?_toArray, List.getElem?_cons_succ, List.getElem?_cons_zero]; exact rfl
        case moreu13 => exact AllReadyH.nil
        have hX5 := hbel.size
        (refine step_append_own _ rfl _ _ 28 rfl w4.heap.size 31 i0 _ 2 16 Try.underlying28 hi hz0 hz1 hz2 rfl (by decide) _ _ _ rfl (show (wr.drew.alloc (.cells #[.int .i64 p0, .int .i64 q] 31)).ownsRow w4.heap.size 31 2 (.slice A2 k d2) k (nums (oneZ zs k)) from (hown.drew).alloc _) ⟨wr.heap.size, 0, none⟩ 1 1 [.int .i64 p0, .int .i64 q] rfl rfl (World.news_of_block (heap_alloc_new wr.drew _)) (by intro u hu; simp at hu; rcases hu with rfl | rfl <;> rfl) (by unfold maxLen; omega) (by omega) (by simp; omega) ?_; intro v' u2 hown2 hgrow2 _)
        refine hK.out _ _ ?hSu13 (fun hHeld => ?restu13)
        case hSu13 => exact ⟨hHeld.1.grown hgrow2 (by simp; omega) (fun q hq => (hown.lt q hq).1), ((hHeld.1.grown hgrow2 (by simp; omega) (fun q hq => (hown.lt q hq).1)).cell (p := ⟨b, o, none⟩) hb).trans x0, ((hHeld.1.grown hgrow2 (by simp; omega) (fun q hq => (hown.lt q hq).1)).cell (p := ⟨b, o + k * 2 + 1, none⟩) hb).trans x1⟩
        clear hK K
        try simp only [Act.put, List.setIfInBounds_toArray, List.set_cons_zero, List.set_cons_succ]
        refine wpAnyH_take (i := 13) (oi := ?oiu14) (v := ?vu14) ?hiu14 (by kernel_rfl) (by kernel_rfl) (by kernel_rfl) ?hQu14 (Or.inl ⟨?hwu14, ?hyu14⟩) (by assumption) ?restu14
        case hiu14 => simp only [List.getElem?_toArray, List.getElem?_cons_succ, List.getElem?_cons_zero]; exact rfl
        case hQu14 => exact fun _ _ _ h => h
        case hwu14 => rfl
        case hyu14 => ((intro w hSw; (try dsimp only at hSw); go_simp) <;> with_reducible rfl)
        try simp only [Act.put, List.setIfInBounds_toArray, List.set_cons_zero, List.set_cons_succ]
        refine wpAnyH_done (by kernel_rfl) ?_ _
        have hown3 : u2.ownsRow w4.heap.size 31 2 v' (k + 1) (nums (oneZ zs (k + 1))) := by rw [HZ.out, nums_append]; exact hown2
        have hbz := hHeld.1
        clear hHeld hown2 hgrow2 hown hbel
        go_wp2_with fail
        go_roundw
        case rel => exact ⟨k + 1, by omega, by go_num, hown3, hbz⟩
        case measure => simp [intOf]; omega
      · obtain rfl : k = n := by omega
        have hLo := Lst.of_own hown
        have hcap2 : k ≤ d2 ∧ d2 ≤ maxLen := ⟨hd1, hd2⟩
        have g1 := (hbel.cell (p := ⟨G, 1, none⟩) hG4).trans (cell_of_row w4 G 1 _ _ (0, 0) hK4)
        have g2 := (hbel.cell (p := ⟨G, 2, none⟩) hG4).trans (cell_of_row w4 G 2 _ _ (0, 0) hK4)
        have y0 := (hbel.cell (p := ⟨b, o, none⟩) hb).trans x0
        simp at g1 g2
        have hGr := Nat.lt_of_lt_of_le hG4 hbel.size
        have hbr := Nat.lt_of_lt_of_le hb hbel.size
        have t1 : decide (lo ≤ P) = true := decide_eq_true hlo1
        have t2 : decide (P ≤ hi') = true := decide_eq_true hhi1
        have hBz := below_later hB4 hbel
        have n0 : (0 < k) = True := by simp; omega
        clear hK4 hL4 hown x0
        go_upto_region 13 with fail
        refine wp_region_held_drew (S := (fun w' => Below wr.heap.size wr w' ∧ w'.cell? ⟨G, 1, none⟩ = some (.int .i64 hi') ∧ w'.cell? ⟨G, 2, none⟩ = some (.int .i64 lo) ∧ w'.cell? ⟨b, o, none⟩ = some (.int .i64 p0))) (by kernel_rfl) ?hSq1xs (fun hHeld => ?restq1xs)
        case hSq1xs => (first | exact ⟨(Below.refl _ _).drew, g1, g2, y0⟩ | exact hHeld | exact ⟨hHeld.1.trans (hb'.mono hHeld.1.size), (hb'.cell (p := ⟨G, 1, none⟩) (Nat.lt_of_lt_of_le hGr hHeld.1.size)).trans hHeld.2.1, (hb'.cell (p := ⟨G, 2, none⟩) (Nat.lt_of_lt_of_le hGr hHeld.1.size)).trans hHeld.2.2.1, (hb'.cell (p := ⟨b, o, none⟩) (Nat.lt_of_lt_of_le hbr hHeld.1.size)).trans hHeld.2.2.2⟩)
        refine wpAnyH_take (i := 0) (oi := ?oiq1x1) (v := ?vq1x1) ?hiq1x1 (by kernel_rfl) (by kernel_rfl) (by kernel_rfl) ?hQq1x1 (Or.inl ⟨?hwq1x1, ?hyq1x1⟩) (by assumption) ?restq1x1
        case hiq1x1 => simp only [List.getElem?_toArray, List.getElem?_cons_succ, List.getElem?_cons_zero]; exact rfl
        case hQq1x1 => exact fun _ _ _ h => h
        case hwq1x1 => rfl
        case hyq1x1 => ((intro w hSw; (try dsimp only at hSw); go_simp) <;> with_reducible rfl)
        try simp only [Act.put, List.setIfInBounds_toArray, List.set_cons_zero, List.set_cons_succ]
        refine wpAnyH_take (i := 1) (oi := ?oiq1x2) (v := ?vq1x2) ?hiq1x2 (by kernel_rfl) (by kernel_rfl) (by kernel_rfl) ?hQq1x2 (Or.inl ⟨?hwq1x2, ?hyq1x2⟩) (by assumption) ?restq1x2
        case hiq1x2 => simp only [List.getElem?_toArray, List.getElem?_cons_succ, List.getElem?_cons_zero]; exact rfl
        case hQq1x2 => exact fun _ _ _ h => h
        case hwq1x2 => rfl
        case hyq1x2 => ((intro w hSw; (try dsimp only at hSw); go_simp) <;> with_reducible rfl)
        try simp only [Act.put, List.setIfInBounds_toArray, List.set_cons_zero, List.set_cons_succ]
        refine wpAnyH_take (i := 2) (oi := ?oiq1x3) (v := ?vq1x3) ?hiq1x3 (by kernel_rfl) (by kernel_rfl) (by kernel_rfl) ?hQq1x3 (Or.inl ⟨?hwq1x3, ?hyq1x3⟩) (by assumption) ?restq1x3
        case hiq1x3 => simp only [List.getElem?_toArray, List.getElem?_cons_succ, List.getElem?_cons_zero]; exact rfl
        case hQq1x3 => exact fun _ _ _ h => h
        case hwq1x3 => rfl
        case hyq1x3 => ((intro w hSw; (try dsimp only at hSw); go_simp) <;> with_reducible rfl)
        try simp only [Act.put, List.setIfInBounds_toArray, List.set_cons_zero, List.set_cons_succ]
        refine wpAnyH_take (i := 3) (oi := ?oiq1x4) (v := ?vq1x4) ?hiq1x4 (by kernel_rfl) (by kernel_rfl) (by kernel_rfl) ?hQq1x4 (Or.inl ⟨?hwq1x4, ?hyq1x4⟩) (by assumption) ?restq1x4
        case hiq1x4 => simp only [List.getElem?_toArray, List.getElem?_cons_succ, List.getElem?_cons_zero]; exact rfl
        case hQq1x4 => exact fun _ _ _ h => h
        case hwq1x4 => rfl
        case hyq1x4 => ((intro w hSw; (try dsimp only at hSw); go_simp) <;> with_reducible rfl)
        try simp only [Act.put, List.setIfInBounds_toArray, List.set_cons_zero, List.set_cons_succ]
        refine wpAnyH_take (i := 4) (oi := ?oiq1x5) (v := ?vq1x5) ?hiq1x5 (by kernel_rfl) (by kernel_rfl) (by kernel_rfl) ?hQq1x5 (Or.inl ⟨?hwq1x5, ?hyq1x5⟩) (by assumption) ?restq1x5
        case hiq1x5 => simp only [List.getElem?_toArray, List.getElem?_cons_succ, List.getElem?_cons_zero]; exact rfl
        case hQq1x5 => exact fun _ _ _ h => h
        case hwq1x5 => rfl
        case hyq1x5 => ((intro w hSw; (try dsimp only at hSw); go_simp) <;> with_reducible rfl)
        try simp only [Act.put, List.setIfInBounds_toArray, List.set_cons_zero, List.set_cons_succ]
        refine wpAnyH_take (i := 5) (oi := ?oiq1x6) (v := ?vq1x6) ?hiq1x6 (by kernel_rfl) (by kernel_rfl) (by kernel_rfl) ?hQq1x6 (Or.inl ⟨?hwq1x6, ?hyq1x6⟩) (by assumption) ?restq1x6
        case hiq1x6 => simp only [List.getElem?_toArray, List.getElem?_cons_succ, List.getElem?_cons_zero]; exact rfl
        case hQq1x6 => exact fun _ _ _ h => h
        case hwq1x6 => rfl
        case hyq1x6 => ((intro w hSw; (try dsimp only at hSw); go_simp) <;> with_reducible rfl)
        try simp only [Act.put, List.setIfInBounds_toArray, List.set_cons_zero, List.set_cons_succ]
        refine wpAnyH_take (i := 6) (oi := ?oiq1x7) (v := ?vq1x7) ?hiq1x7 (by kernel_rfl) (by kernel_rfl) (by kernel_rfl) ?hQq1x7 (Or.inl ⟨?hwq1x7, ?hyq1x7⟩) (by assumption) ?restq1x7
        case hiq1x7 => simp only [List.getElem?_toArray, List.getElem?_cons_succ, List.getElem?_cons_zero]; exact rfl
        case hQq1x7 => exact fun _ _ _ h => h
        case hwq1x7 => rfl
        case hyq1x7 => ((intro w hSw; (try dsimp only at hSw); go_simp) <;> with_reducible rfl)
        try simp only [Act.put, List.setIfInBounds_toArray, List.set_cons_zero, List.set_cons_succ]
        refine wpAnyH_take (i := 7) (oi := ?oiq1x8) (v := ?vq1x8) ?hiq1x8 (by kernel_rfl) (by kernel_rfl) (by kernel_rfl) ?hQq1x8 (Or.inl ⟨?hwq1x8, ?hyq1x8⟩) (by assumption) ?restq1x8
        case hiq1x8 => simp only [List.getElem?_toArray, List.getElem?_cons_succ, List.getElem?_cons_zero]; exact rfl
        case hQq1x8 => exact fun _ _ _ h => h
        case hwq1x8 => rfl
        case hyq1x8 => ((intro w hSw; (try dsimp only at hSw); go_simp) <;> with_reducible rfl)
        try simp only [Act.put, List.setIfInBounds_toArray, List.set_cons_zero, List.set_cons_succ]
        refine wpAnyH_take (i := 8) (oi := ?oiq1x9) (v := ?vq1x9) ?hiq1x9 (by kernel_rfl) (by kernel_rfl) (by kernel_rfl) ?hQq1x9 (Or.inl ⟨?hwq1x9, ?hyq1x9⟩) (by assumption) ?restq1x9
        case hiq1x9 => simp only [List.getElem?_toArray, List.getElem?_cons_succ, List.getElem?_cons_zero]; exact rfl
        case hQq1x9 => exact fun _ _ _ h => h
        case hwq1x9 => rfl
        case hyq1x9 => ((intro w hSw; (try dsimp only at hSw); go_simp) <;> with_reducible rfl)
        try simp only [Act.put, List.setIfInBounds_toArray, List.set_cons_zero, List.set_cons_succ]
        refine wpAnyH_take (i := 9) (oi := ?oiq1x10) (v := ?vq1x10) ?hiq1x10 (by kernel_rfl) (by kernel_rfl) (by kernel_rfl) ?hQq1x10 (Or.inl ⟨?hwq1x10, ?hyq1x10⟩) (by assumption) ?restq1x10
        case hiq1x10 => simp only [List.getElem?_toArray, List.getElem?_cons_succ, List.getElem?_cons_zero]; exact rfl
        case hQq1x10 => exact fun _ _ _ h => h
        case hwq1x10 => rfl
        case hyq1x10 => ((intro w hSw; (try dsimp only at hSw); go_simp) <;> with_reducible rfl)
        try simp only [Act.put, List.setIfInBounds_toArray, List.set_cons_zero, List.set_cons_succ]
        refine wpAnyH_take (i := 10) (oi := ?oiq1x11) (v := ?vq1x11) ?hiq1x11 (by kernel_rfl) (by kernel_rfl) (by kernel_rfl) ?hQq1x11 (Or.inl ⟨?hwq1x11, ?hyq1x11⟩) (by assumption) ?restq1x11
        case hiq1x11 => simp only [List.getElem?_toArray, List.getElem?_cons_succ, List.getElem?_cons_zero]; exact rfl
        case hQq1x11 => exact fun _ _ _ h => h
        case hwq1x11 => rfl
        case hyq1x11 => ((intro w hSw; (try dsimp only at hSw); go_simp) <;> with_reducible rfl)
        try simp only [Act.put, List.setIfInBounds_toArray, List.set_cons_zero, List.set_cons_succ]
        refine wpAnyH_take (i := 11) (oi := ?oiq1x12) (v := ?vq1x12) ?hiq1x12 (by kernel_rfl) (by kernel_rfl) (by kernel_rfl) ?hQq1x12 (Or.inl ⟨?hwq1x12, ?hyq1x12⟩) (by assumption) ?restq1x12
        case hiq1x12 => simp only [List.getElem?_toArray, List.getElem?_cons_succ, List.getElem?_cons_zero]; exact rfl
        case hQq1x12 => exact fun _ _ _ h => h
        case hwq1x12 => rfl
        case hyq1x12 => ((intro w hSw; (try dsimp only at hSw); go_simp) <;> with_reducible rfl)
        try simp only [Act.put, List.setIfInBounds_toArray, List.set_cons_zero, List.set_cons_succ]
        refine wpAnyH_take (i := 13) (oi := ?oiq1x13) (v := ?vq1x13) ?hiq1x13 (by kernel_rfl) (by kernel_rfl) (by kernel_rfl) ?hQq1x13 (Or.inl ⟨?hwq1x13, ?hyq1x13⟩) (by assumption) ?restq1x13
        case hiq1x13 => simp only [List.getElem?_toArray, List.getElem?_cons_succ, List.getElem?_cons_zero]; exact rfl
        case hQq1x13 => exact fun _ _ _ h => h
        case hwq1x13 => rfl
        case hyq1x13 => ((intro w hSw; (try dsimp only at hSw); go_simp) <;> with_reducible rfl)
        try simp only [Act.put, List.setIfInBounds_toArray, List.set_cons_zero, List.set_cons_succ]
        refine wpAnyH_take (i := 14) (oi := ?oiq1x14) (v := ?vq1x14) ?hiq1x14 (by kernel_rfl) (by kernel_rfl) (by kernel_rfl) ?hQq1x14 (Or.inl ⟨?hwq1x14, ?hyq1x14⟩) (by assumption) ?restq1x14
        case hiq1x14 => simp only [List.getElem?_toArray, List.getElem?_cons_succ, List.getElem?_cons_zero]; exact rfl
        case hQq1x14 => exact fun _ _ _ h => h
        case hwq1x14 => rfl
        case hyq1x14 => ((intro w hSw; (try dsimp only at hSw); go_simp) <;> with_reducible rfl)
        try simp only [Act.put, List.setIfInBounds_toArray, List.set_cons_zero, List.set_cons_succ]
        refine wpAnyH_take (i := 15) (oi := ?oiq1x15) (v := ?vq1x15) ?hiq1x15 (by kernel_rfl) (by kernel_rfl) (by kernel_rfl) ?hQq1x15 (Or.inl ⟨?hwq1x15, ?hyq1x15⟩) (by assumption) ?restq1x15
        case hiq1x15 => simp only [List.getElem?_toArray, List.getElem?_cons_succ, List.getElem?_cons_zero]; exact rfl
        case hQq1x15 => exact fun _ _ _ h => h
        case hwq1x15 => rfl
        case hyq1x15 => ((intro w hSw; (try dsimp only at hSw); go_simp) <;> with_reducible rfl)
        try simp only [Act.put, List.setIfInBounds_toArray, List.set_cons_zero, List.set_cons_succ]
        refine wpAnyH_take (i := 16) (oi := ?oiq1x16) (v := ?vq1x16) ?hiq1x16 (by kernel_rfl) (by kernel_rfl) (by kernel_rfl) ?hQq1x16 (Or.inl ⟨?hwq1x16, ?hyq1x16⟩) (by assumption) ?restq1x16
        case hiq1x16 => simp only [List.getElem?_toArray, List.getElem?_cons_succ, List.getElem?_cons_zero]; exact rfl
        case hQq1x16 => exact fun _ _ _ h => h
        case hwq1x16 => rfl
        case hyq1x16 => ((intro w hSw; (try dsimp only at hSw); go_simp) <;> with_reducible rfl)
        try simp only [Act.put, List.setIfInBounds_toArray, List.set_cons_zero, List.set_cons_succ]
        refine wpAnyH_ready (rs := [12]) (by kernel_rfl) (by simp) ?_
        refine AllReadyH.cons (o := ?oq1x17) ?hoq1x17 (fun K hK => ?stepq1x17) ?moreq1x17
        case hoq1x17 => simp only [List.getElem?_toArray, List.getElem?_cons_succ, List.getElem?_cons_zero]; exact rfl
        case moreq1x17 => exact AllReadyH.nil
        go_simp
        (go_at_call 33; refine (impl_Vwap A2 k d2 (oneZ zs k) _ (hLo.later hHeld.1) (by omega) hcap2).mono ?_; rw [HO.out]; rintro e w' ⟨rfl, hb'⟩)
        refine hK.out _ _ ?hSq1x17 (fun hHeld => ?restq1x17)
        case hSq1x17 => (first | exact ⟨(Below.refl _ _).drew, g1, g2, y0⟩ | exact hHeld | exact ⟨hHeld.1.trans (hb'.mono hHeld.1.size), (hb'.cell (p := ⟨G, 1, none⟩) (Nat.lt_of_lt_of_le hGr hHeld.1.size)).trans hHeld.2.1, (hb'.cell (p := ⟨G, 2, none⟩) (Nat.lt_of_lt_of_le hGr hHeld.1.size)).trans hHeld.2.2.1, (hb'.cell (p := ⟨b, o, none⟩) (Nat.lt_of_lt_of_le hbr hHeld.1.size)).trans hHeld.2.2.2⟩)
        clear hK K
        try simp only [Act.put, List.setIfInBounds_toArray, List.set_cons_zero, List.set_cons_succ]
        refine wpAnyH_take (i := 17) (oi := ?oiq1x18) (v := ?vq1x18) ?hiq1x18 (by kernel_rfl) (by kernel_rfl) (by kernel_rfl) ?hQq1x18 (Or.inl ⟨?hwq1x18, ?hyq1x18⟩) (by assumption) ?restq1x18
        case hiq1x18 => simp only [List.getElem?_toArray, List.getElem?_cons_succ, List.getElem?_cons_zero]; exact rfl
        case hQq1x18 => exact fun _ _ _ h => h
        case hwq1x18 => rfl
        case hyq1x18 => ((intro w hSw; (try dsimp only at hSw); go_simp) <;> with_reducible rfl)
        try simp only [Act.put, List.setIfInBounds_toArray, List.set_cons_zero, List.set_cons_succ]
        refine wpAnyH_take (i := 18) (oi := ?oiq1x19) (v := ?vq1x19) ?hiq1x19 (by kernel_rfl) (by kernel_rfl) (by kernel_rfl) ?hQq1x19 (Or.inl ⟨?hwq1x19, ?hyq1x19⟩) (by assumption) ?restq1x19
        case hiq1x19 => simp only [List.getElem?_toArray, List.getElem?_cons_succ, List.getElem?_cons_zero]; exact rfl
        case hQq1x19 => exact fun _ _ _ h => h
        case hwq1x19 => rfl
        case hyq1x19 => ((intro w hSw; (try dsimp only at hSw); go_simp) <;> with_reducible rfl)
        try simp only [Act.put, List.setIfInBounds_toArray, List.set_cons_zero, List.set_cons_succ]
        refine wpAnyH_take (i := 19) (oi := ?oiq1x20) (v := ?vq1x20) ?hiq1x20 (by kernel_rfl) (by kernel_rfl) (by kernel_rfl) ?hQq1x20 (Or.inl ⟨?hwq1x20, ?hyq1x20⟩) (by assumption) ?restq1x20
        case hiq1x20 => simp only [List.getElem?_toArray, List.getElem?_cons_succ, List.getElem?_cons_zero]; exact rfl
        case hQq1x20 => exact fun _ _ _ h => h
        case hwq1x20 => rfl
        case hyq1x20 => ((intro w hSw; (try dsimp only at hSw); go_simp) <;> with_reducible rfl)
        try simp only [Act.put, List.setIfInBounds_toArray, List.set_cons_zero, List.set_cons_succ]
        refine wpAnyH_done (by kernel_rfl) ?_ _
        have hBz2 := below_later hBz hHeld.1
        clear hHeld
        go_wp2_with fail
        go_ret
        exact ⟨by first | rfl | simp, hBz2⟩
end Go.Proofs.Yteikflfchkmbnaa
