/-
  The drawn law of a depth.
-/
import Derived.Test.YtdjmejjponlfoabGD
import Derived.Test.YtdjmejjponlfoabDrawLv2
import Derived.Test.YtdjmejjponlfoabDepQ
import Derived.Test.YtdjmejjponlfoabSamL
import Derived.Test.YtdjmejjponlfoabBest
import Derived.Test.YtdjmejjponlfoabLawInts
import Derived.Test.YtdjmejjponlfoabLawCell
namespace Go.Proofs.Ytdjmejjponlfoab
open Go.RowKit Wire

theorem manyS_le {side : Int} {zs L : List Int} {n j : Nat} (h : DpOk side zs n j L) : ∀ k, k ≤ j → n ≤ 20 → 0 ≤ manyS L k ∧ manyS L k ≤ 20 * k
  | 0, _, _ => ⟨Int.le_refl _, Int.le_refl _⟩
  | k + 1, hk, hn => by
    have h1 := manyS_le h k (by omega) hn
    have h2 := h.lo k (by omega)
    have h3 := h.hi k (by omega)
    rw [manyS]
    omega
theorem sumP_le {side : Int} {zs L : List Int} {n j : Nat} {p : Int} (f : DpF side zs n j L) : ∀ {k : Nat}, k ≤ n → n ≤ 20 → 0 ≤ sumP zs p k ∧ sumP zs p k ≤ 1000000 * k
  | 0, _, _ => ⟨Int.le_refl _, Int.le_refl _⟩
  | k + 1, hk, hn => by
    have h1 := sumP_le (p := p) f (show k ≤ n by omega) hn
    have h2 := f.qty k (by omega)
    rw [sumP]
    split <;> omega
set_option linter.unusedSimpArgs false in
set_option linter.unusedVariables false in
set_option maxHeartbeats 6400000 in
set_option maxRecDepth 100000 in
theorem law_DepD (A : Option Addr) (len cap : Nat) (ys : List Int) (w : World) (hrow : IsRow .u8 w A len cap ys) :
    Calls Try.prog 6 #[.slice A len cap] w fun e w' => e = .returned (.bool true) ∧ Below w.heap.size w w' := by
  have hs := src_of_row hrow
  have hl := row_len hrow
  clear hrow
  have hsrc : ∀ w', Below w.heap.size w w' → Src w' w'.heap.size A len := fun w' hb i hi => by
    obtain ⟨b, o, n, h1, h2, h3, h4, h5⟩ := hs i hi
    exact ⟨b, o, n, h1, Nat.lt_of_lt_of_le h2 hb.size, h3, h4, (hb.cell (p := ⟨b, o + i, none⟩) h2).trans h5⟩
  by_cases hbig : 1048576 < len
  · go_enter Try.func6, Try.ntmps6
    go_wp2_with (go_at_call 9; go_in)
    go_ret
    exact ⟨rfl, Below.refl _ _⟩
  go_enter Try.func6, Try.ntmps6
  go_wp2_with (go_at_call 9; go_in)
  refine (DrawDepth_any A len cap _ hs hl).mono ?_
  rintro e w1 ⟨v1, n, za, v2, m, zb, s, rfl, hsI, hn, hm, TB, D⟩
  obtain ⟨A1, c, A2, d, rfl, rfl⟩ := TB.slices
  have kB := heap_alloc_new w1 (.cells #[.slice A1 n c, .slice A2 m d] 26)
  have hba : Below w1.heap.size w1 (w1.alloc (.cells #[.slice A1 n c, .slice A2 m d] 26)) := (Below.refl _ _).alloc (Nat.le_refl _) _
  replace D := D.trans (hba.mono D.size)
  replace TB := TB.below hba
  clear hba
  obtain ⟨p0, p1⟩ := cell2 (heap_alloc_new w1 (.cells #[.slice A1 n c, .slice A2 m d] 26))
  go_wp2_with fail
  clear p0 p1
  generalize w1.alloc (.cells #[.slice A1 n c, .slice A2 m d] 26) = w2 at *
  generalize w1.heap.size = X1 at *
  obtain ⟨hN20, hall, hsrt⟩ := side_facts (side := s) (rfl : bookB za n zb m = _)
  obtain ⟨N, hNe⟩ : ∃ N, sideN (bookB za n zb m) s n m = N := ⟨_, rfl⟩
  obtain ⟨zs, hZe⟩ : ∃ zs, sideZ (bookB za n zb m) s za zb = zs := ⟨_, rfl⟩
  obtain ⟨ZD, hZD⟩ : ∃ x, depZ (bookB za n zb m) s za n zb m = x := ⟨_, rfl⟩
  have hzd : ZD = dpL zs N := by rw [← hZD]; unfold depZ; rw [hNe, hZe]
  rw [hNe] at hN20
  rw [hNe, hZe] at hall hsrt
  obtain ⟨j, hD0, hF0⟩ := dp_full hall hsrt N (Nat.le_refl _)
  rw [← hzd] at hD0 hF0
  have hjN : depN (bookB za n zb m) s za n zb m = j := depN_of (by rw [hZD]; exact hD0.len)
  have hD := Lib.hid hD0
  have hF := Lib.hid hF0
  have hjle := hD0.le
  have HNe := Lib.hid hNe
  have HZe := Lib.hid hZe
  have HZD := Lib.hid hZD
  have HJ := Lib.hid hjN
  clear hNe hZe hZD hjN hD0 hF0 hall hsrt hzd
  have hcon := impl_Depth A1 n c A2 m d za zb s w2 (Lst.of_own TB.one) (Lst.of_own TB.two) (by omega) (by omega)
  rw [HJ.out, HZD.out] at hcon
  refine hcon.mono ?_
  clear hcon
  rintro e w3 ⟨⟨r, rfl, TD⟩, hbm⟩
  replace D := D.trans (hbm.mono D.size)
  replace TB := TB.below hbm
  replace kB := (hbm.block _ (heap_lt kB)).trans kB
  clear hbm
  obtain ⟨AD, cAD, rfl, _, _⟩ := own_slice TD
  go_wp2_with fail
  refine (DrawLevelsOk_any A len cap _ (hsrc _ D) hl).mono ?_
  rintro e w4 ⟨r, nl, zl, x, rfl, hnl, TX, hbm⟩
  replace D := D.trans (hbm.mono D.size)
  replace TB := TB.below hbm
  replace kB := (hbm.block _ (heap_lt kB)).trans kB
  replace TD := own_below TD hbm
  clear hbm
  obtain ⟨AX, cAX, rfl, _, _⟩ := own_slice TX
  obtain ⟨p0, p1⟩ := cell2 kB
  go_wp2_with fail
  clear p0 p1
  have hcon := spec_DepthO A1 n c A2 m d za zb s w4 (Lst.of_own TB.one) (Lst.of_own TB.two) (by omega) (by omega) (own_nil TB.one) (own_nil TB.two)
  rw [HJ.out, HZD.out] at hcon
  refine hcon.mono ?_
  clear hcon
  rintro e w5 ⟨⟨r, rfl, TE⟩, hbm⟩
  replace D := D.trans (hbm.mono D.size)
  replace TB := TB.below hbm
  replace kB := (hbm.block _ (heap_lt kB)).trans kB
  replace TD := own_below TD hbm
  replace TX := own_below TX hbm
  clear hbm
  obtain ⟨AE, cAE, rfl, _, _⟩ := own_slice TE
  go_wp2_with fail
  refine (sameLevels_same AD AE j cAD cAE ZD w5 (Lst.of_own TD) (Lst.of_own TE) (by omega)).mono ?_
  rintro e w6 ⟨rfl, hbm⟩
  replace D := D.trans (hbm.mono D.size)
  replace TB := TB.below hbm
  replace kB := (hbm.block _ (heap_lt kB)).trans kB
  replace TD := own_below TD hbm
  replace TX := own_below TX hbm
  replace TE := own_below TE hbm
  clear hbm TE
  go_wp2_with fail
  refine (impl_LevelsOk AX nl cAX zl x w6 (Lst.of_own TX) (by omega)).mono ?_
  rintro e w7 ⟨rfl, hbm⟩
  replace D := D.trans (hbm.mono D.size)
  replace TB := TB.below hbm
  replace kB := (hbm.block _ (heap_lt kB)).trans kB
  replace TD := own_below TD hbm
  replace TX := own_below TX hbm
  clear hbm
  go_wp2_with fail
  refine (spec_LevelsOk AX nl cAX zl x w7 (Lst.of_own TX) (by omega)).mono ?_
  rintro e w8 ⟨rfl, hbm⟩
  replace D := D.trans (hbm.mono D.size)
  replace TB := TB.below hbm
  replace kB := (hbm.block _ (heap_lt kB)).trans kB
  replace TD := own_below TD hbm
  replace TX := own_below TX hbm
  clear hbm TX
  generalize lvsB x zl nl = bb at *
  have hbb : (bb != bb) = false := by simp
  obtain ⟨p0, p1⟩ := cell2 kB
  go_wp2_with fail
  clear p0 p1
  refine (impl_Side A1 n c A2 m d za zb s w8 (Lst.of_own TB.one) (Lst.of_own TB.two) (by omega) (by omega)).mono ?_
  rw [HNe.out, HZe.out]
  rintro e w9 ⟨⟨r, rfl, TL⟩, hbm⟩
  replace D := D.trans (hbm.mono D.size)
  replace TB := TB.below hbm
  replace kB := (hbm.block _ (heap_lt kB)).trans kB
  replace TD := own_below TD hbm
  clear hbm kB TB
  obtain ⟨AL, cAL, rfl, _, _⟩ := own_slice TL
  go_wp2_with fail
  go_loopw [9, 10, 11] (fun q mm i wr => ∃ (k : Nat) (y : Int), k ≤ j ∧ i = .int .i64 (k : Int) ∧ mm = .int .i64 (manyS ZD k) ∧ q = .int .i64 y ∧ Below w9.heap.size w9 wr) (fun _ _ i _ => j - (intOf i).toNat)
  case atStart => exact ⟨0, 0, Nat.zero_le _, rfl, rfl, rfl, Below.refl _ _⟩
  case round =>
    obtain ⟨k, y, hk, rfl, rfl, rfl, hbr⟩ := hrel
    replace D := D.trans (hbr.mono D.size)
    replace TD := own_below TD hbr
    replace TL := own_below TL hbr
    by_cases hlt : k < j
    · go_wp2_with fail
      rename World => wo
      go_loopw [12, 13] (fun a t wr => ∃ k2 : Nat, k2 ≤ N ∧ t = .int .i64 (k2 : Int) ∧ a = .int .i64 (sumP zs (num ZD (k * 3)) k2) ∧ Below wo.heap.size wo wr) (fun _ t _ => N - (intOf t).toNat)
      case atStart => exact ⟨0, Nat.zero_le _, rfl, rfl, Below.refl _ _⟩
      case round =>
        obtain ⟨k2, hk2, rfl, rfl, hbq⟩ := hrel
        replace D := D.trans (hbq.mono D.size)
        replace TD := own_below TD hbq
        replace TL := own_below TL hbq
        replace hbr := hbr.trans (hbq.mono hbr.size)
        obtain ⟨b, o, hax, hbo, c0, c1, c2⟩ := (Lst.of_own TD).row3 hlt
        subst hax
        by_cases hlt2 : k2 < N
        · obtain ⟨b2, q2, hax2, hbo2, d0, d1, d2, d3⟩ := (Lst.of_own TL).row4 hlt2
          subst hax2
          have hsb := sumP_le (zs := zs) (p := num ZD (k * 3)) hF.out hk2 (by omega)
          have hqb := hF.out.qty k2 hlt2
          have F1 := Lib.hid (show sumP zs (num ZD (k * 3)) (k2 + 1) = sumP zs (num ZD (k * 3)) k2 + (if num zs (k2 * 4 + 2) = num ZD (k * 3) then num zs (k2 * 4 + 3) else 0) from rfl)
          have hw1 : IntKind.i64.wrap (sumP zs (num ZD (k * 3)) k2 + num zs (k2 * 4 + 3)) = sumP zs (num ZD (k * 3)) k2 + num zs (k2 * 4 + 3) := by rw [IntKind.wrap_i64]; omega
          clear hsb hqb c1 d0 d1 hbr D TD TL
          by_cases he : num zs (k2 * 4 + 2) = num ZD (k * 3)
          · have hx : (num zs (k2 * 4 + 2) == num ZD (k * 3)) = true := beq_iff_eq.2 he
            replace F1 := Lib.hid (F1.out.trans (by rw [if_pos he]))
            clear he
            go_upto_region 18 with fail
            go_quiet (fail)
            rename Nat => nq
            have g3 : (wr.drewN nq).cell? ⟨b2, q2 + k2 * 4 + 3, none⟩ = _ := d3
            clear d2 d3 c0 c2
            go_wp2_with fail
            go_roundw
            case rel => exact ⟨k2 + 1, by omega, by go_num, by rw [F1.out], by have hZ := hbq; exact ⟨hZ.os, hZ.tape, hZ.output, hZ.size, hZ.block⟩⟩
            case measure => simp [intOf]; omega
          · have hx : (num zs (k2 * 4 + 2) == num ZD (k * 3)) = false := beq_eq_false_iff_ne.2 he
            replace F1 := Lib.hid (F1.out.trans (by rw [if_neg he]))
            clear he
            go_upto_region 18 with fail
            go_quiet (fail)
            rename Nat => nq
            have g3 : (wr.drewN nq).cell? ⟨b2, q2 + k2 * 4 + 3, none⟩ = _ := d3
            clear d2 d3 c0 c2
            go_wp2_with fail
            go_roundw
            case rel => exact ⟨k2 + 1, by omega, by go_num, by rw [F1.out]; simp, by have hZ := hbq; exact ⟨hZ.os, hZ.tape, hZ.output, hZ.size, hZ.block⟩⟩
            case measure => simp [intOf]; omega
        · obtain rfl : N = k2 := by omega
          have hsm := hF.out.sum k hlt
          have hx : (sumP zs (num ZD (k * 3)) N != num ZD (k * 3 + 1)) = false := by rw [hsm]; simp
          clear hsm
          have hmb := manyS_le hD.out k hk (by omega)
          have hmc := hD.out.hi k hlt
          have hmd := hD.out.lo k hlt
          have F2 := Lib.hid (show manyS ZD (k + 1) = manyS ZD k + num ZD (k * 3 + 2) from rfl)
          have hw2 : IntKind.i64.wrap (manyS ZD k + num ZD (k * 3 + 2)) = manyS ZD k + num ZD (k * 3 + 2) := by rw [IntKind.wrap_i64]; omega
          clear hmb hmc hmd
          go_wp2_with fail
          go_roundw
          case rel => exact ⟨k + 1, _, by omega, by go_num, by rw [F2.out], rfl, hbr⟩
          case measure => simp [intOf]; omega
    · obtain rfl : j = k := by omega
      have hmn := hF.out.many
      rw [hmn]
      have hnn : ((N : Int) == (N : Int)) = true := by simp
      by_cases h1 : s < 1
      · have g1 : decide (s < 1) = true := by simp; omega
        go_wp2_with fail
        go_ret
        exact ⟨by first | rfl | simp, D⟩
      · by_cases h2 : 2 < s
        · have g1 : decide (s < 1) = false := by simp; omega
          have g2 : decide (2 < s) = true := by simp; omega
          go_wp2_with fail
          go_ret
          exact ⟨by first | rfl | simp, D⟩
        · have g1 : decide (s < 1) = false := by simp; omega
          have g2 : decide (2 < s) = false := by simp; omega
          have hlv := dp_lvs (side := s) (by omega) hD.out hF.out hN20
          go_wp2_with fail
          refine (impl_LevelsOk AD j cAD ZD s _ (Lst.of_own TD) (by omega)).mono ?_
          rw [hlv]
          rintro e wz ⟨rfl, hbm⟩
          replace D := D.trans (hbm.mono D.size)
          go_wp2_with fail
          go_ret
          exact ⟨by first | rfl | simp, D⟩
end Go.Proofs.Ytdjmejjponlfoab
