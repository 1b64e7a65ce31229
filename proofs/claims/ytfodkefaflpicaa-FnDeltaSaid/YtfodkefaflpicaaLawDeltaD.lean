/-
  The drawn law of updates: the update applied to the old levels yields the new ones.
-/
import Derived.Test.YtfodkefaflpicaaGDD
import Derived.Test.YtfodkefaflpicaaGAI
import Derived.Test.YtfodkefaflpicaaDeltP
import Derived.Test.YtfodkefaflpicaaSamL
import Derived.Test.YtfodkefaflpicaaLawInts
namespace Go.Proofs.Ytfodkefaflpicaa
open Go.RowKit Wire

set_option linter.unusedSimpArgs false in
set_option linter.unusedVariables false in
set_option maxHeartbeats 6400000 in
set_option maxRecDepth 100000 in
theorem law_DeltaD (A : Option Addr) (len cap : Nat) (ys : List Int) (w : World) (hrow : IsRow .u8 w A len cap ys) :
    Calls Try.prog 4 #[.slice A len cap] w fun e w' => e = .returned (.bool true) ∧ Below w.heap.size w w' := by
  have hs := src_of_row hrow
  have hl := row_len hrow
  clear hrow
  have hsrc : ∀ w', Below w.heap.size w w' → Src w' w'.heap.size A len := fun w' hb i hi => by
    obtain ⟨b, o, n, h1, h2, h3, h4, h5⟩ := hs i hi
    exact ⟨b, o, n, h1, Nat.lt_of_lt_of_le h2 hb.size, h3, h4, (hb.cell (p := ⟨b, o + i, none⟩) h2).trans h5⟩
  by_cases hbig : 1048576 < len
  · go_enter Try.func4, Try.ntmps4
    go_wp2_with (go_at_call 9; go_in)
    go_ret
    exact ⟨rfl, Below.refl _ _⟩
  go_enter Try.func4, Try.ntmps4
  go_wp2_with (go_at_call 9; go_in)
  refine (DrawDepthDelta_any A len cap _ hs hl).mono ?_
  rintro e w1 ⟨r1, n, za, r2, m, zb, s, rfl, hn, hm, TA, TB, D⟩
  obtain ⟨A1, c, rfl, _, _⟩ := own_slice TA
  obtain ⟨A2, d, rfl, _, _⟩ := own_slice TB
  have hsmall := dlt_few s za n zb m
  have hza := (Lst.of_own TA).1
  have hzb := (Lst.of_own TB).1
  obtain ⟨Z, hZ⟩ : ∃ x, dltZ s za n zb m = x := ⟨_, rfl⟩
  rw [hZ] at hsmall
  have HZ := Lib.hid hZ
  rcases Bool.eq_false_or_eq_true (dltB s za n zb m) with hU | hU
  rotate_left
  · have HU := Lib.hid hU
    clear hU hZ
    go_wp2_with fail
    have hcon := impl_DepthDelta A1 n c za A2 m d zb s w1 (Lst.of_own TA) (by omega) (Lst.of_own TB) (by omega)
    rw [HU.out, HZ.out] at hcon
    refine hcon.mono ?_
    clear hcon
    rintro e w2 ⟨⟨vTG, N, rfl, hN, TG⟩, hbm⟩
    replace D := D.trans (hbm.mono D.size)
    replace TA := own_below TA hbm
    replace TB := own_below TB hbm
    clear hbm
    obtain ⟨ATG, cTG, rfl, _, _⟩ := own_slice TG
    go_wp2_with fail
    have hcon := spec_DepthDelta A1 n c za A2 m d zb s w2 (Lst.of_own TA) (by omega) (Lst.of_own TB) (by omega)
    rw [HU.out, HZ.out] at hcon
    refine hcon.mono ?_
    clear hcon
    rintro e w3 ⟨⟨vTE, N3, rfl, hN3, TE⟩, hbm⟩
    replace D := D.trans (hbm.mono D.size)
    replace TA := own_below TA hbm
    replace TB := own_below TB hbm
    replace TG := own_below TG hbm
    clear hbm
    obtain ⟨ATE, cTE, rfl, _, _⟩ := own_slice TE
    obtain rfl : N3 = N := by omega
    go_wp2_with fail
    refine (sameLevels_same ATG ATE N3 cTG cTE Z w3 (Lst.of_own TG) (Lst.of_own TE) (by omega)).mono ?_
    rintro e w4 ⟨rfl, hbm⟩
    replace D := D.trans (hbm.mono D.size)
    replace TA := own_below TA hbm
    replace TB := own_below TB hbm
    replace TG := own_below TG hbm
    replace TE := own_below TE hbm
    clear hbm
    go_wp2_with fail
    refine (sameLevels_same ATG ATE N3 cTG cTE Z w4 (Lst.of_own TG) (Lst.of_own TE) (by omega)).mono ?_
    rintro e w5 ⟨rfl, hbm⟩
    replace D := D.trans (hbm.mono D.size)
    go_wp2_with fail
    go_ret
    exact ⟨by first | rfl | simp, D⟩
  obtain ⟨F1, F2⟩ : (∀ N, Z.length = N * 3 → aplB s za n Z N = true ∧ aplZ s za n Z N = zb) ∧ (dltB s za n za n = true ∧ dltZ s za n za n = []) := ⟨fun N hN => by rw [← hZ] at hN ⊢; exact delta_applied hU hza hzb hN, delta_none (by simp only [dltB, Bool.and_eq_true] at hU; exact hU.1)⟩
  obtain ⟨f3, f4⟩ := F2
  have H3 := Lib.hid f3
  have H4 := Lib.hid f4
  replace F1 := Lib.hid F1
  clear f3 f4
  have HU := Lib.hid hU
  clear hU hZ
  go_wp2_with fail
  have hcon := impl_DepthDelta A1 n c za A2 m d zb s w1 (Lst.of_own TA) (by omega) (Lst.of_own TB) (by omega)
  rw [HU.out, HZ.out] at hcon
  refine hcon.mono ?_
  clear hcon
  rintro e w2 ⟨⟨vTG, N, rfl, hN, TG⟩, hbm⟩
  replace D := D.trans (hbm.mono D.size)
  replace TA := own_below TA hbm
  replace TB := own_below TB hbm
  clear hbm
  obtain ⟨ATG, cTG, rfl, _, _⟩ := own_slice TG
  go_wp2_with fail
  have hcon := spec_DepthDelta A1 n c za A2 m d zb s w2 (Lst.of_own TA) (by omega) (Lst.of_own TB) (by omega)
  rw [HU.out, HZ.out] at hcon
  refine hcon.mono ?_
  clear hcon
  rintro e w3 ⟨⟨vTE, N3, rfl, hN3, TE⟩, hbm⟩
  replace D := D.trans (hbm.mono D.size)
  replace TA := own_below TA hbm
  replace TB := own_below TB hbm
  replace TG := own_below TG hbm
  clear hbm
  obtain ⟨ATE, cTE, rfl, _, _⟩ := own_slice TE
  obtain rfl : N3 = N := by omega
  go_wp2_with fail
  refine (sameLevels_same ATG ATE N3 cTG cTE Z w3 (Lst.of_own TG) (Lst.of_own TE) (by omega)).mono ?_
  rintro e w4 ⟨rfl, hbm⟩
  replace D := D.trans (hbm.mono D.size)
  replace TA := own_below TA hbm
  replace TB := own_below TB hbm
  replace TG := own_below TG hbm
  replace TE := own_below TE hbm
  clear hbm
  clear TE
  obtain ⟨f1, f2⟩ := F1.out N3 hN
  have H1 := Lib.hid f1
  have H2 := Lib.hid f2
  clear f1 f2
  go_wp2_with fail
  have hcon := impl_DepthApplied A1 n c za ATG N3 cTG Z s w4 (Lst.of_own TA) (own_nil TA) (by omega) (Lst.of_own TG) (by omega)
  rw [H1.out, H2.out] at hcon
  refine hcon.mono ?_
  clear hcon
  rintro e w5 ⟨⟨vTH, N5, rfl, hN5, TH⟩, hbm⟩
  replace D := D.trans (hbm.mono D.size)
  replace TA := own_below TA hbm
  replace TB := own_below TB hbm
  replace TG := own_below TG hbm
  clear hbm
  obtain ⟨ATH, cTH, rfl, _, _⟩ := own_slice TH
  obtain rfl : m = N5 := by omega
  go_wp2_with fail
  have hcon := impl_DepthDelta A1 n c za A1 n c za s w5 (Lst.of_own TA) (by omega) (Lst.of_own TA) (by omega)
  rw [H3.out, H4.out] at hcon
  refine hcon.mono ?_
  clear hcon
  rintro e w6 ⟨⟨vTK, N6, rfl, hN6, TK⟩, hbm⟩
  replace D := D.trans (hbm.mono D.size)
  replace TA := own_below TA hbm
  replace TB := own_below TB hbm
  replace TG := own_below TG hbm
  replace TH := own_below TH hbm
  clear hbm
  obtain ⟨ATK, cTK, rfl, _, _⟩ := own_slice TK
  obtain rfl : N6 = 0 := by simp at hN6; omega
  go_wp2_with fail
  refine (sameLevels_same ATH A2 m cTH d zb w6 (Lst.of_own TH) (Lst.of_own TB) (by omega)).mono ?_
  rintro e w7 ⟨rfl, hbm⟩
  replace D := D.trans (hbm.mono D.size)
  go_wp2_with fail
  go_ret
  exact ⟨by first | rfl | simp, D⟩
end Go.Proofs.Ytfodkefaflpicaa
