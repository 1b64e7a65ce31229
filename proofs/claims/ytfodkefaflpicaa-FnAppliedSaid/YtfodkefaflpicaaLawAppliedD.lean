/-
  The drawn law of updates: applying one twice is applying it once.
-/
import Derived.Test.YtfodkefaflpicaaGDD
import Derived.Test.YtfodkefaflpicaaGAI
import Derived.Test.YtfodkefaflpicaaGLA
import Derived.Test.YtfodkefaflpicaaSamL
import Derived.Test.YtfodkefaflpicaaLawInts
namespace Go.Proofs.Ytfodkefaflpicaa
open Go.RowKit Wire

set_option linter.unusedSimpArgs false in
set_option linter.unusedVariables false in
set_option maxHeartbeats 6400000 in
set_option maxRecDepth 100000 in
theorem law_AppliedD (A : Option Addr) (len cap : Nat) (ys : List Int) (w : World) (hrow : IsRow .u8 w A len cap ys) :
    Calls Try.prog 5 #[.slice A len cap] w fun e w' => e = .returned (.bool true) ∧ Below w.heap.size w w' := by
  have hs := src_of_row hrow
  have hl := row_len hrow
  clear hrow
  have hsrc : ∀ w', Below w.heap.size w w' → Src w' w'.heap.size A len := fun w' hb i hi => by
    obtain ⟨b, o, n, h1, h2, h3, h4, h5⟩ := hs i hi
    exact ⟨b, o, n, h1, Nat.lt_of_lt_of_le h2 hb.size, h3, h4, (hb.cell (p := ⟨b, o + i, none⟩) h2).trans h5⟩
  by_cases hbig : 1048576 < len
  · go_enter Try.func5, Try.ntmps5
    go_wp2_with (go_at_call 9; go_in)
    go_ret
    exact ⟨rfl, Below.refl _ _⟩
  go_enter Try.func5, Try.ntmps5
  go_wp2_with (go_at_call 9; go_in)
  refine (DrawDepthApplied_any A len cap _ hs hl).mono ?_
  rintro e w1 ⟨r1, n, za, r2, m, zd, s, rfl, hn, hm, TA, TB, D⟩
  obtain ⟨A1, c, rfl, _, _⟩ := own_slice TA
  obtain ⟨A2, d, rfl, _, _⟩ := own_slice TB
  have hza := (Lst.of_own TA).1
  have hsmall := apl_small s za n zd m hza
  obtain ⟨Z, hZ⟩ : ∃ x, aplZ s za n zd m = x := ⟨_, rfl⟩
  rw [hZ] at hsmall
  have HZ := Lib.hid hZ
  rcases Bool.eq_false_or_eq_true (aplB s za n zd m) with hU | hU
  rotate_left
  · have HU := Lib.hid hU
    clear hU hZ
    go_wp2_with fail
    have hcon := impl_DepthApplied A1 n c za A2 m d zd s w1 (Lst.of_own TA) (own_nil TA) (by omega) (Lst.of_own TB) (by omega)
    rw [HU.out, HZ.out] at hcon
    refine hcon.mono ?_
    clear hcon
    rintro e w2 ⟨⟨vTG, N, rfl, hN, TG⟩, hbm⟩
    replace D := D.trans (hbm.mono D.size)
    replace TA := own_below TA hbm
    replace TB := own_below TB hbm
    clear hbm
    obtain ⟨ATG, cTG, rfl, _, _⟩ := own_slice TG
    go_wp2_with fail
    have hcon := spec_DepthApplied A1 n c za A2 m d zd s w2 (Lst.of_own TA) (own_nil TA) (by omega) (Lst.of_own TB) (by omega)
    rw [HU.out, HZ.out] at hcon
    refine hcon.mono ?_
    clear hcon
    rintro e w3 ⟨⟨vTE, N3, rfl, hN3, TE⟩, hbm⟩
    replace D := D.trans (hbm.mono D.size)
    replace TA := own_below TA hbm
    replace TB := own_below TB hbm
    replace TG := own_below TG hbm
    clear hbm
    obtain ⟨ATE, cTE, rfl, _, _⟩ := own_slice TE
    obtain rfl : N3 = N := by omega
    go_wp2_with fail
    refine (sameLevels_same ATG ATE N3 cTG cTE Z w3 (Lst.of_own TG) (Lst.of_own TE) (by omega)).mono ?_
    rintro e w4 ⟨rfl, hbm⟩
    replace D := D.trans (hbm.mono D.size)
    replace TA := own_below TA hbm
    replace TB := own_below TB hbm
    replace TG := own_below TG hbm
    replace TE := own_below TE hbm
    clear hbm
    go_wp2_with fail
    refine (sameLevels_same ATG ATE N3 cTG cTE Z w4 (Lst.of_own TG) (Lst.of_own TE) (by omega)).mono ?_
    rintro e w5 ⟨rfl, hbm⟩
    replace D := D.trans (hbm.mono D.size)
    go_wp2_with fail
    go_ret
    exact ⟨by first | rfl | simp, D⟩
  have F1 := Lib.hid (show ∀ N, Z.length = N * 3 → lvsB s Z N = true ∧ aplB s Z N zd m = true ∧ aplZ s Z N zd m = Z from fun N hN => by rw [← hZ] at hN ⊢; exact applied_again hU hza hN)
  have HU := Lib.hid hU
  clear hU hZ
  go_wp2_with fail
  have hcon := impl_DepthApplied A1 n c za A2 m d zd s w1 (Lst.of_own TA) (own_nil TA) (by omega) (Lst.of_own TB) (by omega)
  rw [HU.out, HZ.out] at hcon
  refine hcon.mono ?_
  clear hcon
  rintro e w2 ⟨⟨vTG, N, rfl, hN, TG⟩, hbm⟩
  replace D := D.trans (hbm.mono D.size)
  replace TA := own_below TA hbm
  replace TB := own_below TB hbm
  clear hbm
  obtain ⟨ATG, cTG, rfl, _, _⟩ := own_slice TG
  go_wp2_with fail
  have hcon := spec_DepthApplied A1 n c za A2 m d zd s w2 (Lst.of_own TA) (own_nil TA) (by omega) (Lst.of_own TB) (by omega)
  rw [HU.out, HZ.out] at hcon
  refine hcon.mono ?_
  clear hcon
  rintro e w3 ⟨⟨vTE, N3, rfl, hN3, TE⟩, hbm⟩
  replace D := D.trans (hbm.mono D.size)
  replace TA := own_below TA hbm
  replace TB := own_below TB hbm
  replace TG := own_below TG hbm
  clear hbm
  obtain ⟨ATE, cTE, rfl, _, _⟩ := own_slice TE
  obtain rfl : N3 = N := by omega
  go_wp2_with fail
  refine (sameLevels_same ATG ATE N3 cTG cTE Z w3 (Lst.of_own TG) (Lst.of_own TE) (by omega)).mono ?_
  rintro e w4 ⟨rfl, hbm⟩
  replace D := D.trans (hbm.mono D.size)
  replace TA := own_below TA hbm
  replace TB := own_below TB hbm
  replace TG := own_below TG hbm
  replace TE := own_below TE hbm
  clear hbm
  clear TE
  obtain ⟨f1, f2, f3⟩ := F1.out N3 hN
  have H2 := Lib.hid f2
  have H3 := Lib.hid f3
  clear f2 f3
  go_wp2_with fail
  have hcon := impl_DepthApplied ATG N3 cTG Z A2 m d zd s w4 (Lst.of_own TG) (own_nil TG) (by omega) (Lst.of_own TB) (by omega)
  rw [H2.out, H3.out] at hcon
  refine hcon.mono ?_
  clear hcon
  rintro e w5 ⟨⟨vTH, N5, rfl, hN5, TH⟩, hbm⟩
  replace D := D.trans (hbm.mono D.size)
  replace TA := own_below TA hbm
  replace TB := own_below TB hbm
  replace TG := own_below TG hbm
  clear hbm
  obtain ⟨ATH, cTH, rfl, _, _⟩ := own_slice TH
  obtain rfl : N5 = N3 := by omega
  go_wp2_with fail
  refine (impl_LevelsOk ATG N5 cTG Z s w5 (Lst.of_own TG) (by omega)).mono ?_
  rw [f1]
  rintro e w6 ⟨rfl, hbm⟩
  replace D := D.trans (hbm.mono D.size)
  replace TA := own_below TA hbm
  replace TB := own_below TB hbm
  replace TG := own_below TG hbm
  replace TH := own_below TH hbm
  clear hbm f1
  go_wp2_with fail
  refine (sameLevels_same ATH ATG N5 cTH cTG Z w6 (Lst.of_own TH) (Lst.of_own TG) (by omega)).mono ?_
  rintro e w7 ⟨rfl, hbm⟩
  replace D := D.trans (hbm.mono D.size)
  go_wp2_with fail
  go_ret
  exact ⟨by first | rfl | simp, D⟩
end Go.Proofs.Ytfodkefaflpicaa
