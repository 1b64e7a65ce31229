/-
  The drawn law of an auction's price.
-/
import Derived.Test.YtfodkefaflpicabLawVolAtD
import Derived.Test.YtfodkefaflpicabAucQ
import Derived.Test.YtfodkefaflpicabGap
import Derived.Test.YtfodkefaflpicabLawInts
namespace Go.Proofs.Ytfodkefaflpicab
open Go.RowKit Wire

theorem own_nilA {w : World} {base sz n c : Nat} {e : TypeId} {A : Option Addr} {xs : List Value} (h : w.ownsRow base e sz (.slice A n c) n xs) : A = none → n = 0 ∧ c = 0 := fun e0 => by
  subst e0
  rcases h.2 with ⟨h1, h2⟩ | ⟨g, cap, cur, h1, _⟩
  · injection h1 with _ h3 h4
    exact ⟨h3, h4⟩
  · simp at h1
theorem au_zero {za zb : List Int} {n m : Nat} (h : (aucR za zb n m).2 = 0) : (aucR za zb n m).1 = 0 := by
  unfold aucR at h ⊢
  split
  · rename_i hc
    rw [if_pos hc] at h
    simp only [Bool.and_eq_true] at hc
    rcases au_inv (zs := za ++ zb) (G := avG za zb n m) (avV_pos (aucB_at hc.1).2 (aucB_at hc.2).2) (n + m) with ⟨_, h2, _⟩ | ⟨h1, _, _⟩
    · exact h2
    · omega
  · rfl
theorem au_full {za zb : List Int} {n m : Nat} {r v : Int} (h : aucR za zb n m = (r, v)) (hv : v ≠ 0) : aucB za n = true ∧ aucB zb m = true ∧ AuBest (avV za zb n m) (avG za zb n m) (za ++ zb) (n + m) r ∧ avV za zb n m r = v := by
  unfold aucR at h
  split at h
  · rename_i hc
    simp only [Bool.and_eq_true] at hc
    rcases au_inv (zs := za ++ zb) (G := avG za zb n m) (avV_pos (aucB_at hc.1).2 (aucB_at hc.2).2) (n + m) with ⟨h1, _, _⟩ | ⟨_, h2, h3⟩
    · rw [h] at h1
      exact absurd h1 hv
    · rw [h] at h2 h3
      exact ⟨hc.1, hc.2, h3, h2.symm⟩
  · injection h with _ h2
    exact absurd h2.symm hv
set_option linter.unusedSimpArgs false in
set_option linter.unusedVariables false in
set_option maxHeartbeats 6400000 in
set_option maxRecDepth 100000 in
theorem law_AucD (A : Option Addr) (len cap : Nat) (ys : List Int) (w : World) (hrow : IsRow .u8 w A len cap ys) :
    Calls Try.prog 3 #[.slice A len cap] w fun e w' => e = .returned (.bool true) ∧ Below w.heap.size w w' := by
  have hs := src_of_row hrow
  have hl := row_len hrow
  clear hrow
  have hsrc : ∀ w', Below w.heap.size w w' → Src w' w'.heap.size A len := fun w' hb i hi => by
    obtain ⟨b, o, n, h1, h2, h3, h4, h5⟩ := hs i hi
    exact ⟨b, o, n, h1, Nat.lt_of_lt_of_le h2 hb.size, h3, h4, (hb.cell (p := ⟨b, o + i, none⟩) h2).trans h5⟩
  by_cases hbig : 1048576 < len
  · go_enter Try.func3, Try.ntmps3
    go_wp2_with (go_at_call 8; go_in)
    go_ret
    exact ⟨rfl, Below.refl _ _⟩
  go_enter Try.func3, Try.ntmps3
  go_wp2_with (go_at_call 8; go_in)
  refine (DrawAuctionPrice_any A len cap _ hs hl).mono ?_
  rintro e w1 ⟨A1, n, c, za, A2, m, d, zb, rfl, hn, hm, hc1, hc2, hd1, hd2, TA, TB, D⟩
  obtain ⟨r1, hr1⟩ : ∃ x, (aucR za zb n m).1 = x := ⟨_, rfl⟩
  obtain ⟨r2, hr2⟩ : ∃ x, (aucR za zb n m).2 = x := ⟨_, rfl⟩
  have HR1 := Lib.hid hr1
  have HR2 := Lib.hid hr2
  clear hr1 hr2
  go_wp2_with fail
  have hcon := impl_AuctionPrice A1 n c za A2 m d zb w1 (Lst.of_own TA) (own_nilA TA) (by omega) (Lst.of_own TB) (own_nilA TB) (by omega)
  rw [HR1.out, HR2.out] at hcon
  refine hcon.mono ?_
  clear hcon
  rintro e w2 ⟨rfl, hbm⟩
  replace D := D.trans (hbm.mono D.size)
  replace TA := own_below TA hbm
  replace TB := own_below TB hbm
  clear hbm
  go_wp2_with fail
  have hcon := spec_AuctionPrice A1 n c za A2 m d zb w2 (Lst.of_own TA) (own_nilA TA) (by omega) (Lst.of_own TB) (own_nilA TB) (by omega)
  rw [HR1.out, HR2.out] at hcon
  refine hcon.mono ?_
  clear hcon
  rintro e w3 ⟨rfl, hbm⟩
  replace D := D.trans (hbm.mono D.size)
  replace TA := own_below TA hbm
  replace TB := own_below TB hbm
  clear hbm
  go_wp2_with fail
  refine (DrawVolumeAt_any A len cap _ (hsrc _ D) hl).mono ?_
  rintro e w4 ⟨A3, n3, c3, z3, A4, m4, c4, z4, x, rfl, hn3, hm4, _, _, _, _, TX, TY, hbm⟩
  replace D := D.trans (hbm.mono D.size)
  replace TA := own_below TA hbm
  replace TB := own_below TB hbm
  clear hbm
  have g1 : (r1 != r1) = false := by simp
  have g2 : (r2 != r2) = false := by simp
  go_wp2_with fail
  refine (impl_VolumeAt A3 n3 c3 z3 A4 m4 c4 z4 x w4 (Lst.of_own TX) (by omega) (Lst.of_own TY) (by omega)).mono ?_
  rintro e w5 ⟨rfl, hbm⟩
  replace D := D.trans (hbm.mono D.size)
  replace TA := own_below TA hbm
  replace TB := own_below TB hbm
  replace TX := own_below TX hbm
  replace TY := own_below TY hbm
  clear hbm
  go_wp2_with fail
  refine (spec_VolumeAt A3 n3 c3 z3 A4 m4 c4 z4 x w5 (Lst.of_own TX) (by omega) (Lst.of_own TY) (by omega)).mono ?_
  rintro e w6 ⟨rfl, hbm⟩
  replace D := D.trans (hbm.mono D.size)
  replace TA := own_below TA hbm
  replace TB := own_below TB hbm
  replace TX := own_below TX hbm
  replace TY := own_below TY hbm
  clear hbm TX TY
  generalize volP z3 z4 n3 m4 x = vx at *
  have g3 : (vx != vx) = false := by simp
  by_cases hv : r2 = 0
  · have HZ := Lib.hid (au_zero (by rw [HR2.out]; exact hv))
    have hr0 : r1 = 0 := by rw [← HR1.out]; exact HZ.out
    subst hv
    subst hr0
    go_wp2_with fail
    go_ret
    exact ⟨by first | rfl | simp, D⟩
  have tv : (r2 == 0) = false := beq_eq_false_iff_ne.2 hv
  obtain ⟨ha, hb, hbst, hvr⟩ := au_full (show aucR za zb n m = (r1, r2) from Prod.ext HR1.out HR2.out) hv
  obtain ⟨hn60, hoa⟩ := aucB_at ha
  obtain ⟨hm60, hob⟩ := aucB_at hb
  have hza := (Lst.of_own TA).1
  have hzb := (Lst.of_own TB).1
  have HB := Lib.hid hbst
  have HVR := Lib.hid hvr
  have HP := Lib.hid (fun (k : Nat) (hk : k < n + m) => au_price (k := k) hza hoa hob hk)
  have HAV := Lib.hid (fun (p : Int) (hp : inB 1 p 1000000 = true) => avV_vol (p := p) ha hb hp)
  have HGP := Lib.hid (fun (p : Int) (wx : World) (h1 : wx.ownsRow w.heap.size 33 4 (.slice A1 n c) n (nums za)) (h2 : wx.ownsRow w.heap.size 33 4 (.slice A2 m d) m (nums zb)) => laws_gap A1 n c za A2 m d zb p wx (Lst.of_own h1) hn60 hoa (Lst.of_own h2) hm60 hob)
  clear hv hbst hvr ha hb hoa hob g1 g2 g3
  obtain ⟨i0, hi, hz0, hz1, hz2⟩ := info_parts ord_info
  have hB0 : Below w6.heap.size w6 (w6.alloc (.cells #[] 33)) := (Below.refl _ _).alloc (Nat.le_refl _) _
  have hq0 : (w6.alloc (.cells #[] 33)).ownsRow w6.heap.size 33 4 (.slice (some ⟨w6.heap.size, 0, none⟩) 0 0) 0 [] := ⟨by simp, .inr ⟨w6.heap.size, 0, #[], rfl, Nat.le_refl _, heap_alloc_new w6 _, Nat.le_refl _, Nat.zero_le _, by simp, by simp⟩⟩
  have hN0 : (w6.alloc (.cells #[] 33)).heap.size = w6.heap.size + 1 := by simp
  have hl1 := (Lst.of_own TA).below hB0
  go_wp2_with (at_builtin; refine wpList_appO _ rfl _ _ 24 rfl w6.heap.size 33 i0 _ 4 32 Try.underlying24 hi hz0 hz1 hz2 rfl (by decide) _ 0 [] rfl hq0 A1 n c (own_nilA TA) (nums za) rfl (by rw [nums_length, hza]) hl1.newsO (nums_one za) (by unfold maxLen; omega) (by omega) (by omega) ?_)
  intro v3 w7 hown3 hgrow3
  have hB3 := hB0.grown hgrow3 (by omega) (fun q hq => (hq0.lt q hq).1)
  have hr3 := (Lst.of_own TB).below hB3
  have hs3 := hB3.size
  have hov3 := hown3.lt
  replace hown3 : w7.ownsRow w6.heap.size 33 4 v3 n (nums za) := by simpa using hown3
  obtain ⟨AX, dX, rfl, _, _⟩ := own_slice hown3
  go_wp2_with (at_builtin; refine wpList_appO _ rfl _ _ 24 rfl w6.heap.size 33 i0 _ 4 32 Try.underlying24 hi hz0 hz1 hz2 rfl (by decide) (.slice AX n dX) n (nums za) rfl hown3 A2 m d (own_nilA TB) (nums zb) rfl (by rw [nums_length, hzb]) hr3.newsO (nums_one zb) (by unfold maxLen; omega) (by omega) (by omega) ?_)
  intro v4 w8 hown4 hgrow4
  have hbm := hB3.grown hgrow4 (by omega) (fun q hq => (hov3 q hq).1)
  rw [← nums_append] at hown4
  replace D := D.trans (hbm.mono D.size)
  replace TA := own_below TA hbm
  replace TB := own_below TB hbm
  obtain ⟨AL, dL, rfl, _, _⟩ := own_slice hown4
  clear hown3 hgrow3 hB3 hr3 hs3 hov3 hgrow4 hq0 hB0 hl1 hN0 hbm
  have TL := hown4
  clear hown4
  go_wp2_with fail
  go_loopw [13] (fun i wr => ∃ k : Nat, k ≤ n + m ∧ i = .int .i64 (k : Int) ∧ Below w8.heap.size w8 wr) (fun i _ => (n + m) - (intOf i).toNat)
  case atStart => exact ⟨0, Nat.zero_le _, rfl, Below.refl _ _⟩
  case round =>
    obtain ⟨k, hk, rfl, hbr⟩ := hrel
    replace D := D.trans (hbr.mono D.size)
    replace TA := own_below TA hbr
    replace TB := own_below TB hbr
    replace TL := own_below TL hbr
    by_cases hlt : k < n + m
    · obtain ⟨b, o, hax, hbo, c0, c1, c2, c3⟩ := (Lst.of_own TL).row4 hlt
      subst hax
      have hpi := HP.out k hlt
      have hky := HB.out.2 k hlt
      generalize num (za ++ zb) (k * 4 + 2) = pp at *
      have hav := HAV.out pp hpi
      obtain ⟨v, hv⟩ : ∃ v, avV za zb n m pp = v := ⟨_, rfl⟩
      obtain ⟨g, hg⟩ : ∃ g, avG za zb n m pp = g := ⟨_, rfl⟩
      obtain ⟨gb, hgb⟩ : ∃ gb, avG za zb n m r1 = gb := ⟨_, rfl⟩
      have C2 := HGP.out pp
      have C3 := HGP.out r1
      rw [hg] at C2
      rw [hgb] at C3
      replace C2 := Lib.hid C2
      replace C3 := Lib.hid C3
      simp only [keyB, hv, hg, hgb, HVR.out] at hky
      rw [hv] at hav
      have HAVV := Lib.hid hav
      clear hav hv hg hgb c0 c1 c3
      go_wp2_with fail
      have hcon := impl_VolumeAt A1 n c za A2 m d zb pp wr (Lst.of_own TA) (by omega) (Lst.of_own TB) (by omega)
      rw [HAVV.out] at hcon
      refine hcon.mono ?_
      clear hcon
      rintro e w9 ⟨rfl, hbm⟩
      replace D := D.trans (hbm.mono D.size)
      replace TA := own_below TA hbm
      replace TB := own_below TB hbm
      replace TL := own_below TL hbm
      replace hbr := hbr.trans (hbm.mono hbr.size)
      replace c2 := (hbm.cell (p := ⟨b, o + k * 4 + 2, none⟩) hbo).trans c2
      replace hbo := Nat.lt_of_lt_of_le hbo hbm.size
      clear hbm
      go_wp2_with fail
      refine (C2.out w9 TA TB).mono ?_
      rintro e w10 ⟨rfl, hbm⟩
      replace D := D.trans (hbm.mono D.size)
      replace TA := own_below TA hbm
      replace TB := own_below TB hbm
      replace TL := own_below TL hbm
      replace hbr := hbr.trans (hbm.mono hbr.size)
      replace c2 := (hbm.cell (p := ⟨b, o + k * 4 + 2, none⟩) hbo).trans c2
      replace hbo := Nat.lt_of_lt_of_le hbo hbm.size
      clear hbm
      have hle : ¬ r2 < v := by simp at hky; omega
      by_cases q2 : v = r2
      rotate_left
      · have q3 : (v == r2) = false := beq_eq_false_iff_ne.2 q2
        clear hky q2
        go_wp2_with fail
        go_roundw
        case rel => exact ⟨k + 1, by omega, by go_num, hbr⟩
        case measure => simp [intOf]; omega
      subst q2
      have q4 : (v == v) = true := beq_self_eq_true v
      have hge : ¬ g < gb := by simp at hky; omega
      by_cases q7 : g = gb
      rotate_left
      · have q8 : (g == gb) = false := beq_eq_false_iff_ne.2 q7
        clear hky q7
        go_wp2_with fail
        refine (C3.out w10 TA TB).mono ?_
        rintro e w11 ⟨rfl, hbm⟩
        replace D := D.trans (hbm.mono D.size)
        replace TA := own_below TA hbm
        replace TB := own_below TB hbm
        replace TL := own_below TL hbm
        replace hbr := hbr.trans (hbm.mono hbr.size)
        replace c2 := (hbm.cell (p := ⟨b, o + k * 4 + 2, none⟩) hbo).trans c2
        replace hbo := Nat.lt_of_lt_of_le hbo hbm.size
        clear hbm
        go_wp2_with fail
        refine (C3.out w11 TA TB).mono ?_
        rintro e w12 ⟨rfl, hbm⟩
        replace D := D.trans (hbm.mono D.size)
        replace TA := own_below TA hbm
        replace TB := own_below TB hbm
        replace TL := own_below TL hbm
        replace hbr := hbr.trans (hbm.mono hbr.size)
        replace c2 := (hbm.cell (p := ⟨b, o + k * 4 + 2, none⟩) hbo).trans c2
        replace hbo := Nat.lt_of_lt_of_le hbo hbm.size
        clear hbm
        go_wp2_with fail
        go_roundw
        case rel => exact ⟨k + 1, by omega, by go_num, hbr⟩
        case measure => simp [intOf]; omega
      subst q7
      have q9 : (g == g) = true := beq_self_eq_true g
      have q10 : ¬ pp < r1 := by simp at hky; omega
      clear hky
      go_wp2_with fail
      refine (C3.out w10 TA TB).mono ?_
      rintro e w11 ⟨rfl, hbm⟩
      replace D := D.trans (hbm.mono D.size)
      replace TA := own_below TA hbm
      replace TB := own_below TB hbm
      replace TL := own_below TL hbm
      replace hbr := hbr.trans (hbm.mono hbr.size)
      replace c2 := (hbm.cell (p := ⟨b, o + k * 4 + 2, none⟩) hbo).trans c2
      replace hbo := Nat.lt_of_lt_of_le hbo hbm.size
      clear hbm
      go_wp2_with fail
      refine (C3.out w11 TA TB).mono ?_
      rintro e w12 ⟨rfl, hbm⟩
      replace D := D.trans (hbm.mono D.size)
      replace TA := own_below TA hbm
      replace TB := own_below TB hbm
      replace TL := own_below TL hbm
      replace hbr := hbr.trans (hbm.mono hbr.size)
      replace c2 := (hbm.cell (p := ⟨b, o + k * 4 + 2, none⟩) hbo).trans c2
      replace hbo := Nat.lt_of_lt_of_le hbo hbm.size
      clear hbm
      go_wp2_with fail
      go_roundw
      case rel => exact ⟨k + 1, by omega, by go_num, hbr⟩
      case measure => simp [intOf]; omega
    · obtain rfl : k = n + m := by omega
      have hpi : inB 1 r1 1000000 = true := by
        obtain ⟨⟨i, hi1, e⟩, _⟩ := HB.out
        rw [← e]
        exact HP.out i hi1
      have hav := HAV.out r1 hpi
      rw [HVR.out] at hav
      have q4 : (r2 == r2) = true := beq_self_eq_true r2
      have HAVV := Lib.hid hav
      clear hav hpi
      go_wp2_with fail
      have hcon := impl_VolumeAt A1 n c za A2 m d zb r1 wr (Lst.of_own TA) (by omega) (Lst.of_own TB) (by omega)
      rw [HAVV.out] at hcon
      refine hcon.mono ?_
      clear hcon
      rintro e w9 ⟨rfl, hbm⟩
      replace D := D.trans (hbm.mono D.size)
      go_wp2_with fail
      go_ret
      exact ⟨by first | rfl | simp, D⟩
end Go.Proofs.Ytfodkefaflpicab
