/-
  The price of an auction, in both programs.
-/
import Derived.Test.YtfodkefaflpicabAucC
import Derived.Test.YtfodkefaflpicabVolAt
import Derived.Test.YtfodkefaflpicabCat
namespace Go.Proofs.Ytfodkefaflpicab
open Go.RowKit Wire

set_option maxHeartbeats 800000 in
theorem spec_l8Gap (A : Option Addr) (n c : Nat) (za : List Int) (B : Option Addr) (m d : Nat) (zb : List Int) (p : Int) (w : World) (hl : Lst w w.heap.size 4 A n za) (hn : n ≤ 60) (hoa : allO za n = true) (hr : Lst w w.heap.size 4 B m zb) (hm : m ≤ 60) (hob : allO zb m = true) :
    Calls Try.prog 77 #[.slice A n c, .slice B m d, .int .i64 p] w fun e w' => e = .returned (.int .i64 (avG za zb n m p)) ∧ Below w.heap.size w w' := by
  obtain ⟨s0, s1⟩ := sumW_le (side := 1) (p := p) hoa n (Nat.le_refl _)
  obtain ⟨s2, s3⟩ := sumW_le (side := 2) (p := p) hob m (Nat.le_refl _)
  have HI := Lib.hid (fun w hl => auc_sumS A n c za 1 p w hl hn hoa)
  have HJ := Lib.hid (fun w hl => auc_sumS B m d zb 2 p w hl hm hob)
  have HG : Hid (avG za zb n m p = max (sumW 1 za p n) (sumW 2 zb p m) - min (sumW 1 za p n) (sumW 2 zb p m)) := rfl
  clear hoa hob
  generalize sumW 1 za p n = sa at *
  generalize sumW 2 zb p m = sb at *
  have hw1 : wrap64 (sa - sb) = sa - sb := by unfold wrap64; omega
  have hw2 : wrap64 (-(sa - sb)) = -(sa - sb) := by unfold wrap64; omega
  have HN := Lib.hid (show avG za zb n m p = max (sa - sb) (-(sa - sb)) by rw [HG.out]; omega)
  clear s0 s1 s2 s3
  go_enter Try.func77, Try.ntmps77
  go_wp2_with fail
  refine (HI.out w hl).mono ?_
  rintro e w1 ⟨rfl, hb1⟩
  go_wp2_with fail
  refine (HJ.out w1 (hr.later hb1)).mono ?_
  rintro e w2 ⟨rfl, hb2⟩
  have hbb := below_later hb1 hb2
  have HW1 := Lib.hid hw1
  have HW2 := Lib.hid hw2
  clear hw1 hw2
  go_wp2_with fail
  go_ret
  refine ⟨?_, hbb⟩
  have h1 : wrap64 (sa - sb) = sa - sb := HW1.out
  have h2 : wrap64 (-(sa - sb)) = -(sa - sb) := HW2.out
  show Ending.returned (.int .i64 (max (wrap64 (sa - sb)) (wrap64 (-wrap64 (sa - sb))))) = _
  rw [h1, h2, HN.out]
theorem avV_vol {za zb : List Int} {n m : Nat} {p : Int} (ha : aucB za n = true) (hb : aucB zb m = true) (hp : inB 1 p 1000000 = true) : volP za zb n m p = avV za zb n m p := by
  rw [volP_yes (by rw [ha, hb, hp]; rfl)]
  rfl
theorem au_price {za zb : List Int} {n m : Nat} (hza : za.length = n * 4) (ha : allO za n = true) (hb : allO zb m = true) {k : Nat} (hk : k < n + m) : inB 1 (num (za ++ zb) (k * 4 + 2)) 1000000 = true := by
  rcases Nat.lt_or_ge k n with h | h
  · have := allO_at n k ha h
    have e : num (za ++ zb) (k * 4 + 2) = num za (k * 4 + 2) := by simp [num, List.getElem?_append, show k * 4 + 2 < za.length by omega]
    rw [e]
    simp only [ordB, Bool.and_eq_true] at this
    exact this.2.2.1
  · have := allO_at m (k - n) hb (by omega)
    have e : num (za ++ zb) (k * 4 + 2) = num zb ((k - n) * 4 + 2) := by
      simp only [num, List.getD_eq_getElem?_getD, List.getElem?_append, show ¬ k * 4 + 2 < za.length by omega, if_false]
      congr 2
      omega
    rw [e]
    simp only [ordB, Bool.and_eq_true] at this
    exact this.2.2.1
set_option linter.unusedVariables false in
set_option linter.unusedSimpArgs false in
set_option maxHeartbeats 3200000 in
set_option maxRecDepth 100000 in
theorem spec_l8Price (A : Option Addr) (n c : Nat) (za : List Int) (B : Option Addr) (m d : Nat) (zb : List Int) (w : World) (hl : Lst w w.heap.size 4 A n za) (hA : A = none → n = 0 ∧ c = 0) (hoa : aucB za n = true) (hr : Lst w w.heap.size 4 B m zb) (hB : B = none → m = 0 ∧ d = 0) (hob : aucB zb m = true) :
    Calls Try.prog 37 #[.slice A n c, .slice B m d] w fun e w' => e = .returned (.tuple #[.int .i64 (auScan (avV za zb n m) (avG za zb n m) (za ++ zb) (n + m)).1, .int .i64 (auScan (avV za zb n m) (avG za zb n m) (za ++ zb) (n + m)).2]) ∧ Below w.heap.size w w' := by
  obtain ⟨i0, hi, hz0, hz1, hz2⟩ := info_parts ord_info
  obtain ⟨hn, hoa2⟩ := aucB_at hoa
  obtain ⟨hm, hob2⟩ := aucB_at hob
  have hza := hl.1
  have HP := Lib.hid (fun (k : Nat) (hk : k < n + m) => au_price (k := k) hza hoa2 hob2 hk)
  have HVOL := Lib.hid (fun (p : Int) (wx : World) (hb : Below w.heap.size w wx) => spec_VolumeAt A n c za B m d zb p wx ((hl.below hb).more hb.size) (by omega) ((hr.below hb).more hb.size) (by omega))
  have HGAP := Lib.hid (fun (p : Int) (wx : World) (hb : Below w.heap.size w wx) => spec_l8Gap A n c za B m d zb p wx ((hl.below hb).more hb.size) hn hoa2 ((hr.below hb).more hb.size) hm hob2)
  have HAV := Lib.hid (fun (p : Int) (hp : inB 1 p 1000000 = true) => avV_vol (p := p) hoa hob hp)
  have hB0 : Below w.heap.size w (w.alloc (.cells #[] 33)) := (Below.refl _ _).alloc (Nat.le_refl _) _
  have hq0 : (w.alloc (.cells #[] 33)).ownsRow w.heap.size 33 4 (.slice (some ⟨w.heap.size, 0, none⟩) 0 0) 0 [] := ⟨by simp, .inr ⟨w.heap.size, 0, #[], rfl, Nat.le_refl _, heap_alloc_new w _, Nat.le_refl _, Nat.zero_le _, by simp, by simp⟩⟩
  have hl1 := hl.below hB0
  have hr1 := hr.below hB0
  have hN0 : (w.alloc (.cells #[] 33)).heap.size = w.heap.size + 1 := by simp
  have hzl := hl.1
  have hzr := hr.1
  clear hoa hob hoa2 hob2
  go_enter Try.func37, Try.ntmps37
  go_wp2_with (at_builtin; refine wpList_appO _ rfl _ _ 24 rfl w.heap.size 33 i0 _ 4 32 Try.underlying24 hi hz0 hz1 hz2 rfl (by decide) _ 0 [] rfl hq0 A n c hA (nums za) rfl (by rw [nums_length, hzl]) hl1.newsO (nums_one za) (by unfold maxLen; omega) (by omega) (by omega) ?_)
  intro v3 w3 hown3 hgrow3
  have hB3 := hB0.grown hgrow3 (by omega) (fun q hq => (hq0.lt q hq).1)
  have hr3 := hr.below hB3
  have hs3 := hB3.size
  have hov3 := hown3.lt
  replace hown3 : w3.ownsRow w.heap.size 33 4 v3 n (nums za) := by simpa using hown3
  obtain ⟨A3, d3, rfl, _, _⟩ := own_slice hown3
  go_wp2_with (at_builtin; refine wpList_appO _ rfl _ _ 24 rfl w.heap.size 33 i0 _ 4 32 Try.underlying24 hi hz0 hz1 hz2 rfl (by decide) (.slice A3 n d3) n (nums za) rfl hown3 B m d hB (nums zb) rfl (by rw [nums_length, hzr]) hr3.newsO (nums_one zb) (by unfold maxLen; omega) (by omega) (by omega) ?_)
  intro v4 w4 hown4 hgrow4
  have hB4 := hB3.grown hgrow4 (by omega) (fun q hq => (hov3 q hq).1)
  rw [← nums_append] at hown4
  obtain ⟨A4, d4, rfl, _, _⟩ := own_slice hown4
  have HL4 := Lib.hid (Lst.of_own hown4)
  have HB4 := Lib.hid hB4
  clear hown3 hgrow3 hB3 hr3 hs3 hov3 hown4 hgrow4 hB4 hq0 hB0 hl1 hr1 hN0
  go_wp2_with fail
  go_loopw [6, 7, 9] (fun b q i wr => ∃ k : Nat, k ≤ n + m ∧ i = .int .i64 (k : Int) ∧ b = .int .i64 (auScan (avV za zb n m) (avG za zb n m) (za ++ zb) k).1 ∧ q = .int .i64 (auScan (avV za zb n m) (avG za zb n m) (za ++ zb) k).2 ∧ Below w4.heap.size w4 wr) (fun _ _ i _ => (n + m) - (intOf i).toNat)
  case atStart => exact ⟨0, Nat.zero_le _, rfl, rfl, rfl, Below.refl _ _⟩
  case round =>
    clear hl hr
    obtain ⟨k, hk, rfl, rfl, rfl, hbel⟩ := hrel
    have hbw := HB4.out.trans (hbel.mono HB4.out.size)
    obtain ⟨sc, hsc⟩ : ∃ x, auScan (avV za zb n m) (avG za zb n m) (za ++ zb) k = x := ⟨_, rfl⟩
    rw [hsc]
    obtain ⟨b, mo⟩ := sc
    have HS : auScan (avV za zb n m) (avG za zb n m) (za ++ zb) (k + 1) = if (decide (mo < avV za zb n m (num (za ++ zb) (k * 4 + 2))) || (avV za zb n m (num (za ++ zb) (k * 4 + 2)) == mo && (decide (0 < avV za zb n m (num (za ++ zb) (k * 4 + 2))) && (decide (avG za zb n m (num (za ++ zb) (k * 4 + 2)) < avG za zb n m b) || (avG za zb n m (num (za ++ zb) (k * 4 + 2)) == avG za zb n m b && decide ((num (za ++ zb) (k * 4 + 2)) < b)))))) = true then ((num (za ++ zb) (k * 4 + 2)), avV za zb n m (num (za ++ zb) (k * 4 + 2))) else (b, mo) := by rw [auScan, hsc]
    have HSC := Lib.hid hsc
    clear hsc
    show Code.wp _ _ _ _ _
    dsimp only
    by_cases hlt : k < n + m
    · obtain ⟨bb, o, rfl, hbb, c0, c1, c2, c3⟩ := (HL4.out.below hbel).row4 hlt
      have hpi := HP.out k hlt
      generalize num (za ++ zb) (k * 4 + 2) = pp at *
      have hav := HAV.out pp hpi
      obtain ⟨v, hv⟩ : ∃ v, avV za zb n m pp = v := ⟨_, rfl⟩
      obtain ⟨g, hg⟩ : ∃ g, avG za zb n m pp = g := ⟨_, rfl⟩
      obtain ⟨gb, hgb⟩ : ∃ gb, avG za zb n m b = gb := ⟨_, rfl⟩
      have C1 := HVOL.out pp
      have C2 := HGAP.out pp
      have C3 := HGAP.out b
      rw [hav, hv] at C1
      rw [hg] at C2
      rw [hgb] at C3
      replace C1 := Lib.hid C1
      replace C2 := Lib.hid C2
      replace C3 := Lib.hid C3
      rw [hv, hg, hgb] at HS
      replace HS := Lib.hid HS
      clear hav hv hg hgb c0 c1 c3
      go_wp2_with fail
      refine (C1.out wr hbw).mono ?_
      rintro e w5 ⟨rfl, hb5⟩
      have hb5w := hbw.trans (hb5.mono hbw.size)
      have hbel5 := hbel.trans (hb5.mono hbel.size)
      go_wp2_with fail
      refine (C2.out w5 hb5w).mono ?_
      rintro e w6 ⟨rfl, hb6⟩
      have hb6w := hb5w.trans (hb6.mono hb5w.size)
      have hbel6 := hbel5.trans (hb6.mono hbel5.size)
      clear hb5 hb6 hb5w hbel5 hbw hbel C1 C2 c2
      by_cases q1 : mo < v
      · have HS := HS
        have HE := Lib.hid (show auScan (avV za zb n m) (avG za zb n m) (za ++ zb) (k + 1) = (pp, v) by rw [HS.out]; simp [q1])
        clear HS
        go_wp2_with fail
        go_roundw
        case rel => exact ⟨k + 1, by omega, by go_num, by rw [HE.out], by rw [HE.out], hbel6⟩
        case measure => simp [intOf]; omega
      by_cases q2 : v = mo
      rotate_left
      · have q3 : (v == mo) = false := beq_eq_false_iff_ne.2 q2
        have HE := Lib.hid (show auScan (avV za zb n m) (avG za zb n m) (za ++ zb) (k + 1) = (b, mo) by rw [HS.out]; simp [q1, q3])
        clear HS
        clear q2
        go_wp2_with fail
        go_roundw
        case rel => exact ⟨k + 1, by omega, by go_num, by rw [HE.out], by rw [HE.out], hbel6⟩
        case measure => simp [intOf]; omega
      subst q2
      have q4 : (v == v) = true := beq_self_eq_true v
      by_cases q5 : 0 < v
      rotate_left
      · skip
        have HE := Lib.hid (show auScan (avV za zb n m) (avG za zb n m) (za ++ zb) (k + 1) = (b, v) by rw [HS.out]; simp [q5])
        clear HS
        go_wp2_with fail
        go_roundw
        case rel => exact ⟨k + 1, by omega, by go_num, by rw [HE.out], by rw [HE.out], hbel6⟩
        case measure => simp [intOf]; omega
      by_cases q6 : g < gb
      · skip
        have HE := Lib.hid (show auScan (avV za zb n m) (avG za zb n m) (za ++ zb) (k + 1) = (pp, v) by rw [HS.out]; simp [q5, q6])
        clear HS
        go_wp2_with fail
        refine (C3.out _ hb6w).mono ?_
        rintro e wx0 ⟨rfl, hbq0⟩
        have hbx0 := hb6w.trans (hbq0.mono hb6w.size)
        have hby0 := hbel6.trans (hbq0.mono hbel6.size)
        go_wp2_with fail
        go_roundw
        case rel => exact ⟨k + 1, by omega, by go_num, by rw [HE.out], by rw [HE.out], hby0⟩
        case measure => simp [intOf]; omega
      by_cases q7 : g = gb
      rotate_left
      · have q8 : (g == gb) = false := beq_eq_false_iff_ne.2 q7
        have HE := Lib.hid (show auScan (avV za zb n m) (avG za zb n m) (za ++ zb) (k + 1) = (b, v) by rw [HS.out]; simp [q5, q6, q8])
        clear HS
        clear q7
        go_wp2_with fail
        refine (C3.out _ hb6w).mono ?_
        rintro e wx0 ⟨rfl, hbq0⟩
        have hbx0 := hb6w.trans (hbq0.mono hb6w.size)
        have hby0 := hbel6.trans (hbq0.mono hbel6.size)
        go_wp2_with fail
        refine (C3.out _ hbx0).mono ?_
        rintro e wx1 ⟨rfl, hbq1⟩
        have hbx1 := hbx0.trans (hbq1.mono hbx0.size)
        have hby1 := hby0.trans (hbq1.mono hby0.size)
        go_wp2_with fail
        go_roundw
        case rel => exact ⟨k + 1, by omega, by go_num, by rw [HE.out], by rw [HE.out], hby1⟩
        case measure => simp [intOf]; omega
      subst q7
      have q9 : (g == g) = true := beq_self_eq_true g
      by_cases q10 : pp < b
      · skip
        have HE := Lib.hid (show auScan (avV za zb n m) (avG za zb n m) (za ++ zb) (k + 1) = (pp, v) by rw [HS.out]; simp [q5, q10])
        clear HS
        go_wp2_with fail
        refine (C3.out _ hb6w).mono ?_
        rintro e wx0 ⟨rfl, hbq0⟩
        have hbx0 := hb6w.trans (hbq0.mono hb6w.size)
        have hby0 := hbel6.trans (hbq0.mono hbel6.size)
        go_wp2_with fail
        refine (C3.out _ hbx0).mono ?_
        rintro e wx1 ⟨rfl, hbq1⟩
        have hbx1 := hbx0.trans (hbq1.mono hbx0.size)
        have hby1 := hby0.trans (hbq1.mono hby0.size)
        go_wp2_with fail
        go_roundw
        case rel => exact ⟨k + 1, by omega, by go_num, by rw [HE.out], by rw [HE.out], hby1⟩
        case measure => simp [intOf]; omega
      · skip
        have HE := Lib.hid (show auScan (avV za zb n m) (avG za zb n m) (za ++ zb) (k + 1) = (b, v) by rw [HS.out]; simp [q5, q10])
        clear HS
        go_wp2_with fail
        refine (C3.out _ hb6w).mono ?_
        rintro e wx0 ⟨rfl, hbq0⟩
        have hbx0 := hb6w.trans (hbq0.mono hb6w.size)
        have hby0 := hbel6.trans (hbq0.mono hbel6.size)
        go_wp2_with fail
        refine (C3.out _ hbx0).mono ?_
        rintro e wx1 ⟨rfl, hbq1⟩
        have hbx1 := hbx0.trans (hbq1.mono hbx0.size)
        have hby1 := hby0.trans (hbq1.mono hby0.size)
        go_wp2_with fail
        go_roundw
        case rel => exact ⟨k + 1, by omega, by go_num, by rw [HE.out], by rw [HE.out], hby1⟩
        case measure => simp [intOf]; omega
    · obtain rfl : k = n + m := by omega
      clear HS
      go_wp2_with fail
      exact bodyPost_ret (v := .tuple #[.int .i64 b, .int .i64 mo]) (by simp [results, Try.results37, go_sem]) rfl ⟨by rw [HSC.out], hbw⟩
set_option linter.unusedVariables false in
set_option linter.unusedSimpArgs false in
set_option maxHeartbeats 3200000 in
set_option maxRecDepth 100000 in
theorem spec_AuctionPrice (A : Option Addr) (n c : Nat) (za : List Int) (B : Option Addr) (m d : Nat) (zb : List Int) (w : World) (hl : Lst w w.heap.size 4 A n za) (hA : A = none → n = 0 ∧ c = 0) (hn : n ≤ 1048576) (hr : Lst w w.heap.size 4 B m zb) (hB : B = none → m = 0 ∧ d = 0) (hm : m ≤ 1048576) :
    Calls Try.prog 11 #[.slice A n c, .slice B m d] w fun e w' => e = .returned (.tuple #[.int .i64 (aucR za zb n m).1, .int .i64 (aucR za zb n m).2]) ∧ Below w.heap.size w w' := by
  rcases Bool.eq_false_or_eq_true (aucB za n) with h1 | h1
  rotate_left
  · have HN := Lib.hid (show aucR za zb n m = (0, 0) by simp [aucR, h1])
    go_enter Try.func11, Try.ntmps11
    go_wp2_with fail
    refine (auc_specOk A n c za _ hl hn).mono ?_
    rw [h1]
    rintro e w1 ⟨rfl, hb1⟩
    clear h1
    go_wp2_with fail
    exact bodyPost_ret (v := .tuple #[.int .i64 0, .int .i64 0]) (by simp [results, Try.results11, go_sem]) rfl ⟨by rw [HN.out], hb1⟩
  rcases Bool.eq_false_or_eq_true (aucB zb m) with h2 | h2
  rotate_left
  · have HN := Lib.hid (show aucR za zb n m = (0, 0) by simp [aucR, h2])
    go_enter Try.func11, Try.ntmps11
    go_wp2_with fail
    refine (auc_specOk A n c za _ hl hn).mono ?_
    rw [h1]
    rintro e w1 ⟨rfl, hb1⟩
    clear h1
    go_wp2_with fail
    refine (auc_specOk B m d zb _ (hr.later hb1) hm).mono ?_
    rw [h2]
    rintro e w2 ⟨rfl, hb2⟩
    have hbb := below_later hb1 hb2
    clear h2
    go_wp2_with fail
    exact bodyPost_ret (v := .tuple #[.int .i64 0, .int .i64 0]) (by simp [results, Try.results11, go_sem]) rfl ⟨by rw [HN.out], hbb⟩
  have HN := Lib.hid (show aucR za zb n m = auScan (avV za zb n m) (avG za zb n m) (za ++ zb) (n + m) by simp [aucR, h1, h2])
  have H1 := Lib.hid h1
  have H2 := Lib.hid h2
  go_enter Try.func11, Try.ntmps11
  go_wp2_with fail
  refine (auc_specOk A n c za _ hl hn).mono ?_
  rw [h1]
  rintro e w1 ⟨rfl, hb1⟩
  clear h1
  go_wp2_with fail
  refine (auc_specOk B m d zb _ (hr.later hb1) hm).mono ?_
  rw [h2]
  rintro e w2 ⟨rfl, hb2⟩
  have hbb := below_later hb1 hb2
  clear h2 hb1 hb2
  go_wp2_with fail
  refine (spec_l8Price A n c za B m d zb _ (hl.later hbb) hA H1.out (hr.later hbb) hB H2.out).mono ?_
  rw [← HN.out]
  rintro e w3 ⟨rfl, hb3⟩
  have hb4 := below_later hbb hb3
  clear hbb hb3 HN
  obtain ⟨r1, hr1⟩ : ∃ x, (aucR za zb n m).1 = x := ⟨_, rfl⟩
  obtain ⟨r2, hr2⟩ : ∃ x, (aucR za zb n m).2 = x := ⟨_, rfl⟩
  rw [hr1, hr2]
  have HR1 := Lib.hid hr1
  have HR2 := Lib.hid hr2
  clear hr1 hr2
  go_wp2_with fail
  exact bodyPost_ret (v := .tuple #[.int .i64 r1, .int .i64 r2]) (by simp [results, Try.results11, go_sem]) rfl ⟨by rw [HR1.out, HR2.out], hb4⟩
theorem au_alloc_lt (w : World) (o : Obj) {k : Nat} (h : k < w.heap.size) : (w.alloc o).heap[k]? = w.heap[k]? := by
  rw [show (w.alloc o).heap = w.heap.push o from rfl, Array.getElem?_push, if_neg (by omega)]
theorem au_lt {w : World} {g : Nat} {o : Obj} (h : w.heap[g]? = some o) : g < w.heap.size := (Array.getElem?_eq_some_iff.1 h).1
theorem au_cell2 {w : World} {g : Nat} {a b : Value} {t : TypeId} (h : w.heap[g]? = some (.cells #[a, b] t (0, 0))) : w.cell? ⟨g, 0, none⟩ = some a ∧ w.cell? ⟨g, 1, none⟩ = some b := by
  simp [World.cell?, h]
theorem au_cell1 {w : World} {g : Nat} {a : Value} {t : TypeId} (h : w.heap[g]? = some (.cells #[a] t (0, 0))) : w.cell? ⟨g, 0, none⟩ = some a := by
  simp [World.cell?, h]
theorem au_res {za zb : List Int} {n m : Nat} {x : Ending} (ha : allO za n = true) (hb : allO zb m = true) (h : (n + m = 0 ∧ x = .returned (.agg #[.int .i64 0, .int .i64 0, .int .i64 0])) ∨ ∃ r, AuBest (avV za zb n m) (avG za zb n m) (za ++ zb) (n + m) r ∧ x = .returned (.agg #[.int .i64 r, .int .i64 (avV za zb n m r), .int .i64 (avG za zb n m r)])) :
    ∃ p v g, x = .returned (.agg #[.int .i64 p, .int .i64 v, .int .i64 g]) ∧ auScan (avV za zb n m) (avG za zb n m) (za ++ zb) (n + m) = if v = 0 then (0, 0) else (p, v) := by
  rcases h with ⟨h, rfl⟩ | ⟨r, hr, rfl⟩
  · exact ⟨0, 0, 0, rfl, by rw [h, if_pos rfl]; rfl⟩
  · exact ⟨_, _, _, rfl, au_scan (avV_pos ha hb) hr⟩
set_option linter.unusedVariables false in
set_option linter.unusedSimpArgs false in
set_option maxHeartbeats 3200000 in
set_option maxRecDepth 100000 in
theorem impl_AuctionPrice (A : Option Addr) (n c : Nat) (za : List Int) (B : Option Addr) (m d : Nat) (zb : List Int) (w : World) (hl : Lst w w.heap.size 4 A n za) (hA : A = none → n = 0 ∧ c = 0) (hn : n ≤ 1048576) (hr : Lst w w.heap.size 4 B m zb) (hB : B = none → m = 0 ∧ d = 0) (hm : m ≤ 1048576) :
    Calls Try.prog 10 #[.slice A n c, .slice B m d] w fun e w' => e = .returned (.tuple #[.int .i64 (aucR za zb n m).1, .int .i64 (aucR za zb n m).2]) ∧ Below w.heap.size w w' := by
  have hBq0 : Below w.heap.size w ((w.alloc (.cells #[.slice A n c] 24)).alloc (.cells #[.slice B m d] 24)) := ((Below.refl _ _).alloc (Nat.le_refl _) _).alloc (by simp) _
  obtain ⟨k1, k2⟩ := two_blocks w (.cells #[.slice A n c] 24) (.cells #[.slice B m d] 24)
  have hl0 := (hl.below hBq0).more hBq0.size
  have hr0 := (hr.below hBq0).more hBq0.size
  rcases Bool.eq_false_or_eq_true (aucB za n && aucB zb m) with h1 | h1
  rotate_left
  · have HN := Lib.hid (show aucR za zb n m = (0, 0) by unfold aucR; rw [h1]; rfl)
    have b1 := au_cell1 k1
    have b2 := au_cell1 k2
    clear k1 k2
    go_enter Try.func10, Try.ntmps10
    go_wp2_with fail
    refine (auc_ok A n c za B m d zb _ hl0 hn hr0 hm).mono ?_
    rw [h1]
    rintro e w1 ⟨rfl, hb1⟩
    have HB := Lib.hid (hBq0.trans (hb1.mono hBq0.size))
    clear h1 hb1 b1 b2
    go_wp2_with fail
    exact bodyPost_ret (v := .tuple #[.int .i64 0, .int .i64 0]) (by simp [results, Try.results10, go_sem]) rfl ⟨by rw [HN.out], HB.out⟩
  obtain ⟨g1, g2⟩ : aucB za n = true ∧ aucB zb m = true := by simpa using h1
  obtain ⟨hn60, hoa⟩ := aucB_at g1
  obtain ⟨hm60, hob⟩ := aucB_at g2
  have HAR := Lib.hid (show aucR za zb n m = auScan (avV za zb n m) (avG za zb n m) (za ++ zb) (n + m) by simp [aucR, g1, g2])
  have b1 := au_cell1 k1
  have b2 := au_cell1 k2
  go_enter Try.func10, Try.ntmps10
  go_wp2_with fail
  refine (auc_ok A n c za B m d zb _ hl0 hn hr0 hm).mono ?_
  rw [h1]
  rintro e w1 ⟨rfl, hb1⟩
  replace k1 := (hb1.block _ (au_lt k1)).trans k1
  replace k2 := (hb1.block _ (au_lt k2)).trans k2
  have hB1 := hBq0.trans (hb1.mono hBq0.size)
  clear h1 g1 g2 b1 b2 hb1 hl0 hr0 hBq0
  go_upto_region 5 with fail
  have k3 := heap_alloc_new w1 (.cells #[.func (.func 32) #[] #[.pointer (some ⟨w.heap.size, 0, none⟩), .pointer (some ⟨w.heap.size + 1, 0, none⟩), .pointer (some ⟨w1.heap.size, 0, none⟩)]] 65)
  have hB3 := hB1.alloc hB1.size (.cells #[.func (.func 32) #[] #[.pointer (some ⟨w.heap.size, 0, none⟩), .pointer (some ⟨w.heap.size + 1, 0, none⟩), .pointer (some ⟨w1.heap.size, 0, none⟩)]] 65)
  replace k1 := (au_alloc_lt w1 (.cells #[.func (.func 32) #[] #[.pointer (some ⟨w.heap.size, 0, none⟩), .pointer (some ⟨w.heap.size + 1, 0, none⟩), .pointer (some ⟨w1.heap.size, 0, none⟩)]] 65) (au_lt k1)).trans k1
  replace k2 := (au_alloc_lt w1 (.cells #[.func (.func 32) #[] #[.pointer (some ⟨w.heap.size, 0, none⟩), .pointer (some ⟨w.heap.size + 1, 0, none⟩), .pointer (some ⟨w1.heap.size, 0, none⟩)]] 65) (au_lt k2)).trans k2
  generalize w1.alloc (.cells #[.func (.func 32) #[] #[.pointer (some ⟨w.heap.size, 0, none⟩), .pointer (some ⟨w.heap.size + 1, 0, none⟩), .pointer (some ⟨w1.heap.size, 0, none⟩)]] 65) = wq at *
  have hC : AuCap wq w.heap.size (w.heap.size + 1) w1.heap.size A n c za B m d zb := ⟨au_cell1 k1, au_cell1 k2, au_cell1 k3, au_lt k1, au_lt k2, au_lt k3, (hl.below hB3).more hB3.size, (hr.below hB3).more hB3.size⟩
  have hBq := Lib.hid hB3
  clear hB1 hB3 k1 k2 k3
  refine wp_region_held_drew (S := (fun w' => Below wq.heap.size wq w')) (by kernel_rfl) ?hSm61 (fun hHeld => ?restm61)
  case hSm61 => exact (Below.refl _ _).drew
  refine wpAnyH_take (i := 0) (oi := ?oim62) (v := ?vm62) ?him62 (by kernel_rfl) (by kernel_rfl) (by kernel_rfl) ?hQm62 (Or.inl ⟨?hwm62, ?hym62⟩) (by assumption) ?restm62
  case him62 => simp only [List.getElem?_toArray, List.getElem?_cons_succ, List.getElem?_cons_zero]; exact rfl
  case hQm62 => exact fun _ _ _ h => h
  case hwm62 => rfl
  case hym62 => ((intro wS hSw; have t0 := (hSw.cell (p := ⟨w1.heap.size, 0, none⟩) hC.l3).trans hC.x3; go_simp) <;> with_reducible rfl)
  try simp only [Act.put, List.setIfInBounds_toArray, List.set_cons_zero, List.set_cons_succ]
  refine wpAnyH_take (i := 1) (oi := ?oim63) (v := ?vm63) ?him63 (by kernel_rfl) (by kernel_rfl) (by kernel_rfl) ?hQm63 (Or.inl ⟨?hwm63, ?hym63⟩) (by assumption) ?restm63
  case him63 => simp only [List.getElem?_toArray, List.getElem?_cons_succ, List.getElem?_cons_zero]; exact rfl
  case hQm63 => exact fun _ _ _ h => h
  case hwm63 => rfl
  case hym63 => ((intro wS hSw; have t0 := (hSw.cell (p := ⟨w.heap.size, 0, none⟩) hC.l1).trans hC.x1; go_simp) <;> with_reducible rfl)
  try simp only [Act.put, List.setIfInBounds_toArray, List.set_cons_zero, List.set_cons_succ]
  refine wpAnyH_take (i := 2) (oi := ?oim64) (v := ?vm64) ?him64 (by kernel_rfl) (by kernel_rfl) (by kernel_rfl) ?hQm64 (Or.inl ⟨?hwm64, ?hym64⟩) (by assumption) ?restm64
  case him64 => simp only [List.getElem?_toArray, List.getElem?_cons_succ, List.getElem?_cons_zero]; exact rfl
  case hQm64 => exact fun _ _ _ h => h
  case hwm64 => rfl
  case hym64 => ((intro wS hSw; have t0 := (hSw.cell (p := ⟨w.heap.size + 1, 0, none⟩) hC.l2).trans hC.x2; go_simp) <;> with_reducible rfl)
  try simp only [Act.put, List.setIfInBounds_toArray, List.set_cons_zero, List.set_cons_succ]
  refine wpAnyH_ready (rs := [3, 6]) (by kernel_rfl) (by simp) ?_
  refine AllReadyH.cons (o := ?or65_3) ?hor65_3 (fun K hK => ?stepr65_3) (AllReadyH.cons (o := ?or65_6) ?hor65_6 (fun K hK => ?stepr65_6) (AllReadyH.nil))
  case hor65_3 => simp only [List.getElem?_toArray, List.getElem?_cons_succ, List.getElem?_cons_zero]; exact rfl
  case hor65_6 => simp only [List.getElem?_toArray, List.getElem?_cons_succ, List.getElem?_cons_zero]; exact rfl
  case stepr65_3 =>
    go_simp
    have kS : (wq.drew.alloc (.cells #[.slice A n c, .slice B m d] 24)).heap[wq.heap.size]? = some (.cells #[.slice A n c, .slice B m d] 24) := heap_alloc_new wq.drew (.cells #[.slice A n c, .slice B m d] 24)
    have hb3 : Below wq.heap.size wq (wq.drew.alloc (.cells #[.slice A n c, .slice B m d] 24)) := Below.alloc hHeld (Below.size hHeld) _
    refine hK.out _ _ ?hSr65_3 (fun hHeld => ?restr65_3)
    case hSr65_3 => exact hb3
    clear hK K
    try simp only [Act.put, List.setIfInBounds_toArray, List.set_cons_zero, List.set_cons_succ]
    refine wpAnyH_ready (rs := [4, 6]) (by kernel_rfl) (by simp) ?_
    refine AllReadyH.cons (o := ?or66_4) ?hor66_4 (fun K hK => ?stepr66_4) (AllReadyH.cons (o := ?or66_6) ?hor66_6 (fun K hK => ?stepr66_6) (AllReadyH.nil))
    case hor66_4 => simp only [List.getElem?_toArray, List.getElem?_cons_succ, List.getElem?_cons_zero]; exact rfl
    case hor66_6 => simp only [List.getElem?_toArray, List.getElem?_cons_succ, List.getElem?_cons_zero]; exact rfl
    case stepr66_4 =>
      go_simp
      obtain ⟨s0, s1⟩ := au_cell2 kS
      have hCw := hC.later hHeld
      refine (cat_Concat _ A n c B m d za zb _ s0 s1 (au_lt kS) hCw.la hCw.lb (by omega) (by omega) hA hB).mono ?_
      rintro x v5 ⟨vv, rfl, TC, hb5⟩
      obtain ⟨AV, cV, rfl, hV1, hV2⟩ := own_slice TC
      have hB5 : Below wq.heap.size wq v5 := Below.trans hHeld (hb5.mono (Below.size hHeld))
      clear s0 s1 kS hCw
      refine hK.out _ _ ?hSr66_4 (fun hHeld => ?restr66_4)
      case hSr66_4 => exact hB5
      clear hK K
      try simp only [Act.put, List.setIfInBounds_toArray, List.set_cons_zero, List.set_cons_succ]
      refine wpAnyH_ready (rs := [5, 6]) (by kernel_rfl) (by simp) ?_
      refine AllReadyH.cons (o := ?or67_5) ?hor67_5 (fun K hK => ?stepr67_5) (AllReadyH.cons (o := ?or67_6) ?hor67_6 (fun K hK => ?stepr67_6) (AllReadyH.nil))
      case hor67_5 => simp only [List.getElem?_toArray, List.getElem?_cons_succ, List.getElem?_cons_zero]; exact rfl
      case hor67_6 => simp only [List.getElem?_toArray, List.getElem?_cons_succ, List.getElem?_cons_zero]; exact rfl
      case stepr67_5 =>
        go_simp
        refine (auc_best _ _ _ A n c za B m d zb hn60 hoa hm60 hob (n + m) AV (n + m) cV (za ++ zb) _ (Nat.le_refl _) hV1 hV2 (Lst.of_own TC) (hC.later hHeld)).mono ?_
        rintro x v6 ⟨hx, hb6⟩
        obtain ⟨pz, vz, gz, rfl, hres⟩ := au_res hoa hob hx
        have HRES := Lib.hid hres
        clear hx hres TC
        have hB6 : Below wq.heap.size wq v6 := Below.trans hHeld (hb6.mono (Below.size hHeld))
        refine hK.out _ _ ?hSr67_5 (fun hHeld => ?restr67_5)
        case hSr67_5 => exact hB6
        clear hK K
        try simp only [Act.put, List.setIfInBounds_toArray, List.set_cons_zero, List.set_cons_succ]
        refine wpAnyH_ready (rs := [6]) (by kernel_rfl) (by simp) ?_
        refine AllReadyH.cons (o := ?or68_6) ?hor68_6 (fun K hK => ?stepr68_6) (AllReadyH.nil)
        case hor68_6 => simp only [List.getElem?_toArray, List.getElem?_cons_succ, List.getElem?_cons_zero]; exact rfl
        case stepr68_6 =>
          go_simp
          have kC := heap_alloc_new v6 (.cells #[.int .i64 0, .int .i64 0, .int .i64 0] 67)
          have hC6 : wq.heap.size ≤ v6.heap.size := Below.size hHeld
          have hb7 : Below wq.heap.size wq (v6.alloc (.cells #[.int .i64 0, .int .i64 0, .int .i64 0] 67)) := Below.alloc hHeld (Below.size hHeld) _
          refine hK.out _ _ ?hSr68_6 (fun hHeld => ?restr68_6)
          case hSr68_6 => exact hb7
          clear hK K
          try simp only [Act.put, List.setIfInBounds_toArray, List.set_cons_zero, List.set_cons_succ]
          refine wpAnyH_ready (rs := [7]) (by kernel_rfl) (by simp) ?_
          refine AllReadyH.cons (o := ?or69_7) ?hor69_7 (fun K hK => ?stepr69_7) (AllReadyH.nil)
          case hor69_7 => simp only [List.getElem?_toArray, List.getElem?_cons_succ, List.getElem?_cons_zero]; exact rfl
          case stepr69_7 =>
            generalize (v6.alloc (.cells #[.int .i64 0, .int .i64 0, .int .i64 0] 67)) = wa at *
            obtain ⟨d0, d1, d2, f0, f1, f2⟩ := auc_cell3 kC
            have HK := Lib.hid kC
            have hBz : Below wq.heap.size wq (((wa.setCell ⟨v6.heap.size, 0, none⟩ (.int .i64 pz)).setCell ⟨v6.heap.size, 1, none⟩ (.int .i64 vz)).setCell ⟨v6.heap.size, 2, none⟩ (.int .i64 gz)) := ((Below.setCell hHeld (p := ⟨v6.heap.size, 0, none⟩) hC6 _).setCell (p := ⟨v6.heap.size, 1, none⟩) hC6 _).setCell (p := ⟨v6.heap.size, 2, none⟩) hC6 _
            go_simp
            refine hK.out _ _ ?hSr69_7 (fun hHeld => ?restr69_7)
            case hSr69_7 => exact hBz
            clear hK K
            try simp only [Act.put, List.setIfInBounds_toArray, List.set_cons_zero, List.set_cons_succ]
            refine wpAnyH_done (by kernel_rfl) ?_ _
            have r := auc_put3 (u0 := .int .i64 pz) (u1 := .int .i64 vz) (u2 := .int .i64 gz) HK.out
            have HBZ := Lib.hid (hBq.out.trans (hBz.mono hBq.out.size))
            clear hHeld hBz
            obtain ⟨e0, e1, e2, _, _, _⟩ := auc_cell3 r
            clear r d0 d1 d2 f0 f1 f2 hC6 HK kC
            generalize (((wa.setCell ⟨v6.heap.size, 0, none⟩ (.int .i64 pz)).setCell ⟨v6.heap.size, 1, none⟩ (.int .i64 vz)).setCell ⟨v6.heap.size, 2, none⟩ (.int .i64 gz)) = wz at *
            by_cases hv : vz = 0
            · have HN := Lib.hid (show aucR za zb n m = (0, 0) by rw [HAR.out, HRES.out, if_pos hv])
              subst hv
              go_wp2_with fail
              exact bodyPost_ret (v := .tuple #[.int .i64 0, .int .i64 0]) (by simp [results, Try.results10, go_sem]) rfl ⟨by rw [HN.out], HBZ.out⟩
            · have HN := Lib.hid (show aucR za zb n m = (pz, vz) by rw [HAR.out, HRES.out, if_neg hv])
              have tv : (vz == 0) = false := beq_eq_false_iff_ne.2 hv
              clear hv
              go_upto_region 8 with fail
              go_region
              go_wp2_with fail
              exact bodyPost_ret (v := .tuple #[.int .i64 pz, .int .i64 vz]) (by simp [results, Try.results10, go_sem]) rfl ⟨by rw [HN.out], HBZ.out.drew⟩
      case stepr67_6 =>
        go_simp
        have kC := heap_alloc_new v5 (.cells #[.int .i64 0, .int .i64 0, .int .i64 0] 67)
        have hC6 : wq.heap.size ≤ v5.heap.size := Below.size hHeld
        have hb7 : Below wq.heap.size wq (v5.alloc (.cells #[.int .i64 0, .int .i64 0, .int .i64 0] 67)) := Below.alloc hHeld (Below.size hHeld) _
        replace TC := TC.alloc (.cells #[.int .i64 0, .int .i64 0, .int .i64 0] 67)
        refine hK.out _ _ ?hSr67_6 (fun hHeld => ?restr67_6)
        case hSr67_6 => exact hb7
        clear hK K
        try simp only [Act.put, List.setIfInBounds_toArray, List.set_cons_zero, List.set_cons_succ]
        refine wpAnyH_ready (rs := [5]) (by kernel_rfl) (by simp) ?_
        refine AllReadyH.cons (o := ?or70_5) ?hor70_5 (fun K hK => ?stepr70_5) (AllReadyH.nil)
        case hor70_5 => simp only [List.getElem?_toArray, List.getElem?_cons_succ, List.getElem?_cons_zero]; exact rfl
        case stepr70_5 =>
          go_simp
          refine (auc_best _ _ _ A n c za B m d zb hn60 hoa hm60 hob (n + m) AV (n + m) cV (za ++ zb) _ (Nat.le_refl _) hV1 hV2 (Lst.of_own TC) (hC.later hHeld)).mono ?_
          rintro x v6 ⟨hx, hb6⟩
          obtain ⟨pz, vz, gz, rfl, hres⟩ := au_res hoa hob hx
          have HRES := Lib.hid hres
          clear hx hres TC
          have hB6 : Below wq.heap.size wq v6 := Below.trans hHeld (hb6.mono (Below.size hHeld))
          replace kC := (hb6.block _ (au_lt kC)).trans kC
          refine hK.out _ _ ?hSr70_5 (fun hHeld => ?restr70_5)
          case hSr70_5 => exact hB6
          clear hK K
          try simp only [Act.put, List.setIfInBounds_toArray, List.set_cons_zero, List.set_cons_succ]
          refine wpAnyH_ready (rs := [7]) (by kernel_rfl) (by simp) ?_
          refine AllReadyH.cons (o := ?or71_7) ?hor71_7 (fun K hK => ?stepr71_7) (AllReadyH.nil)
          case hor71_7 => simp only [List.getElem?_toArray, List.getElem?_cons_succ, List.getElem?_cons_zero]; exact rfl
          case stepr71_7 =>
            obtain ⟨d0, d1, d2, f0, f1, f2⟩ := auc_cell3 kC
            have HK := Lib.hid kC
            have hBz : Below wq.heap.size wq (((v6.setCell ⟨v5.heap.size, 0, none⟩ (.int .i64 pz)).setCell ⟨v5.heap.size, 1, none⟩ (.int .i64 vz)).setCell ⟨v5.heap.size, 2, none⟩ (.int .i64 gz)) := ((Below.setCell hHeld (p := ⟨v5.heap.size, 0, none⟩) hC6 _).setCell (p := ⟨v5.heap.size, 1, none⟩) hC6 _).setCell (p := ⟨v5.heap.size, 2, none⟩) hC6 _
            go_simp
            refine hK.out _ _ ?hSr71_7 (fun hHeld => ?restr71_7)
            case hSr71_7 => exact hBz
            clear hK K
            try simp only [Act.put, List.setIfInBounds_toArray, List.set_cons_zero, List.set_cons_succ]
            refine wpAnyH_done (by kernel_rfl) ?_ _
            have r := auc_put3 (u0 := .int .i64 pz) (u1 := .int .i64 vz) (u2 := .int .i64 gz) HK.out
            have HBZ := Lib.hid (hBq.out.trans (hBz.mono hBq.out.size))
            clear hHeld hBz
            obtain ⟨e0, e1, e2, _, _, _⟩ := auc_cell3 r
            clear r d0 d1 d2 f0 f1 f2 hC6 HK kC
            generalize (((v6.setCell ⟨v5.heap.size, 0, none⟩ (.int .i64 pz)).setCell ⟨v5.heap.size, 1, none⟩ (.int .i64 vz)).setCell ⟨v5.heap.size, 2, none⟩ (.int .i64 gz)) = wz at *
            by_cases hv : vz = 0
            · have HN := Lib.hid (show aucR za zb n m = (0, 0) by rw [HAR.out, HRES.out, if_pos hv])
              subst hv
              go_wp2_with fail
              exact bodyPost_ret (v := .tuple #[.int .i64 0, .int .i64 0]) (by simp [results, Try.results10, go_sem]) rfl ⟨by rw [HN.out], HBZ.out⟩
            · have HN := Lib.hid (show aucR za zb n m = (pz, vz) by rw [HAR.out, HRES.out, if_neg hv])
              have tv : (vz == 0) = false := beq_eq_false_iff_ne.2 hv
              clear hv
              go_upto_region 8 with fail
              go_region
              go_wp2_with fail
              exact bodyPost_ret (v := .tuple #[.int .i64 pz, .int .i64 vz]) (by simp [results, Try.results10, go_sem]) rfl ⟨by rw [HN.out], HBZ.out.drew⟩
    case stepr66_6 =>
      go_simp
      have hZ6 : (wq.drew.alloc (.cells #[.slice A n c, .slice B m d] 24)).heap.size = wq.heap.size + 1 := by simp
      have kC := heap_alloc_new (wq.drew.alloc (.cells #[.slice A n c, .slice B m d] 24)) (.cells #[.int .i64 0, .int .i64 0, .int .i64 0] 67)
      rw [hZ6] at kC
      have hC6 : wq.heap.size ≤ wq.heap.size + 1 := by omega
      have hb7 : Below wq.heap.size wq ((wq.drew.alloc (.cells #[.slice A n c, .slice B m d] 24)).alloc (.cells #[.int .i64 0, .int .i64 0, .int .i64 0] 67)) := Below.alloc hHeld (Below.size hHeld) _
      replace kS := (au_alloc_lt (wq.drew.alloc (.cells #[.slice A n c, .slice B m d] 24)) (.cells #[.int .i64 0, .int .i64 0, .int .i64 0] 67) (au_lt kS)).trans kS
      refine hK.out _ _ ?hSr66_6 (fun hHeld => ?restr66_6)
      case hSr66_6 => exact hb7
      clear hK K
      try simp only [Act.put, List.setIfInBounds_toArray, List.set_cons_zero, List.set_cons_succ]
      refine wpAnyH_ready (rs := [4]) (by kernel_rfl) (by simp) ?_
      refine AllReadyH.cons (o := ?or72_4) ?hor72_4 (fun K hK => ?stepr72_4) (AllReadyH.nil)
      case hor72_4 => simp only [List.getElem?_toArray, List.getElem?_cons_succ, List.getElem?_cons_zero]; exact rfl
      case stepr72_4 =>
        go_simp
        obtain ⟨s0, s1⟩ := au_cell2 kS
        have hCw := hC.later hHeld
        refine (cat_Concat _ A n c B m d za zb _ s0 s1 (au_lt kS) hCw.la hCw.lb (by omega) (by omega) hA hB).mono ?_
        rintro x v5 ⟨vv, rfl, TC, hb5⟩
        obtain ⟨AV, cV, rfl, hV1, hV2⟩ := own_slice TC
        have hB5 : Below wq.heap.size wq v5 := Below.trans hHeld (hb5.mono (Below.size hHeld))
        replace kC := (hb5.block _ (au_lt kC)).trans kC
        clear s0 s1 kS hCw
        refine hK.out _ _ ?hSr72_4 (fun hHeld => ?restr72_4)
        case hSr72_4 => exact hB5
        clear hK K
        try simp only [Act.put, List.setIfInBounds_toArray, List.set_cons_zero, List.set_cons_succ]
        refine wpAnyH_ready (rs := [5]) (by kernel_rfl) (by simp) ?_
        refine AllReadyH.cons (o := ?or73_5) ?hor73_5 (fun K hK => ?stepr73_5) (AllReadyH.nil)
        case hor73_5 => simp only [List.getElem?_toArray, List.getElem?_cons_succ, List.getElem?_cons_zero]; exact rfl
        case stepr73_5 =>
          go_simp
          refine (auc_best _ _ _ A n c za B m d zb hn60 hoa hm60 hob (n + m) AV (n + m) cV (za ++ zb) _ (Nat.le_refl _) hV1 hV2 (Lst.of_own TC) (hC.later hHeld)).mono ?_
          rintro x v6 ⟨hx, hb6⟩
          obtain ⟨pz, vz, gz, rfl, hres⟩ := au_res hoa hob hx
          have HRES := Lib.hid hres
          clear hx hres TC
          have hB6 : Below wq.heap.size wq v6 := Below.trans hHeld (hb6.mono (Below.size hHeld))
          replace kC := (hb6.block _ (au_lt kC)).trans kC
          refine hK.out _ _ ?hSr73_5 (fun hHeld => ?restr73_5)
          case hSr73_5 => exact hB6
          clear hK K
          try simp only [Act.put, List.setIfInBounds_toArray, List.set_cons_zero, List.set_cons_succ]
          refine wpAnyH_ready (rs := [7]) (by kernel_rfl) (by simp) ?_
          refine AllReadyH.cons (o := ?or74_7) ?hor74_7 (fun K hK => ?stepr74_7) (AllReadyH.nil)
          case hor74_7 => simp only [List.getElem?_toArray, List.getElem?_cons_succ, List.getElem?_cons_zero]; exact rfl
          case stepr74_7 =>
            obtain ⟨d0, d1, d2, f0, f1, f2⟩ := auc_cell3 kC
            have HK := Lib.hid kC
            have hBz : Below wq.heap.size wq (((v6.setCell ⟨wq.heap.size + 1, 0, none⟩ (.int .i64 pz)).setCell ⟨wq.heap.size + 1, 1, none⟩ (.int .i64 vz)).setCell ⟨wq.heap.size + 1, 2, none⟩ (.int .i64 gz)) := ((Below.setCell hHeld (p := ⟨wq.heap.size + 1, 0, none⟩) hC6 _).setCell (p := ⟨wq.heap.size + 1, 1, none⟩) hC6 _).setCell (p := ⟨wq.heap.size + 1, 2, none⟩) hC6 _
            go_simp
            refine hK.out _ _ ?hSr74_7 (fun hHeld => ?restr74_7)
            case hSr74_7 => exact hBz
            clear hK K
            try simp only [Act.put, List.setIfInBounds_toArray, List.set_cons_zero, List.set_cons_succ]
            refine wpAnyH_done (by kernel_rfl) ?_ _
            have r := auc_put3 (u0 := .int .i64 pz) (u1 := .int .i64 vz) (u2 := .int .i64 gz) HK.out
            have HBZ := Lib.hid (hBq.out.trans (hBz.mono hBq.out.size))
            clear hHeld hBz
            obtain ⟨e0, e1, e2, _, _, _⟩ := auc_cell3 r
            clear r d0 d1 d2 f0 f1 f2 hC6 HK kC
            generalize (((v6.setCell ⟨wq.heap.size + 1, 0, none⟩ (.int .i64 pz)).setCell ⟨wq.heap.size + 1, 1, none⟩ (.int .i64 vz)).setCell ⟨wq.heap.size + 1, 2, none⟩ (.int .i64 gz)) = wz at *
            by_cases hv : vz = 0
            · have HN := Lib.hid (show aucR za zb n m = (0, 0) by rw [HAR.out, HRES.out, if_pos hv])
              subst hv
              go_wp2_with fail
              exact bodyPost_ret (v := .tuple #[.int .i64 0, .int .i64 0]) (by simp [results, Try.results10, go_sem]) rfl ⟨by rw [HN.out], HBZ.out⟩
            · have HN := Lib.hid (show aucR za zb n m = (pz, vz) by rw [HAR.out, HRES.out, if_neg hv])
              have tv : (vz == 0) = false := beq_eq_false_iff_ne.2 hv
              clear hv
              go_upto_region 8 with fail
              go_region
              go_wp2_with fail
              exact bodyPost_ret (v := .tuple #[.int .i64 pz, .int .i64 vz]) (by simp [results, Try.results10, go_sem]) rfl ⟨by rw [HN.out], HBZ.out.drew⟩
  case stepr65_6 =>
    go_simp
    have kC : (wq.drew.alloc (.cells #[.int .i64 0, .int .i64 0, .int .i64 0] 67)).heap[wq.heap.size]? = some (.cells #[.int .i64 0, .int .i64 0, .int .i64 0] 67) := heap_alloc_new wq.drew (.cells #[.int .i64 0, .int .i64 0, .int .i64 0] 67)
    have hC6 : wq.heap.size ≤ wq.heap.size := Nat.le_refl _
    have hb7 : Below wq.heap.size wq (wq.drew.alloc (.cells #[.int .i64 0, .int .i64 0, .int .i64 0] 67)) := Below.alloc hHeld (Below.size hHeld) _
    refine hK.out _ _ ?hSr65_6 (fun hHeld => ?restr65_6)
    case hSr65_6 => exact hb7
    clear hK K
    try simp only [Act.put, List.setIfInBounds_toArray, List.set_cons_zero, List.set_cons_succ]
    refine wpAnyH_ready (rs := [3]) (by kernel_rfl) (by simp) ?_
    refine AllReadyH.cons (o := ?or75_3) ?hor75_3 (fun K hK => ?stepr75_3) (AllReadyH.nil)
    case hor75_3 => simp only [List.getElem?_toArray, List.getElem?_cons_succ, List.getElem?_cons_zero]; exact rfl
    case stepr75_3 =>
      go_simp
      have hZ3 : (wq.drew.alloc (.cells #[.int .i64 0, .int .i64 0, .int .i64 0] 67)).heap.size = wq.heap.size + 1 := by simp
      have kS := heap_alloc_new (wq.drew.alloc (.cells #[.int .i64 0, .int .i64 0, .int .i64 0] 67)) (.cells #[.slice A n c, .slice B m d] 24)
      rw [hZ3] at kS
      have hb3 : Below wq.heap.size wq ((wq.drew.alloc (.cells #[.int .i64 0, .int .i64 0, .int .i64 0] 67)).alloc (.cells #[.slice A n c, .slice B m d] 24)) := Below.alloc hHeld (Below.size hHeld) _
      replace kC := (au_alloc_lt (wq.drew.alloc (.cells #[.int .i64 0, .int .i64 0, .int .i64 0] 67)) (.cells #[.slice A n c, .slice B m d] 24) (au_lt kC)).trans kC
      refine hK.out _ _ ?hSr75_3 (fun hHeld => ?restr75_3)
      case hSr75_3 => exact hb3
      clear hK K
      try simp only [Act.put, List.setIfInBounds_toArray, List.set_cons_zero, List.set_cons_succ]
      refine wpAnyH_ready (rs := [4]) (by kernel_rfl) (by simp) ?_
      refine AllReadyH.cons (o := ?or76_4) ?hor76_4 (fun K hK => ?stepr76_4) (AllReadyH.nil)
      case hor76_4 => simp only [List.getElem?_toArray, List.getElem?_cons_succ, List.getElem?_cons_zero]; exact rfl
      case stepr76_4 =>
        go_simp
        obtain ⟨s0, s1⟩ := au_cell2 kS
        have hCw := hC.later hHeld
        refine (cat_Concat _ A n c B m d za zb _ s0 s1 (au_lt kS) hCw.la hCw.lb (by omega) (by omega) hA hB).mono ?_
        rintro x v5 ⟨vv, rfl, TC, hb5⟩
        obtain ⟨AV, cV, rfl, hV1, hV2⟩ := own_slice TC
        have hB5 : Below wq.heap.size wq v5 := Below.trans hHeld (hb5.mono (Below.size hHeld))
        replace kC := (hb5.block _ (au_lt kC)).trans kC
        clear s0 s1 kS hCw
        refine hK.out _ _ ?hSr76_4 (fun hHeld => ?restr76_4)
        case hSr76_4 => exact hB5
        clear hK K
        try simp only [Act.put, List.setIfInBounds_toArray, List.set_cons_zero, List.set_cons_succ]
        refine wpAnyH_ready (rs := [5]) (by kernel_rfl) (by simp) ?_
        refine AllReadyH.cons (o := ?or77_5) ?hor77_5 (fun K hK => ?stepr77_5) (AllReadyH.nil)
        case hor77_5 => simp only [List.getElem?_toArray, List.getElem?_cons_succ, List.getElem?_cons_zero]; exact rfl
        case stepr77_5 =>
          go_simp
          refine (auc_best _ _ _ A n c za B m d zb hn60 hoa hm60 hob (n + m) AV (n + m) cV (za ++ zb) _ (Nat.le_refl _) hV1 hV2 (Lst.of_own TC) (hC.later hHeld)).mono ?_
          rintro x v6 ⟨hx, hb6⟩
          obtain ⟨pz, vz, gz, rfl, hres⟩ := au_res hoa hob hx
          have HRES := Lib.hid hres
          clear hx hres TC
          have hB6 : Below wq.heap.size wq v6 := Below.trans hHeld (hb6.mono (Below.size hHeld))
          replace kC := (hb6.block _ (au_lt kC)).trans kC
          refine hK.out _ _ ?hSr77_5 (fun hHeld => ?restr77_5)
          case hSr77_5 => exact hB6
          clear hK K
          try simp only [Act.put, List.setIfInBounds_toArray, List.set_cons_zero, List.set_cons_succ]
          refine wpAnyH_ready (rs := [7]) (by kernel_rfl) (by simp) ?_
          refine AllReadyH.cons (o := ?or78_7) ?hor78_7 (fun K hK => ?stepr78_7) (AllReadyH.nil)
          case hor78_7 => simp only [List.getElem?_toArray, List.getElem?_cons_succ, List.getElem?_cons_zero]; exact rfl
          case stepr78_7 =>
            obtain ⟨d0, d1, d2, f0, f1, f2⟩ := auc_cell3 kC
            have HK := Lib.hid kC
            have hBz : Below wq.heap.size wq (((v6.setCell ⟨wq.heap.size, 0, none⟩ (.int .i64 pz)).setCell ⟨wq.heap.size, 1, none⟩ (.int .i64 vz)).setCell ⟨wq.heap.size, 2, none⟩ (.int .i64 gz)) := ((Below.setCell hHeld (p := ⟨wq.heap.size, 0, none⟩) hC6 _).setCell (p := ⟨wq.heap.size, 1, none⟩) hC6 _).setCell (p := ⟨wq.heap.size, 2, none⟩) hC6 _
            go_simp
            refine hK.out _ _ ?hSr78_7 (fun hHeld => ?restr78_7)
            case hSr78_7 => exact hBz
            clear hK K
            try simp only [Act.put, List.setIfInBounds_toArray, List.set_cons_zero, List.set_cons_succ]
            refine wpAnyH_done (by kernel_rfl) ?_ _
            have r := auc_put3 (u0 := .int .i64 pz) (u1 := .int .i64 vz) (u2 := .int .i64 gz) HK.out
            have HBZ := Lib.hid (hBq.out.trans (hBz.mono hBq.out.size))
            clear hHeld hBz
            obtain ⟨e0, e1, e2, _, _, _⟩ := auc_cell3 r
            clear r d0 d1 d2 f0 f1 f2 hC6 HK kC
            generalize (((v6.setCell ⟨wq.heap.size, 0, none⟩ (.int .i64 pz)).setCell ⟨wq.heap.size, 1, none⟩ (.int .i64 vz)).setCell ⟨wq.heap.size, 2, none⟩ (.int .i64 gz)) = wz at *
            by_cases hv : vz = 0
            · have HN := Lib.hid (show aucR za zb n m = (0, 0) by rw [HAR.out, HRES.out, if_pos hv])
              subst hv
              go_wp2_with fail
              exact bodyPost_ret (v := .tuple #[.int .i64 0, .int .i64 0]) (by simp [results, Try.results10, go_sem]) rfl ⟨by rw [HN.out], HBZ.out⟩
            · have HN := Lib.hid (show aucR za zb n m = (pz, vz) by rw [HAR.out, HRES.out, if_neg hv])
              have tv : (vz == 0) = false := beq_eq_false_iff_ne.2 hv
              clear hv
              go_upto_region 8 with fail
              go_region
              go_wp2_with fail
              exact bodyPost_ret (v := .tuple #[.int .i64 pz, .int .i64 vz]) (by simp [results, Try.results10, go_sem]) rfl ⟨by rw [HN.out], HBZ.out.drew⟩
end Go.Proofs.Ytfodkefaflpicab
