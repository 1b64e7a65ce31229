/-
  The drawn law of CancelAll.
-/
import Derived.Test.YtdjmejjponlfoabGD
import Derived.Test.YtdjmejjponlfoabCanS
import Derived.Test.YtdjmejjponlfoabGS
import Derived.Test.YtdjmejjponlfoabCaP
import Derived.Test.YtdjmejjponlfoabLawInts
import Derived.Test.YtdjmejjponlfoabLawCell
namespace Go.Proofs.Ytdjmejjponlfoab
open Go.RowKit Wire

set_option linter.unusedSimpArgs false in
set_option linter.unusedVariables false in
set_option maxHeartbeats 6400000 in
set_option maxRecDepth 100000 in
theorem law_CancelAD (A : Option Addr) (len cap : Nat) (ys : List Int) (w : World) (hrow : IsRow .u8 w A len cap ys) :
    Calls Try.prog 5 #[.slice A len cap] w fun e w' => e = .returned (.bool true) ∧ Below w.heap.size w w' := by
  have hs := src_of_row hrow
  have hl := row_len hrow
  clear hrow
  have hsrc : ∀ w', Below w.heap.size w w' → Src w' w'.heap.size A len := fun w' hb i hi => by
    obtain ⟨b, o, n, h1, h2, h3, h4, h5⟩ := hs i hi
    exact ⟨b, o, n, h1, Nat.lt_of_lt_of_le h2 hb.size, h3, h4, (hb.cell (p := ⟨b, o + i, none⟩) h2).trans h5⟩
  by_cases hbig : 1048576 < len
  · go_enter Try.func5, Try.ntmps5
    go_wp2_with (go_at_call 9; go_in)
    go_ret
    exact ⟨rfl, Below.refl _ _⟩
  go_enter Try.func5, Try.ntmps5
  go_wp2_with (go_at_call 9; go_in)
  refine (DrawCancelAll_any A len cap _ hs hl).mono ?_
  rintro e w1 ⟨v1, n, za, v2, m, zb, ac, rfl, -, hn, hm, TB, D⟩
  obtain ⟨A1, c, A2, d, rfl, rfl⟩ := TB.slices
  have hlA : za.length = n * 4 := by have := TB.one.1; rwa [nums_length] at this
  have kB := heap_alloc_new w1 (.cells #[.slice A1 n c, .slice A2 m d] 26)
  have hba : Below w1.heap.size w1 (w1.alloc (.cells #[.slice A1 n c, .slice A2 m d] 26)) := (Below.refl _ _).alloc (Nat.le_refl _) _
  replace D := D.trans (hba.mono D.size)
  replace TB := TB.below hba
  clear hba
  obtain ⟨p0, p1⟩ := cell2 kB
  go_wp2_with fail
  clear p0 p1
  generalize w1.alloc (.cells #[.slice A1 n c, .slice A2 m d] 26) = w2 at *
  generalize w1.heap.size = X1 at *
  obtain ⟨bk, hbk⟩ : ∃ x, bookB za n zb m = x := ⟨_, rfl⟩
  have HBK := Lib.hid hbk
  obtain ⟨N1, hsN1⟩ : ∃ x, onN bk (tkNA za ac n) = x := ⟨_, rfl⟩
  obtain ⟨N2, hsN2⟩ : ∃ x, onN bk (tkNA zb ac m) = x := ⟨_, rfl⟩
  obtain ⟨N3, hsN3⟩ : ∃ x, onN bk (gnN (za ++ zb) ac (n + m)) = x := ⟨_, rfl⟩
  obtain ⟨Z1, hsZ1⟩ : ∃ x, onZ bk (tkZA za ac n) = x := ⟨_, rfl⟩
  obtain ⟨Z2, hsZ2⟩ : ∃ x, onZ bk (tkZA zb ac m) = x := ⟨_, rfl⟩
  obtain ⟨RR, hsR⟩ : ∃ x, onZ bk (gnR (za ++ zb) ac (n + m)) = x := ⟨_, rfl⟩
  have hN1 : N1 ≤ 20 := by have := tkN_leA za ac n; rw [← hsN1]; unfold onN; split <;> omega
  have hN2 : N2 ≤ 20 := by have := tkN_leA zb ac m; rw [← hsN2]; unfold onN; split <;> omega
  have hN3 : N3 ≤ 40 := by have := gnN_le (za ++ zb) ac (n + m); rw [← hsN3]; unfold onN; split <;> omega
  have HN1 := Lib.hid hsN1
  have HN2 := Lib.hid hsN2
  have HN3 := Lib.hid hsN3
  have HZ1 := Lib.hid hsZ1
  have HZ2 := Lib.hid hsZ2
  have HR := Lib.hid hsR
  have hcon := impl_CancelAll A1 n c A2 m d za zb ac w2 (Lst.of_own TB.one) (Lst.of_own TB.two) (by omega) (by omega) (own_nil TB.one) (own_nil TB.two)
  unfold CAns at hcon
  rw [hbk, hsN1, hsN2, hsN3, hsZ1, hsZ2, hsR] at hcon
  refine hcon.mono ?_
  clear hcon
  rintro e w3 ⟨⟨t1, t2, t3, rfl, TI, RI⟩, hbm⟩
  obtain ⟨BI, bI, CI, cI, rfl, rfl⟩ := TI.slices
  obtain ⟨EI, eI, rfl, _, _⟩ := own_slice RI
  replace D := D.trans (hbm.mono D.size)
  replace TB := TB.below hbm
  replace kB := (hbm.block _ (heap_lt kB)).trans kB
  clear hbm
  have kN := heap_alloc_new w3 (.cells #[.slice BI N1 bI, .slice CI N2 cI] 26)
  have hba : Below w3.heap.size w3 (w3.alloc (.cells #[.slice BI N1 bI, .slice CI N2 cI] 26)) := (Below.refl _ _).alloc (Nat.le_refl _) _
  replace D := D.trans (hba.mono D.size)
  replace TB := TB.below hba
  replace kB := (hba.block _ (heap_lt kB)).trans kB
  replace TI := TI.below hba
  replace RI := own_below RI hba
  clear hba
  obtain ⟨p0, p1⟩ := cell2 kB
  go_wp2_with fail
  clear p0 p1
  generalize w3.alloc (.cells #[.slice BI N1 bI, .slice CI N2 cI] 26) = w4 at *
  generalize w3.heap.size = X2 at *
  have hcon := spec_CancelAll A1 n c A2 m d za zb ac w4 (Lst.of_own TB.one) (Lst.of_own TB.two) (by omega) (by omega) (own_nil TB.one) (own_nil TB.two)
  unfold CAns at hcon
  rw [hbk, hsN1, hsN2, hsN3, hsZ1, hsZ2, hsR] at hcon
  refine hcon.mono ?_
  clear hcon
  rintro e w5 ⟨⟨t1, t2, t3, rfl, TS, RS⟩, hbm⟩
  obtain ⟨BS, bS, CS, cS, rfl, rfl⟩ := TS.slices
  obtain ⟨ES, eS, rfl, _, _⟩ := own_slice RS
  replace D := D.trans (hbm.mono D.size)
  replace TB := TB.below hbm
  replace kB := (hbm.block _ (heap_lt kB)).trans kB
  replace TI := TI.below hbm
  replace RI := own_below RI hbm
  replace kN := (hbm.block _ (heap_lt kN)).trans kN
  clear hbm
  clear hsN1 hsN2 hsN3 hsZ1 hsZ2 hsR hbk
  have kM := heap_alloc_new w5 (.cells #[.slice BS N1 bS, .slice CS N2 cS] 26)
  have hba : Below w5.heap.size w5 (w5.alloc (.cells #[.slice BS N1 bS, .slice CS N2 cS] 26)) := (Below.refl _ _).alloc (Nat.le_refl _) _
  replace D := D.trans (hba.mono D.size)
  replace TB := TB.below hba
  replace kB := (hba.block _ (heap_lt kB)).trans kB
  replace TI := TI.below hba
  replace RI := own_below RI hba
  replace kN := (hba.block _ (heap_lt kN)).trans kN
  replace TS := TS.below hba
  replace RS := own_below RS hba
  clear hba
  go_upto_region 6 with fail
  generalize w5.alloc (.cells #[.slice BS N1 bS, .slice CS N2 cS] 26) = w6 at *
  generalize w5.heap.size = X3 at *
  obtain ⟨p0, p1⟩ := cell2 kN
  obtain ⟨r0, r1⟩ := cell2 kM
  go_wp2_with fail
  clear p0 p1 r0 r1
  refine (sameBook_same _ _ _ _ N1 N2 _ _ _ _ Z1 Z2 w6 TI.bookIn TS.bookIn (by omega) (by omega)).mono ?_
  rintro e w7 ⟨rfl, hbs⟩
  replace D := D.trans (hbs.mono D.size)
  replace TB := TB.below hbs
  replace kB := (hbs.block _ (heap_lt kB)).trans kB
  replace TI := TI.below hbs
  replace RI := own_below RI hbs
  replace kN := (hbs.block _ (heap_lt kN)).trans kN
  replace TS := TS.below hbs
  replace RS := own_below RS hbs
  replace kM := (hbs.block _ (heap_lt kM)).trans kM
  clear hbs
  go_wp2_with fail
  refine (sameRecs_same EI ES N3 eI eS RR w7 (Lst.of_own RI) (Lst.of_own RS) (by omega)).mono ?_
  rintro e w8 ⟨rfl, hbs⟩
  replace D := D.trans (hbs.mono D.size)
  replace TB := TB.below hbs
  replace kB := (hbs.block _ (heap_lt kB)).trans kB
  replace TI := TI.below hbs
  replace RI := own_below RI hbs
  replace kN := (hbs.block _ (heap_lt kN)).trans kN
  replace TS := TS.below hbs
  replace RS := own_below RS hbs
  replace kM := (hbs.block _ (heap_lt kM)).trans kM
  clear hbs
  obtain ⟨p0, p1⟩ := cell2 kB
  go_wp2_with fail
  clear p0 p1
  refine (spec_BookOkO A1 n c A2 m d za zb w8 (Lst.of_own TB.one) (Lst.of_own TB.two) (by omega) (by omega) (own_nil TB.one) (own_nil TB.two)).mono ?_
  rw [HBK.out]
  rintro e w9 ⟨rfl, hb9⟩
  replace D := D.trans (hb9.mono D.size)
  replace TB := TB.below hb9
  replace kB := (hb9.block _ (heap_lt kB)).trans kB
  replace TI := TI.below hb9
  replace RI := own_below RI hb9
  replace kN := (hb9.block _ (heap_lt kN)).trans kN
  replace TS := TS.below hb9
  replace RS := own_below RS hb9
  replace kM := (hb9.block _ (heap_lt kM)).trans kM
  clear hb9
  cases bk
  · skip
    obtain ⟨p0, p1⟩ := cell2 kN
    obtain ⟨r0, r1⟩ := cell2 kM
    go_wp2_with fail
    clear p0 p1 r0 r1
    refine (sameBook_same _ _ _ _ N1 N2 _ _ _ _ Z1 Z2 w9 TI.bookIn TS.bookIn (by omega) (by omega)).mono ?_
    rintro e w10 ⟨rfl, hbs⟩
    replace D := D.trans (hbs.mono D.size)
    replace TB := TB.below hbs
    replace kB := (hbs.block _ (heap_lt kB)).trans kB
    replace TI := TI.below hbs
    replace RI := own_below RI hbs
    replace kN := (hbs.block _ (heap_lt kN)).trans kN
    replace TS := TS.below hbs
    replace RS := own_below RS hbs
    replace kM := (hbs.block _ (heap_lt kM)).trans kM
    clear hbs
    go_wp2_with fail
    refine (sameRecs_same EI ES N3 eI eS RR w10 (Lst.of_own RI) (Lst.of_own RS) (by omega)).mono ?_
    rintro e w11 ⟨rfl, hbs⟩
    replace D := D.trans (hbs.mono D.size)
    replace TB := TB.below hbs
    replace kB := (hbs.block _ (heap_lt kB)).trans kB
    replace TI := TI.below hbs
    replace RI := own_below RI hbs
    replace kN := (hbs.block _ (heap_lt kN)).trans kN
    replace TS := TS.below hbs
    replace RS := own_below RS hbs
    replace kM := (hbs.block _ (heap_lt kM)).trans kM
    clear hbs
    go_wp2_with fail
    go_ret
    exact ⟨by first | rfl | simp, D⟩
  · clear kM TS RS
    have hbk : bookB za n zb m = true := HBK.out
    obtain rfl : tkNA za ac n = N1 := HN1.out
    obtain rfl : tkNA zb ac m = N2 := HN2.out
    obtain rfl : gnN (za ++ zb) ac (n + m) = N3 := HN3.out
    obtain rfl : tkZA za ac n = Z1 := HZ1.out
    obtain rfl : tkZA zb ac m = Z2 := HZ2.out
    obtain rfl : gnR (za ++ zb) ac (n + m) = RR := HR.out
    clear HN1 HN2 HN3 HZ1 HZ2 HR hbk
    generalize hsN1 : tkNA za ac n = N1 at *
    generalize hsN2 : tkNA zb ac m = N2 at *
    generalize hsZ1 : tkZA za ac n = Z1 at *
    generalize hsZ2 : tkZA zb ac m = Z2 at *
    generalize hsN3 : gnN (za ++ zb) ac (n + m) = N3 at *
    generalize hsR : gnR (za ++ zb) ac (n + m) = RR at *
    have HN1 := Lib.hid hsN1
    have HN2 := Lib.hid hsN2
    have HZ1 := Lib.hid hsZ1
    have HZ2 := Lib.hid hsZ2
    have HN3 := Lib.hid hsN3
    have HR := Lib.hid hsR
    clear hsN1 hsN2 hsZ1 hsZ2 hsN3 hsR
    go_upto_region 9 with fail
    obtain ⟨i0, hi, hz0, hz1, hz2⟩ := info_parts ord_info
    have ha2 := Lst.of_own TB.one
    have hbb2 := Lst.of_own TB.two
    obtain ⟨y0, y1⟩ := cell2 kB
    have hlX := heap_lt kB
    have hown0 : (w9.alloc (.cells #[] 28)).drew.ownsRow w9.heap.size 28 4 (.slice (some ⟨w9.heap.size, 0, none⟩) 0 0) 0 [] := ⟨rfl, .inr ⟨w9.heap.size, 0, #[], rfl, Nat.le_refl _, heap_alloc_new w9 _, Nat.le_refl _, Nat.zero_le _, rfl, rfl⟩⟩
    have hba2 : Below w9.heap.size w9 (w9.alloc (.cells #[] 28)) := (Below.refl _ _).alloc (Nat.le_refl _) _
    have q0' := (hba2.cell (p := ⟨X1, 0, none⟩) hlX).trans y0
    have q1' := (hba2.cell (p := ⟨X1, 1, none⟩) hlX).trans y1
    refine wp_region_held_drew (S := (fun w' => Below w9.heap.size w9 w' ∧ w'.cell? ⟨X1, 0, none⟩ = some (.slice A1 n c) ∧ w'.cell? ⟨X1, 1, none⟩ = some (.slice A2 m d))) (by kernel_rfl) ?hSq1xs (fun hHeld => ?restq1xs)
    case hSq1xs => (first | exact ⟨(Below.refl _ _).drew, y0, y1⟩ | exact ⟨hba2.drew, q0', q1'⟩ | exact hHeld | (have hk0 := (hHeld.1.cell (p := ⟨X1, 0, none⟩) hlX); exact ⟨by assumption, ((by assumption : Below w9.heap.size w9 _).cell (p := ⟨X1, 0, none⟩) hlX).trans y0, ((by assumption : Below w9.heap.size w9 _).cell (p := ⟨X1, 1, none⟩) hlX).trans y1⟩))
    refine wpAnyH_take (i := 1) (oi := ?oiq1x1) (v := ?vq1x1) ?hiq1x1 (by kernel_rfl) (by kernel_rfl) (by kernel_rfl) ?hQq1x1 (Or.inl ⟨?hwq1x1, ?hyq1x1⟩) (by assumption) ?restq1x1
    case hiq1x1 => simp only [List.getElem?_toArray, List.getElem?_cons_succ, List.getElem?_cons_zero]; exact rfl
    case hQq1x1 => exact fun _ _ _ h => h
    case hwq1x1 => rfl
    case hyq1x1 => ((intro w hSw; (try dsimp only at hSw); go_simp) <;> with_reducible rfl)
    try simp only [Act.put, List.setIfInBounds_toArray, List.set_cons_zero, List.set_cons_succ]
    refine wpAnyH_take (i := 2) (oi := ?oiq1x2) (v := ?vq1x2) ?hiq1x2 (by kernel_rfl) (by kernel_rfl) (by kernel_rfl) ?hQq1x2 (Or.inl ⟨?hwq1x2, ?hyq1x2⟩) (by assumption) ?restq1x2
    case hiq1x2 => simp only [List.getElem?_toArray, List.getElem?_cons_succ, List.getElem?_cons_zero]; exact rfl
    case hQq1x2 => exact fun _ _ _ h => h
    case hwq1x2 => rfl
    case hyq1x2 => ((intro w hSw; (try dsimp only at hSw); go_simp) <;> with_reducible rfl)
    try simp only [Act.put, List.setIfInBounds_toArray, List.set_cons_zero, List.set_cons_succ]
    refine wpAnyH_take (i := 4) (oi := ?oiq1x3) (v := ?vq1x3) ?hiq1x3 (by kernel_rfl) (by kernel_rfl) (by kernel_rfl) ?hQq1x3 (Or.inl ⟨?hwq1x3, ?hyq1x3⟩) (by assumption) ?restq1x3
    case hiq1x3 => simp only [List.getElem?_toArray, List.getElem?_cons_succ, List.getElem?_cons_zero]; exact rfl
    case hQq1x3 => exact fun _ _ _ h => h
    case hwq1x3 => rfl
    case hyq1x3 => ((intro w hSw; (try dsimp only at hSw); go_simp) <;> with_reducible rfl)
    try simp only [Act.put, List.setIfInBounds_toArray, List.set_cons_zero, List.set_cons_succ]
    refine wpAnyH_take (i := 5) (oi := ?oiq1x4) (v := ?vq1x4) ?hiq1x4 (by kernel_rfl) (by kernel_rfl) (by kernel_rfl) ?hQq1x4 (Or.inl ⟨?hwq1x4, ?hyq1x4⟩) (by assumption) ?restq1x4
    case hiq1x4 => simp only [List.getElem?_toArray, List.getElem?_cons_succ, List.getElem?_cons_zero]; exact rfl
    case hQq1x4 => exact fun _ _ _ h => h
    case hwq1x4 => rfl
    case hyq1x4 => ((intro w hSw; (try dsimp only at hSw); go_simp) <;> with_reducible rfl)
    try simp only [Act.put, List.setIfInBounds_toArray, List.set_cons_zero, List.set_cons_succ]
    refine wpAnyH_ready (rs := [0]) (by kernel_rfl) (by simp) ?_
    refine AllReadyH.cons (o := ?oq1x5) ?hoq1x5 (fun K hK => ?stepq1x5) ?moreq1x5
    case hoq1x5 => simp only [List.getElem?_toArray, List.getElem?_cons_succ, List.getElem?_cons_zero]; exact rfl
    case moreq1x5 => exact AllReadyH.nil
    go_simp
    skip
    refine hK.out _ _ ?hSq1x5 (fun hHeld => ?restq1x5)
    case hSq1x5 => (first | exact ⟨(Below.refl _ _).drew, y0, y1⟩ | exact ⟨hba2.drew, q0', q1'⟩ | exact hHeld | (have hk0 := (hHeld.1.cell (p := ⟨X1, 0, none⟩) hlX); exact ⟨by assumption, ((by assumption : Below w9.heap.size w9 _).cell (p := ⟨X1, 0, none⟩) hlX).trans y0, ((by assumption : Below w9.heap.size w9 _).cell (p := ⟨X1, 1, none⟩) hlX).trans y1⟩))
    clear hK K
    try simp only [Act.put, List.setIfInBounds_toArray, List.set_cons_zero, List.set_cons_succ]
    refine wpAnyH_ready (rs := [3]) (by kernel_rfl) (by simp) ?_
    refine AllReadyH.cons (o := ?oq1x6) ?hoq1x6 (fun K hK => ?stepq1x6) ?moreq1x6
    case hoq1x6 => simp only [List.getElem?_toArray, List.getElem?_cons_succ, List.getElem?_cons_zero]; exact rfl
    case moreq1x6 => exact AllReadyH.nil
    (refine step_append_ownO _ rfl _ _ 24 rfl w9.heap.size 28 i0 _ 4 32 Try.underlying24 hi hz0 hz1 hz2 rfl (by decide) _ 0 [] rfl hown0 A1 (own_nil TB.one) (nums za) rfl (by rw [nums_length]; exact ha2.1) ((ha2.below hHeld.1).newsO) (nums_one _) (by unfold maxLen; omega) (by omega) (hHeld.1.size) ?_; intro v1 wq1 hown1 hgrow1; have hbq1 := hHeld.1.grown hgrow1 (hHeld.1.size) (fun q hq => (hown0.lt q hq).1))
    rw [Nat.zero_add, List.nil_append] at hown1
    refine hK.out _ _ ?hSq1x6 (fun hHeld => ?restq1x6)
    case hSq1x6 => (first | exact ⟨(Below.refl _ _).drew, y0, y1⟩ | exact ⟨hba2.drew, q0', q1'⟩ | exact hHeld | (have hk0 := (hHeld.1.cell (p := ⟨X1, 0, none⟩) hlX); exact ⟨by assumption, ((by assumption : Below w9.heap.size w9 _).cell (p := ⟨X1, 0, none⟩) hlX).trans y0, ((by assumption : Below w9.heap.size w9 _).cell (p := ⟨X1, 1, none⟩) hlX).trans y1⟩))
    clear hK K
    try simp only [Act.put, List.setIfInBounds_toArray, List.set_cons_zero, List.set_cons_succ]
    refine wpAnyH_ready (rs := [6]) (by kernel_rfl) (by simp) ?_
    refine AllReadyH.cons (o := ?oq1x7) ?hoq1x7 (fun K hK => ?stepq1x7) ?moreq1x7
    case hoq1x7 => simp only [List.getElem?_toArray, List.getElem?_cons_succ, List.getElem?_cons_zero]; exact rfl
    case moreq1x7 => exact AllReadyH.nil
    (refine step_append_ownO _ rfl _ _ 24 rfl w9.heap.size 28 i0 _ 4 32 Try.underlying24 hi hz0 hz1 hz2 rfl (by decide) _ n (nums za) rfl hown1 A2 (own_nil TB.two) (nums zb) rfl (by rw [nums_length]; exact hbb2.1) ((hbb2.below hHeld.1).newsO) (nums_one _) (by unfold maxLen; omega) (by omega) (hHeld.1.size) ?_; intro v2 wq2 hown2 hgrow2; have hbq2 := hHeld.1.grown hgrow2 (hHeld.1.size) (fun q hq => (hown1.lt q hq).1))
    refine hK.out _ _ ?hSq1x7 (fun hHeld => ?restq1x7)
    case hSq1x7 => (first | exact ⟨(Below.refl _ _).drew, y0, y1⟩ | exact ⟨hba2.drew, q0', q1'⟩ | exact hHeld | (have hk0 := (hHeld.1.cell (p := ⟨X1, 0, none⟩) hlX); exact ⟨by assumption, ((by assumption : Below w9.heap.size w9 _).cell (p := ⟨X1, 0, none⟩) hlX).trans y0, ((by assumption : Below w9.heap.size w9 _).cell (p := ⟨X1, 1, none⟩) hlX).trans y1⟩))
    clear hK K
    try simp only [Act.put, List.setIfInBounds_toArray, List.set_cons_zero, List.set_cons_succ]
    refine wpAnyH_take (i := 7) (oi := ?oiq1x8) (v := ?vq1x8) ?hiq1x8 (by kernel_rfl) (by kernel_rfl) (by kernel_rfl) ?hQq1x8 (Or.inl ⟨?hwq1x8, ?hyq1x8⟩) (by assumption) ?restq1x8
    case hiq1x8 => simp only [List.getElem?_toArray, List.getElem?_cons_succ, List.getElem?_cons_zero]; exact rfl
    case hQq1x8 => exact fun _ _ _ h => h
    case hwq1x8 => rfl
    case hyq1x8 => ((intro w hSw; (try dsimp only at hSw); go_simp) <;> with_reducible rfl)
    try simp only [Act.put, List.setIfInBounds_toArray, List.set_cons_zero, List.set_cons_succ]
    refine wpAnyH_done (by kernel_rfl) ?_ _
    rw [← nums_append] at hown2
    obtain ⟨A3, c3, rfl, _, _⟩ := own_slice hown2
    have hbq : Below w9.heap.size w9 wq2 := hHeld.1
    replace D := D.trans (hbq.mono D.size)
    replace TB := TB.below hbq
    replace kB := (hbq.block _ (heap_lt kB)).trans kB
    replace TI := TI.below hbq
    replace RI := own_below RI hbq
    replace kN := (hbq.block _ (heap_lt kN)).trans kN
    have TA := hown2
    clear hHeld hown2 hgrow2 hgrow1 hown1 hown0 hba2 q0' q1' hbq1 hbq2 y0 y1 ha2 hbb2 hlX hbq hi hz0 hz1 hz2 kB TB
    obtain ⟨p0, p1⟩ := cell2 kN
    go_wp2_with fail
    go_loopw [9, 11] (fun my i wr => ∃ k : Nat, k ≤ n + m ∧ i = .int .i64 (k : Int) ∧ my = .int .i64 (gnN (za ++ zb) ac k : Nat) ∧ Below wq2.heap.size wq2 wr) (fun _ i _ => n + m - (intOf i).toNat)
    case atStart => exact ⟨0, Nat.zero_le _, rfl, rfl, Below.refl _ _⟩
    case round =>
      clear p0 p1
      obtain ⟨k, hk, rfl, rfl, hbr⟩ := hrel
      replace D := D.trans (hbr.mono D.size)
      replace TI := TI.below hbr
      replace RI := own_below RI hbr
      replace kN := (hbr.block _ (heap_lt kN)).trans kN
      replace TA := own_below TA hbr
      have hgn := gnN_le (za ++ zb) ac k
      by_cases hlt : k < n + m
      · obtain ⟨b, o, hax, hbo, c0, c1, c2, c3⟩ := (Lst.of_own TA).row4 hlt
        subst hax
        obtain ⟨p0, p1⟩ := cell2 kN
        have hlX := heap_lt kN
        have HGN := Lib.hid (show gnN (za ++ zb) ac (k + 1) = if num (za ++ zb) (k * 4 + 1) = ac then gnN (za ++ zb) ac k + 1 else gnN (za ++ zb) ac k from rfl)
        by_cases he : num (za ++ zb) (k * 4 + 1) = ac
        · have HE := Lib.hid he
          have hga := gn_at hlt he
          rw [HN3.out, HR.out] at hga
          have HL := Lib.hid hga.1
          have HI4 := Lib.hid hga.2.1
          have HI7 := Lib.hid hga.2.2
          replace HGN := Lib.hid (HGN.out.trans (if_pos he))
          have ht : (num (za ++ zb) (k * 4 + 1) == ac) = true := beq_iff_eq.2 he
          clear he hga
          go_upto_region 13 with fail
          refine wp_region_held_drew (S := (fun w' => Below wr.heap.size wr w')) (by kernel_rfl) ?hSm1 (fun hHeld => ?restm1)
          case hSm1 => exact (Below.refl _ _).drew
          refine wpAnyH_take (i := 0) (oi := ?oim2) (v := ?vm2) ?him2 (by kernel_rfl) (by kernel_rfl) (by kernel_rfl) ?hQm2 (Or.inl ⟨?hwm2, ?hym2⟩) (by assumption) ?restm2
          case him2 => simp only [List.getElem?_toArray, List.getElem?_cons_succ, List.getElem?_cons_zero]; exact rfl
          case hQm2 => exact fun _ _ _ h => h
          case hwm2 => rfl
          case hym2 => ((intro w hSw; have t0 := (hSw.cell (p := ⟨X2, 0, none⟩) hlX).trans p0; have t1 := (hSw.cell (p := ⟨X2, 1, none⟩) hlX).trans p1; have t2 := (hSw.cell (p := ⟨b, o + k * 4, none⟩) hbo).trans c0; go_simp) <;> with_reducible rfl)
          try simp only [Act.put, List.setIfInBounds_toArray, List.set_cons_zero, List.set_cons_succ]
          refine wpAnyH_take (i := 1) (oi := ?oim3) (v := ?vm3) ?him3 (by kernel_rfl) (by kernel_rfl) (by kernel_rfl) ?hQm3 (Or.inl ⟨?hwm3, ?hym3⟩) (by assumption) ?restm3
          case him3 => simp only [List.getElem?_toArray, List.getElem?_cons_succ, List.getElem?_cons_zero]; exact rfl
          case hQm3 => exact fun _ _ _ h => h
          case hwm3 => rfl
          case hym3 => ((intro w hSw; (try dsimp only at hSw); go_simp) <;> with_reducible rfl)
          try simp only [Act.put, List.setIfInBounds_toArray, List.set_cons_zero, List.set_cons_succ]
          refine wpAnyH_take (i := 2) (oi := ?oim4) (v := ?vm4) ?him4 (by kernel_rfl) (by kernel_rfl) (by kernel_rfl) ?hQm4 (Or.inl ⟨?hwm4, ?hym4⟩) (by assumption) ?restm4
          case him4 => simp only [List.getElem?_toArray, List.getElem?_cons_succ, List.getElem?_cons_zero]; exact rfl
          case hQm4 => exact fun _ _ _ h => h
          case hwm4 => rfl
          case hym4 => ((intro w hSw; (try dsimp only at hSw); go_simp) <;> with_reducible rfl)
          try simp only [Act.put, List.setIfInBounds_toArray, List.set_cons_zero, List.set_cons_succ]
          refine wpAnyH_take (i := 3) (oi := ?oim5) (v := ?vm5) ?him5 (by kernel_rfl) (by kernel_rfl) (by kernel_rfl) ?hQm5 (Or.inl ⟨?hwm5, ?hym5⟩) (by assumption) ?restm5
          case him5 => simp only [List.getElem?_toArray, List.getElem?_cons_succ, List.getElem?_cons_zero]; exact rfl
          case hQm5 => exact fun _ _ _ h => h
          case hwm5 => rfl
          case hym5 => ((intro w hSw; (try dsimp only at hSw); go_simp) <;> with_reducible rfl)
          try simp only [Act.put, List.setIfInBounds_toArray, List.set_cons_zero, List.set_cons_succ]
          refine wpAnyH_take (i := 4) (oi := ?oim6) (v := ?vm6) ?him6 (by kernel_rfl) (by kernel_rfl) (by kernel_rfl) ?hQm6 (Or.inl ⟨?hwm6, ?hym6⟩) (by assumption) ?restm6
          case him6 => simp only [List.getElem?_toArray, List.getElem?_cons_succ, List.getElem?_cons_zero]; exact rfl
          case hQm6 => exact fun _ _ _ h => h
          case hwm6 => rfl
          case hym6 => ((intro w hSw; (try dsimp only at hSw); go_simp) <;> with_reducible rfl)
          try simp only [Act.put, List.setIfInBounds_toArray, List.set_cons_zero, List.set_cons_succ]
          refine wpAnyH_take (i := 5) (oi := ?oim7) (v := ?vm7) ?him7 (by kernel_rfl) (by kernel_rfl) (by kernel_rfl) ?hQm7 (Or.inl ⟨?hwm7, ?hym7⟩) (by assumption) ?restm7
          case him7 => simp only [List.getElem?_toArray, List.getElem?_cons_succ, List.getElem?_cons_zero]; exact rfl
          case hQm7 => exact fun _ _ _ h => h
          case hwm7 => rfl
          case hym7 => ((intro w hSw; have t0 := (hSw.cell (p := ⟨X2, 0, none⟩) hlX).trans p0; have t1 := (hSw.cell (p := ⟨X2, 1, none⟩) hlX).trans p1; have t2 := (hSw.cell (p := ⟨b, o + k * 4, none⟩) hbo).trans c0; go_simp) <;> with_reducible rfl)
          try simp only [Act.put, List.setIfInBounds_toArray, List.set_cons_zero, List.set_cons_succ]
          refine wpAnyH_ready (rs := [6, 11]) (by kernel_rfl) (by simp) ?_
          refine AllReadyH.cons (o := ?or8_6) ?hor8_6 (fun K hK => ?stepr8_6) (AllReadyH.cons (o := ?or8_11) ?hor8_11 (fun K hK => ?stepr8_11) (AllReadyH.nil))
          case hor8_6 => simp only [List.getElem?_toArray, List.getElem?_cons_succ, List.getElem?_cons_zero]; exact rfl
          case hor8_11 => simp only [List.getElem?_toArray, List.getElem?_cons_succ, List.getElem?_cons_zero]; exact rfl
          case stepr8_6 =>
            go_simp
            have hHv : Below wr.heap.size wr wr.drew := hHeld
            refine (impl_Find BI N1 bI CI N2 cI Z1 Z2 (num (za ++ zb) (k * 4)) _ (Lst.of_own (TI.below hHv).one) (Lst.of_own (TI.below hHv).two) (by omega) (by omega)).mono ?_
            rintro e vc ⟨⟨s4, f4, ok4, hrel4, rfl⟩, hb4⟩
            rw [← HN1.out, ← HN2.out, ← HZ1.out, ← HZ2.out] at hrel4
            have h4 := ca_find hlA HBK.out hlt hrel4
            obtain rfl := h4.1 HE.out
            generalize f4 0 = m0 at *
            generalize f4 1 = m1 at *
            generalize f4 2 = m2 at *
            generalize f4 3 = m3 at *
            clear h4 hrel4
            refine hK.out _ _ ?hSr8_6 (fun hHeld => ?restr8_6)
            case hSr8_6 => exact hHv.trans (hb4.mono hHv.size)
            clear hK K
            try simp only [Act.put, List.setIfInBounds_toArray, List.set_cons_zero, List.set_cons_succ]
            refine wpAnyH_take (i := 7) (oi := ?oim9) (v := ?vm9) ?him9 (by kernel_rfl) (by kernel_rfl) (by kernel_rfl) ?hQm9 (Or.inl ⟨?hwm9, ?hym9⟩) (by assumption) ?restm9
            case him9 => simp only [List.getElem?_toArray, List.getElem?_cons_succ, List.getElem?_cons_zero]; exact rfl
            case hQm9 => exact fun _ _ _ h => h
            case hwm9 => rfl
            case hym9 => ((intro w hSw; (try dsimp only at hSw); go_simp) <;> with_reducible rfl)
            try simp only [Act.put, List.setIfInBounds_toArray, List.set_cons_zero, List.set_cons_succ]
            refine wpAnyH_take (i := 8) (oi := ?oim10) (v := ?vm10) ?him10 (by kernel_rfl) (by kernel_rfl) (by kernel_rfl) ?hQm10 (Or.inl ⟨?hwm10, ?hym10⟩) (by assumption) ?restm10
            case him10 => simp only [List.getElem?_toArray, List.getElem?_cons_succ, List.getElem?_cons_zero]; exact rfl
            case hQm10 => exact fun _ _ _ h => h
            case hwm10 => rfl
            case hym10 => ((intro w hSw; (try dsimp only at hSw); go_simp) <;> with_reducible rfl)
            try simp only [Act.put, List.setIfInBounds_toArray, List.set_cons_zero, List.set_cons_succ]
            refine wpAnyH_take (i := 9) (oi := ?oim11) (v := ?vm11) ?him11 (by kernel_rfl) (by kernel_rfl) (by kernel_rfl) ?hQm11 (Or.inl ⟨?hwm11, ?hym11⟩) (by assumption) ?restm11
            case him11 => simp only [List.getElem?_toArray, List.getElem?_cons_succ, List.getElem?_cons_zero]; exact rfl
            case hQm11 => exact fun _ _ _ h => h
            case hwm11 => rfl
            case hym11 => ((intro w hSw; (try dsimp only at hSw); go_simp) <;> with_reducible rfl)
            try simp only [Act.put, List.setIfInBounds_toArray, List.set_cons_zero, List.set_cons_succ]
            refine wpAnyH_take (i := 10) (oi := ?oim12) (v := ?vm12) ?him12 (by kernel_rfl) (by kernel_rfl) (by kernel_rfl) ?hQm12 (Or.inl ⟨?hwm12, ?hym12⟩) (by assumption) ?restm12
            case him12 => simp only [List.getElem?_toArray, List.getElem?_cons_succ, List.getElem?_cons_zero]; exact rfl
            case hQm12 => exact fun _ _ _ h => h
            case hwm12 => rfl
            case hym12 => ((intro w hSw; (try dsimp only at hSw); go_simp) <;> with_reducible rfl)
            try simp only [Act.put, List.setIfInBounds_toArray, List.set_cons_zero, List.set_cons_succ]
            refine wpAnyH_ready (rs := [11]) (by kernel_rfl) (by simp) ?_
            refine AllReadyH.cons (o := ?or13_11) ?hor13_11 (fun K hK => ?stepr13_11) (AllReadyH.nil)
            case hor13_11 => simp only [List.getElem?_toArray, List.getElem?_cons_succ, List.getElem?_cons_zero]; exact rfl
            case stepr13_11 =>
              go_simp
              have hG := heap_alloc_new vc (.cells #[.int .i64 0, .int .i64 0, .int .i64 0, .int .i64 0] 28)
              have hHv : Below wr.heap.size wr vc := hHeld
              have hGl : wr.heap.size ≤ vc.heap.size := hHv.size
              have hHa := hHv.alloc hHv.size (.cells #[.int .i64 0, .int .i64 0, .int .i64 0, .int .i64 0] 28)
              generalize vc.alloc (.cells #[.int .i64 0, .int .i64 0, .int .i64 0, .int .i64 0] 28) = va at *
              generalize vc.heap.size = G at *
              refine hK.out _ _ ?hSr13_11 (fun hHeld => ?restr13_11)
              case hSr13_11 => exact hHa
              clear hK K
              try simp only [Act.put, List.setIfInBounds_toArray, List.set_cons_zero, List.set_cons_succ]
              refine wpAnyH_take (i := 12) (oi := ?oim14) (v := ?vm14) ?him14 (by kernel_rfl) (by kernel_rfl) (by kernel_rfl) ?hQm14 (Or.inl ⟨?hwm14, ?hym14⟩) (by assumption) ?restm14
              case him14 => simp only [List.getElem?_toArray, List.getElem?_cons_succ, List.getElem?_cons_zero]; exact rfl
              case hQm14 => exact fun _ _ _ h => h
              case hwm14 => rfl
              case hym14 => ((intro w hSw; (try dsimp only at hSw); go_simp) <;> with_reducible rfl)
              try simp only [Act.put, List.setIfInBounds_toArray, List.set_cons_zero, List.set_cons_succ]
              refine wpAnyH_ready (rs := [13]) (by kernel_rfl) (by simp) ?_
              refine AllReadyH.cons (o := ?or15_13) ?hor15_13 (fun K hK => ?stepr15_13) (AllReadyH.nil)
              case hor15_13 => simp only [List.getElem?_toArray, List.getElem?_cons_succ, List.getElem?_cons_zero]; exact rfl
              case stepr15_13 =>
                obtain ⟨y0, y1, y2, y3, x0, x1, x2, x3⟩ := ord_cell hG
                go_simp
                have hHv : Below wr.heap.size wr va := hHeld
                have hG2 := ord_put (u0 := .int .i64 m0) (u1 := .int .i64 m1) (u2 := .int .i64 m2) (u3 := .int .i64 m3) hG
                refine hK.out _ _ ?hSr15_13 (fun hHeld => ?restr15_13)
                case hSr15_13 => exact (((hHv.setCell (p := ⟨G, 0, none⟩) hGl _).setCell (p := ⟨G, 1, none⟩) hGl _).setCell (p := ⟨G, 2, none⟩) hGl _).setCell (p := ⟨G, 3, none⟩) hGl _
                clear hK K
                try simp only [Act.put, List.setIfInBounds_toArray, List.set_cons_zero, List.set_cons_succ]
                refine wpAnyH_take (i := 14) (oi := ?oim16) (v := ?vm16) ?him16 (by kernel_rfl) (by kernel_rfl) (by kernel_rfl) ?hQm16 (Or.inl ⟨?hwm16, ?hym16⟩) (by assumption) ?restm16
                case him16 => simp only [List.getElem?_toArray, List.getElem?_cons_succ, List.getElem?_cons_zero]; exact rfl
                case hQm16 => exact fun _ _ _ h => h
                case hwm16 => rfl
                case hym16 => ((intro w hSw; (try dsimp only at hSw); go_simp) <;> with_reducible rfl)
                try simp only [Act.put, List.setIfInBounds_toArray, List.set_cons_zero, List.set_cons_succ]
                refine wpAnyH_done (by kernel_rfl) ?_ _
                go_upto_region 14 with fail
                have hHz : Below wr.heap.size wr (((((va.setCell ⟨G, 0, none⟩ (.int .i64 m0)).setCell ⟨G, 1, none⟩ (.int .i64 m1)).setCell ⟨G, 2, none⟩ (.int .i64 m2))).setCell ⟨G, 3, none⟩ (.int .i64 m3)) := hHeld
                clear hHeld y0 y1 y2 y3 x0 x1 x2 x3 hG
                generalize (((((va.setCell ⟨G, 0, none⟩ (.int .i64 m0)).setCell ⟨G, 1, none⟩ (.int .i64 m1)).setCell ⟨G, 2, none⟩ (.int .i64 m2))).setCell ⟨G, 3, none⟩ (.int .i64 m3)) = wz at *
                obtain ⟨y0, y1, y2, y3, -⟩ := ord_cell hG2
                have HBV := Lib.hid (show Below wq2.heap.size wq2 wz from hbr.trans (hHz.mono hbr.size))
                replace c0 := (hHz.cell (p := ⟨b, o + k * 4, none⟩) hbo).trans c0
                replace c1 := (hHz.cell (p := ⟨b, o + k * 4 + 1, none⟩) hbo).trans c1
                replace c2 := (hHz.cell (p := ⟨b, o + k * 4 + 2, none⟩) hbo).trans c2
                replace c3 := (hHz.cell (p := ⟨b, o + k * 4 + 3, none⟩) hbo).trans c3
                replace RI := own_below RI hHz
                obtain ⟨bb, oo, hax2, hbo2, -, -, -, -, d4, -, -, d7⟩ := (Lst.of_own RI).row8 (k := gnN (za ++ zb) ac k) HL.out
                subst hax2
                rw [HI4.out] at d4
                rw [HI7.out] at d7
                clear hHz hG2 hbr p0 p1
                go_region
                all_goals have hgl : ¬ ((gnN (za ++ zb) ac k : Nat) : Int) = (N3 : Int) := by have := HL.out; omega
                all_goals have hgl2 : (((gnN (za ++ zb) ac k : Nat) : Int) == (N3 : Int)) = false := beq_eq_false_iff_ne.2 hgl
                all_goals have hgl3 : ((gnN (za ++ zb) ac k : Nat) : Int) < (N3 : Int) := by have := HL.out; omega
                all_goals have hn1' : (num (za ++ zb) (k * 4) != num (za ++ zb) (k * 4)) = false := by simp
                all_goals have hn2' : (num (za ++ zb) (k * 4 + 3) != num (za ++ zb) (k * 4 + 3)) = false := by simp
                all_goals go_upto_region 17 with fail
                all_goals go_region
                all_goals go_wp2_with fail
                all_goals go_roundw
                case rel => exact ⟨k + 1, by omega, by go_num, by rw [HGN.out]; go_num, HBV.out.drew.drew⟩
                case measure => simp [intOf]; omega
          case stepr8_11 =>
            go_simp
            have hG : (wr.alloc (.cells #[.int .i64 0, .int .i64 0, .int .i64 0, .int .i64 0] 28)).drew.heap[wr.heap.size]? = _ := heap_alloc_new wr (.cells #[.int .i64 0, .int .i64 0, .int .i64 0, .int .i64 0] 28)
            have hGl : wr.heap.size ≤ wr.heap.size := Nat.le_refl _
            have hHa : Below wr.heap.size wr (wr.alloc (.cells #[.int .i64 0, .int .i64 0, .int .i64 0, .int .i64 0] 28)).drew := ((Below.refl _ _).alloc (Nat.le_refl _) (.cells #[.int .i64 0, .int .i64 0, .int .i64 0, .int .i64 0] 28)).drew
            generalize (wr.alloc (.cells #[.int .i64 0, .int .i64 0, .int .i64 0, .int .i64 0] 28)).drew = va at *
            refine hK.out _ _ ?hSr8_11 (fun hHeld => ?restr8_11)
            case hSr8_11 => exact hHa
            clear hK K
            try simp only [Act.put, List.setIfInBounds_toArray, List.set_cons_zero, List.set_cons_succ]
            refine wpAnyH_ready (rs := [6]) (by kernel_rfl) (by simp) ?_
            refine AllReadyH.cons (o := ?or17_6) ?hor17_6 (fun K hK => ?stepr17_6) (AllReadyH.nil)
            case hor17_6 => simp only [List.getElem?_toArray, List.getElem?_cons_succ, List.getElem?_cons_zero]; exact rfl
            case stepr17_6 =>
              go_simp
              have hHv : Below wr.heap.size wr va := hHeld
              refine (impl_Find BI N1 bI CI N2 cI Z1 Z2 (num (za ++ zb) (k * 4)) _ (Lst.of_own (TI.below hHv).one) (Lst.of_own (TI.below hHv).two) (by omega) (by omega)).mono ?_
              rintro e vc ⟨⟨s4, f4, ok4, hrel4, rfl⟩, hb4⟩
              rw [← HN1.out, ← HN2.out, ← HZ1.out, ← HZ2.out] at hrel4
              have h4 := ca_find hlA HBK.out hlt hrel4
              obtain rfl := h4.1 HE.out
              generalize f4 0 = m0 at *
              generalize f4 1 = m1 at *
              generalize f4 2 = m2 at *
              generalize f4 3 = m3 at *
              replace hG := (hb4.block _ (heap_lt hG)).trans hG
              clear h4 hrel4
              refine hK.out _ _ ?hSr17_6 (fun hHeld => ?restr17_6)
              case hSr17_6 => exact hHv.trans (hb4.mono hHv.size)
              clear hK K
              try simp only [Act.put, List.setIfInBounds_toArray, List.set_cons_zero, List.set_cons_succ]
              refine wpAnyH_take (i := 7) (oi := ?oim18) (v := ?vm18) ?him18 (by kernel_rfl) (by kernel_rfl) (by kernel_rfl) ?hQm18 (Or.inl ⟨?hwm18, ?hym18⟩) (by assumption) ?restm18
              case him18 => simp only [List.getElem?_toArray, List.getElem?_cons_succ, List.getElem?_cons_zero]; exact rfl
              case hQm18 => exact fun _ _ _ h => h
              case hwm18 => rfl
              case hym18 => ((intro w hSw; (try dsimp only at hSw); go_simp) <;> with_reducible rfl)
              try simp only [Act.put, List.setIfInBounds_toArray, List.set_cons_zero, List.set_cons_succ]
              refine wpAnyH_take (i := 8) (oi := ?oim19) (v := ?vm19) ?him19 (by kernel_rfl) (by kernel_rfl) (by kernel_rfl) ?hQm19 (Or.inl ⟨?hwm19, ?hym19⟩) (by assumption) ?restm19
              case him19 => simp only [List.getElem?_toArray, List.getElem?_cons_succ, List.getElem?_cons_zero]; exact rfl
              case hQm19 => exact fun _ _ _ h => h
              case hwm19 => rfl
              case hym19 => ((intro w hSw; (try dsimp only at hSw); go_simp) <;> with_reducible rfl)
              try simp only [Act.put, List.setIfInBounds_toArray, List.set_cons_zero, List.set_cons_succ]
              refine wpAnyH_take (i := 9) (oi := ?oim20) (v := ?vm20) ?him20 (by kernel_rfl) (by kernel_rfl) (by kernel_rfl) ?hQm20 (Or.inl ⟨?hwm20, ?hym20⟩) (by assumption) ?restm20
              case him20 => simp only [List.getElem?_toArray, List.getElem?_cons_succ, List.getElem?_cons_zero]; exact rfl
              case hQm20 => exact fun _ _ _ h => h
              case hwm20 => rfl
              case hym20 => ((intro w hSw; (try dsimp only at hSw); go_simp) <;> with_reducible rfl)
              try simp only [Act.put, List.setIfInBounds_toArray, List.set_cons_zero, List.set_cons_succ]
              refine wpAnyH_take (i := 10) (oi := ?oim21) (v := ?vm21) ?him21 (by kernel_rfl) (by kernel_rfl) (by kernel_rfl) ?hQm21 (Or.inl ⟨?hwm21, ?hym21⟩) (by assumption) ?restm21
              case him21 => simp only [List.getElem?_toArray, List.getElem?_cons_succ, List.getElem?_cons_zero]; exact rfl
              case hQm21 => exact fun _ _ _ h => h
              case hwm21 => rfl
              case hym21 => ((intro w hSw; (try dsimp only at hSw); go_simp) <;> with_reducible rfl)
              try simp only [Act.put, List.setIfInBounds_toArray, List.set_cons_zero, List.set_cons_succ]
              refine wpAnyH_take (i := 12) (oi := ?oim22) (v := ?vm22) ?him22 (by kernel_rfl) (by kernel_rfl) (by kernel_rfl) ?hQm22 (Or.inl ⟨?hwm22, ?hym22⟩) (by assumption) ?restm22
              case him22 => simp only [List.getElem?_toArray, List.getElem?_cons_succ, List.getElem?_cons_zero]; exact rfl
              case hQm22 => exact fun _ _ _ h => h
              case hwm22 => rfl
              case hym22 => ((intro w hSw; (try dsimp only at hSw); go_simp) <;> with_reducible rfl)
              try simp only [Act.put, List.setIfInBounds_toArray, List.set_cons_zero, List.set_cons_succ]
              refine wpAnyH_ready (rs := [13]) (by kernel_rfl) (by simp) ?_
              refine AllReadyH.cons (o := ?or23_13) ?hor23_13 (fun K hK => ?stepr23_13) (AllReadyH.nil)
              case hor23_13 => simp only [List.getElem?_toArray, List.getElem?_cons_succ, List.getElem?_cons_zero]; exact rfl
              case stepr23_13 =>
                obtain ⟨y0, y1, y2, y3, x0, x1, x2, x3⟩ := ord_cell hG
                go_simp
                have hHv : Below wr.heap.size wr vc := hHeld
                have hG2 := ord_put (u0 := .int .i64 m0) (u1 := .int .i64 m1) (u2 := .int .i64 m2) (u3 := .int .i64 m3) hG
                refine hK.out _ _ ?hSr23_13 (fun hHeld => ?restr23_13)
                case hSr23_13 => exact (((hHv.setCell (p := ⟨wr.heap.size, 0, none⟩) hGl _).setCell (p := ⟨wr.heap.size, 1, none⟩) hGl _).setCell (p := ⟨wr.heap.size, 2, none⟩) hGl _).setCell (p := ⟨wr.heap.size, 3, none⟩) hGl _
                clear hK K
                try simp only [Act.put, List.setIfInBounds_toArray, List.set_cons_zero, List.set_cons_succ]
                refine wpAnyH_take (i := 14) (oi := ?oim24) (v := ?vm24) ?him24 (by kernel_rfl) (by kernel_rfl) (by kernel_rfl) ?hQm24 (Or.inl ⟨?hwm24, ?hym24⟩) (by assumption) ?restm24
                case him24 => simp only [List.getElem?_toArray, List.getElem?_cons_succ, List.getElem?_cons_zero]; exact rfl
                case hQm24 => exact fun _ _ _ h => h
                case hwm24 => rfl
                case hym24 => ((intro w hSw; (try dsimp only at hSw); go_simp) <;> with_reducible rfl)
                try simp only [Act.put, List.setIfInBounds_toArray, List.set_cons_zero, List.set_cons_succ]
                refine wpAnyH_done (by kernel_rfl) ?_ _
                go_upto_region 14 with fail
                have hHz : Below wr.heap.size wr (((((vc.setCell ⟨wr.heap.size, 0, none⟩ (.int .i64 m0)).setCell ⟨wr.heap.size, 1, none⟩ (.int .i64 m1)).setCell ⟨wr.heap.size, 2, none⟩ (.int .i64 m2))).setCell ⟨wr.heap.size, 3, none⟩ (.int .i64 m3)) := hHeld
                clear hHeld y0 y1 y2 y3 x0 x1 x2 x3 hG
                generalize (((((vc.setCell ⟨wr.heap.size, 0, none⟩ (.int .i64 m0)).setCell ⟨wr.heap.size, 1, none⟩ (.int .i64 m1)).setCell ⟨wr.heap.size, 2, none⟩ (.int .i64 m2))).setCell ⟨wr.heap.size, 3, none⟩ (.int .i64 m3)) = wz at *
                obtain ⟨y0, y1, y2, y3, -⟩ := ord_cell hG2
                have HBV := Lib.hid (show Below wq2.heap.size wq2 wz from hbr.trans (hHz.mono hbr.size))
                replace c0 := (hHz.cell (p := ⟨b, o + k * 4, none⟩) hbo).trans c0
                replace c1 := (hHz.cell (p := ⟨b, o + k * 4 + 1, none⟩) hbo).trans c1
                replace c2 := (hHz.cell (p := ⟨b, o + k * 4 + 2, none⟩) hbo).trans c2
                replace c3 := (hHz.cell (p := ⟨b, o + k * 4 + 3, none⟩) hbo).trans c3
                replace RI := own_below RI hHz
                obtain ⟨bb, oo, hax2, hbo2, -, -, -, -, d4, -, -, d7⟩ := (Lst.of_own RI).row8 (k := gnN (za ++ zb) ac k) HL.out
                subst hax2
                rw [HI4.out] at d4
                rw [HI7.out] at d7
                clear hHz hG2 hbr p0 p1
                go_region
                all_goals have hgl : ¬ ((gnN (za ++ zb) ac k : Nat) : Int) = (N3 : Int) := by have := HL.out; omega
                all_goals have hgl2 : (((gnN (za ++ zb) ac k : Nat) : Int) == (N3 : Int)) = false := beq_eq_false_iff_ne.2 hgl
                all_goals have hgl3 : ((gnN (za ++ zb) ac k : Nat) : Int) < (N3 : Int) := by have := HL.out; omega
                all_goals have hn1' : (num (za ++ zb) (k * 4) != num (za ++ zb) (k * 4)) = false := by simp
                all_goals have hn2' : (num (za ++ zb) (k * 4 + 3) != num (za ++ zb) (k * 4 + 3)) = false := by simp
                all_goals go_upto_region 17 with fail
                all_goals go_region
                all_goals go_wp2_with fail
                all_goals go_roundw
                case rel => exact ⟨k + 1, by omega, by go_num, by rw [HGN.out]; go_num, HBV.out.drew.drew⟩
                case measure => simp [intOf]; omega
        · have HE := Lib.hid he
          replace HGN := Lib.hid (HGN.out.trans (if_neg he))
          have ht : (num (za ++ zb) (k * 4 + 1) == ac) = false := beq_eq_false_iff_ne.2 he
          clear he
          go_upto_region 13 with fail
          refine wp_region_held_drew (S := (fun w' => Below wr.heap.size wr w')) (by kernel_rfl) ?hSm25 (fun hHeld => ?restm25)
          case hSm25 => exact (Below.refl _ _).drew
          refine wpAnyH_take (i := 0) (oi := ?oim26) (v := ?vm26) ?him26 (by kernel_rfl) (by kernel_rfl) (by kernel_rfl) ?hQm26 (Or.inl ⟨?hwm26, ?hym26⟩) (by assumption) ?restm26
          case him26 => simp only [List.getElem?_toArray, List.getElem?_cons_succ, List.getElem?_cons_zero]; exact rfl
          case hQm26 => exact fun _ _ _ h => h
          case hwm26 => rfl
          case hym26 => ((intro w hSw; have t0 := (hSw.cell (p := ⟨X2, 0, none⟩) hlX).trans p0; have t1 := (hSw.cell (p := ⟨X2, 1, none⟩) hlX).trans p1; have t2 := (hSw.cell (p := ⟨b, o + k * 4, none⟩) hbo).trans c0; go_simp) <;> with_reducible rfl)
          try simp only [Act.put, List.setIfInBounds_toArray, List.set_cons_zero, List.set_cons_succ]
          refine wpAnyH_take (i := 1) (oi := ?oim27) (v := ?vm27) ?him27 (by kernel_rfl) (by kernel_rfl) (by kernel_rfl) ?hQm27 (Or.inl ⟨?hwm27, ?hym27⟩) (by assumption) ?restm27
          case him27 => simp only [List.getElem?_toArray, List.getElem?_cons_succ, List.getElem?_cons_zero]; exact rfl
          case hQm27 => exact fun _ _ _ h => h
          case hwm27 => rfl
          case hym27 => ((intro w hSw; (try dsimp only at hSw); go_simp) <;> with_reducible rfl)
          try simp only [Act.put, List.setIfInBounds_toArray, List.set_cons_zero, List.set_cons_succ]
          refine wpAnyH_take (i := 2) (oi := ?oim28) (v := ?vm28) ?him28 (by kernel_rfl) (by kernel_rfl) (by kernel_rfl) ?hQm28 (Or.inl ⟨?hwm28, ?hym28⟩) (by assumption) ?restm28
          case him28 => simp only [List.getElem?_toArray, List.getElem?_cons_succ, List.getElem?_cons_zero]; exact rfl
          case hQm28 => exact fun _ _ _ h => h
          case hwm28 => rfl
          case hym28 => ((intro w hSw; (try dsimp only at hSw); go_simp) <;> with_reducible rfl)
          try simp only [Act.put, List.setIfInBounds_toArray, List.set_cons_zero, List.set_cons_succ]
          refine wpAnyH_take (i := 3) (oi := ?oim29) (v := ?vm29) ?him29 (by kernel_rfl) (by kernel_rfl) (by kernel_rfl) ?hQm29 (Or.inl ⟨?hwm29, ?hym29⟩) (by assumption) ?restm29
          case him29 => simp only [List.getElem?_toArray, List.getElem?_cons_succ, List.getElem?_cons_zero]; exact rfl
          case hQm29 => exact fun _ _ _ h => h
          case hwm29 => rfl
          case hym29 => ((intro w hSw; (try dsimp only at hSw); go_simp) <;> with_reducible rfl)
          try simp only [Act.put, List.setIfInBounds_toArray, List.set_cons_zero, List.set_cons_succ]
          refine wpAnyH_take (i := 4) (oi := ?oim30) (v := ?vm30) ?him30 (by kernel_rfl) (by kernel_rfl) (by kernel_rfl) ?hQm30 (Or.inl ⟨?hwm30, ?hym30⟩) (by assumption) ?restm30
          case him30 => simp only [List.getElem?_toArray, List.getElem?_cons_succ, List.getElem?_cons_zero]; exact rfl
          case hQm30 => exact fun _ _ _ h => h
          case hwm30 => rfl
          case hym30 => ((intro w hSw; (try dsimp only at hSw); go_simp) <;> with_reducible rfl)
          try simp only [Act.put, List.setIfInBounds_toArray, List.set_cons_zero, List.set_cons_succ]
          refine wpAnyH_take (i := 5) (oi := ?oim31) (v := ?vm31) ?him31 (by kernel_rfl) (by kernel_rfl) (by kernel_rfl) ?hQm31 (Or.inl ⟨?hwm31, ?hym31⟩) (by assumption) ?restm31
          case him31 => simp only [List.getElem?_toArray, List.getElem?_cons_succ, List.getElem?_cons_zero]; exact rfl
          case hQm31 => exact fun _ _ _ h => h
          case hwm31 => rfl
          case hym31 => ((intro w hSw; have t0 := (hSw.cell (p := ⟨X2, 0, none⟩) hlX).trans p0; have t1 := (hSw.cell (p := ⟨X2, 1, none⟩) hlX).trans p1; have t2 := (hSw.cell (p := ⟨b, o + k * 4, none⟩) hbo).trans c0; go_simp) <;> with_reducible rfl)
          try simp only [Act.put, List.setIfInBounds_toArray, List.set_cons_zero, List.set_cons_succ]
          refine wpAnyH_ready (rs := [6, 11]) (by kernel_rfl) (by simp) ?_
          refine AllReadyH.cons (o := ?or32_6) ?hor32_6 (fun K hK => ?stepr32_6) (AllReadyH.cons (o := ?or32_11) ?hor32_11 (fun K hK => ?stepr32_11) (AllReadyH.nil))
          case hor32_6 => simp only [List.getElem?_toArray, List.getElem?_cons_succ, List.getElem?_cons_zero]; exact rfl
          case hor32_11 => simp only [List.getElem?_toArray, List.getElem?_cons_succ, List.getElem?_cons_zero]; exact rfl
          case stepr32_6 =>
            go_simp
            have hHv : Below wr.heap.size wr wr.drew := hHeld
            refine (impl_Find BI N1 bI CI N2 cI Z1 Z2 (num (za ++ zb) (k * 4)) _ (Lst.of_own (TI.below hHv).one) (Lst.of_own (TI.below hHv).two) (by omega) (by omega)).mono ?_
            rintro e vc ⟨⟨s4, f4, ok4, hrel4, rfl⟩, hb4⟩
            rw [← HN1.out, ← HN2.out, ← HZ1.out, ← HZ2.out] at hrel4
            have h4 := ca_find hlA HBK.out hlt hrel4
            obtain ⟨rfl, hf4⟩ := h4.2 HE.out
            have z0 := hf4 0 (by omega)
            have z1 := hf4 1 (by omega)
            have z2 := hf4 2 (by omega)
            have z3 := hf4 3 (by omega)
            simp only [Nat.add_zero] at z0
            clear hf4
            generalize f4 0 = m0 at *
            generalize f4 1 = m1 at *
            generalize f4 2 = m2 at *
            generalize f4 3 = m3 at *
            subst z0 z1 z2 z3
            clear h4 hrel4
            refine hK.out _ _ ?hSr32_6 (fun hHeld => ?restr32_6)
            case hSr32_6 => exact hHv.trans (hb4.mono hHv.size)
            clear hK K
            try simp only [Act.put, List.setIfInBounds_toArray, List.set_cons_zero, List.set_cons_succ]
            refine wpAnyH_take (i := 7) (oi := ?oim33) (v := ?vm33) ?him33 (by kernel_rfl) (by kernel_rfl) (by kernel_rfl) ?hQm33 (Or.inl ⟨?hwm33, ?hym33⟩) (by assumption) ?restm33
            case him33 => simp only [List.getElem?_toArray, List.getElem?_cons_succ, List.getElem?_cons_zero]; exact rfl
            case hQm33 => exact fun _ _ _ h => h
            case hwm33 => rfl
            case hym33 => ((intro w hSw; (try dsimp only at hSw); go_simp) <;> with_reducible rfl)
            try simp only [Act.put, List.setIfInBounds_toArray, List.set_cons_zero, List.set_cons_succ]
            refine wpAnyH_take (i := 8) (oi := ?oim34) (v := ?vm34) ?him34 (by kernel_rfl) (by kernel_rfl) (by kernel_rfl) ?hQm34 (Or.inl ⟨?hwm34, ?hym34⟩) (by assumption) ?restm34
            case him34 => simp only [List.getElem?_toArray, List.getElem?_cons_succ, List.getElem?_cons_zero]; exact rfl
            case hQm34 => exact fun _ _ _ h => h
            case hwm34 => rfl
            case hym34 => ((intro w hSw; (try dsimp only at hSw); go_simp) <;> with_reducible rfl)
            try simp only [Act.put, List.setIfInBounds_toArray, List.set_cons_zero, List.set_cons_succ]
            refine wpAnyH_take (i := 9) (oi := ?oim35) (v := ?vm35) ?him35 (by kernel_rfl) (by kernel_rfl) (by kernel_rfl) ?hQm35 (Or.inl ⟨?hwm35, ?hym35⟩) (by assumption) ?restm35
            case him35 => simp only [List.getElem?_toArray, List.getElem?_cons_succ, List.getElem?_cons_zero]; exact rfl
            case hQm35 => exact fun _ _ _ h => h
            case hwm35 => rfl
            case hym35 => ((intro w hSw; (try dsimp only at hSw); go_simp) <;> with_reducible rfl)
            try simp only [Act.put, List.setIfInBounds_toArray, List.set_cons_zero, List.set_cons_succ]
            refine wpAnyH_take (i := 10) (oi := ?oim36) (v := ?vm36) ?him36 (by kernel_rfl) (by kernel_rfl) (by kernel_rfl) ?hQm36 (Or.inl ⟨?hwm36, ?hym36⟩) (by assumption) ?restm36
            case him36 => simp only [List.getElem?_toArray, List.getElem?_cons_succ, List.getElem?_cons_zero]; exact rfl
            case hQm36 => exact fun _ _ _ h => h
            case hwm36 => rfl
            case hym36 => ((intro w hSw; (try dsimp only at hSw); go_simp) <;> with_reducible rfl)
            try simp only [Act.put, List.setIfInBounds_toArray, List.set_cons_zero, List.set_cons_succ]
            refine wpAnyH_ready (rs := [11]) (by kernel_rfl) (by simp) ?_
            refine AllReadyH.cons (o := ?or37_11) ?hor37_11 (fun K hK => ?stepr37_11) (AllReadyH.nil)
            case hor37_11 => simp only [List.getElem?_toArray, List.getElem?_cons_succ, List.getElem?_cons_zero]; exact rfl
            case stepr37_11 =>
              go_simp
              have hG := heap_alloc_new vc (.cells #[.int .i64 0, .int .i64 0, .int .i64 0, .int .i64 0] 28)
              have hHv : Below wr.heap.size wr vc := hHeld
              have hGl : wr.heap.size ≤ vc.heap.size := hHv.size
              have hHa := hHv.alloc hHv.size (.cells #[.int .i64 0, .int .i64 0, .int .i64 0, .int .i64 0] 28)
              generalize vc.alloc (.cells #[.int .i64 0, .int .i64 0, .int .i64 0, .int .i64 0] 28) = va at *
              generalize vc.heap.size = G at *
              refine hK.out _ _ ?hSr37_11 (fun hHeld => ?restr37_11)
              case hSr37_11 => exact hHa
              clear hK K
              try simp only [Act.put, List.setIfInBounds_toArray, List.set_cons_zero, List.set_cons_succ]
              refine wpAnyH_take (i := 12) (oi := ?oim38) (v := ?vm38) ?him38 (by kernel_rfl) (by kernel_rfl) (by kernel_rfl) ?hQm38 (Or.inl ⟨?hwm38, ?hym38⟩) (by assumption) ?restm38
              case him38 => simp only [List.getElem?_toArray, List.getElem?_cons_succ, List.getElem?_cons_zero]; exact rfl
              case hQm38 => exact fun _ _ _ h => h
              case hwm38 => rfl
              case hym38 => ((intro w hSw; (try dsimp only at hSw); go_simp) <;> with_reducible rfl)
              try simp only [Act.put, List.setIfInBounds_toArray, List.set_cons_zero, List.set_cons_succ]
              refine wpAnyH_ready (rs := [13]) (by kernel_rfl) (by simp) ?_
              refine AllReadyH.cons (o := ?or39_13) ?hor39_13 (fun K hK => ?stepr39_13) (AllReadyH.nil)
              case hor39_13 => simp only [List.getElem?_toArray, List.getElem?_cons_succ, List.getElem?_cons_zero]; exact rfl
              case stepr39_13 =>
                obtain ⟨y0, y1, y2, y3, x0, x1, x2, x3⟩ := ord_cell hG
                go_simp
                have hHv : Below wr.heap.size wr va := hHeld
                have hG2 := ord_put (u0 := .int .i64 (num (za ++ zb) (k * 4))) (u1 := .int .i64 (num (za ++ zb) (k * 4 + 1))) (u2 := .int .i64 (num (za ++ zb) (k * 4 + 2))) (u3 := .int .i64 (num (za ++ zb) (k * 4 + 3))) hG
                refine hK.out _ _ ?hSr39_13 (fun hHeld => ?restr39_13)
                case hSr39_13 => exact (((hHv.setCell (p := ⟨G, 0, none⟩) hGl _).setCell (p := ⟨G, 1, none⟩) hGl _).setCell (p := ⟨G, 2, none⟩) hGl _).setCell (p := ⟨G, 3, none⟩) hGl _
                clear hK K
                try simp only [Act.put, List.setIfInBounds_toArray, List.set_cons_zero, List.set_cons_succ]
                refine wpAnyH_take (i := 14) (oi := ?oim40) (v := ?vm40) ?him40 (by kernel_rfl) (by kernel_rfl) (by kernel_rfl) ?hQm40 (Or.inl ⟨?hwm40, ?hym40⟩) (by assumption) ?restm40
                case him40 => simp only [List.getElem?_toArray, List.getElem?_cons_succ, List.getElem?_cons_zero]; exact rfl
                case hQm40 => exact fun _ _ _ h => h
                case hwm40 => rfl
                case hym40 => ((intro w hSw; (try dsimp only at hSw); go_simp) <;> with_reducible rfl)
                try simp only [Act.put, List.setIfInBounds_toArray, List.set_cons_zero, List.set_cons_succ]
                refine wpAnyH_done (by kernel_rfl) ?_ _
                go_upto_region 14 with fail
                have hHz : Below wr.heap.size wr (((((va.setCell ⟨G, 0, none⟩ (.int .i64 (num (za ++ zb) (k * 4)))).setCell ⟨G, 1, none⟩ (.int .i64 (num (za ++ zb) (k * 4 + 1)))).setCell ⟨G, 2, none⟩ (.int .i64 (num (za ++ zb) (k * 4 + 2))))).setCell ⟨G, 3, none⟩ (.int .i64 (num (za ++ zb) (k * 4 + 3)))) := hHeld
                clear hHeld y0 y1 y2 y3 x0 x1 x2 x3 hG
                generalize (((((va.setCell ⟨G, 0, none⟩ (.int .i64 (num (za ++ zb) (k * 4)))).setCell ⟨G, 1, none⟩ (.int .i64 (num (za ++ zb) (k * 4 + 1)))).setCell ⟨G, 2, none⟩ (.int .i64 (num (za ++ zb) (k * 4 + 2))))).setCell ⟨G, 3, none⟩ (.int .i64 (num (za ++ zb) (k * 4 + 3)))) = wz at *
                obtain ⟨y0, y1, y2, y3, -⟩ := ord_cell hG2
                have HBV := Lib.hid (show Below wq2.heap.size wq2 wz from hbr.trans (hHz.mono hbr.size))
                replace c0 := (hHz.cell (p := ⟨b, o + k * 4, none⟩) hbo).trans c0
                replace c1 := (hHz.cell (p := ⟨b, o + k * 4 + 1, none⟩) hbo).trans c1
                replace c2 := (hHz.cell (p := ⟨b, o + k * 4 + 2, none⟩) hbo).trans c2
                replace c3 := (hHz.cell (p := ⟨b, o + k * 4 + 3, none⟩) hbo).trans c3
                clear hHz hG2 hbr p0 p1
                go_region
                all_goals go_wp2_with fail
                all_goals go_roundw
                case rel => exact ⟨k + 1, by omega, by go_num, by rw [HGN.out], HBV.out.drew⟩
                case measure => simp [intOf]; omega
          case stepr32_11 =>
            go_simp
            have hG : (wr.alloc (.cells #[.int .i64 0, .int .i64 0, .int .i64 0, .int .i64 0] 28)).drew.heap[wr.heap.size]? = _ := heap_alloc_new wr (.cells #[.int .i64 0, .int .i64 0, .int .i64 0, .int .i64 0] 28)
            have hGl : wr.heap.size ≤ wr.heap.size := Nat.le_refl _
            have hHa : Below wr.heap.size wr (wr.alloc (.cells #[.int .i64 0, .int .i64 0, .int .i64 0, .int .i64 0] 28)).drew := ((Below.refl _ _).alloc (Nat.le_refl _) (.cells #[.int .i64 0, .int .i64 0, .int .i64 0, .int .i64 0] 28)).drew
            generalize (wr.alloc (.cells #[.int .i64 0, .int .i64 0, .int .i64 0, .int .i64 0] 28)).drew = va at *
            refine hK.out _ _ ?hSr32_11 (fun hHeld => ?restr32_11)
            case hSr32_11 => exact hHa
            clear hK K
            try simp only [Act.put, List.setIfInBounds_toArray, List.set_cons_zero, List.set_cons_succ]
            refine wpAnyH_ready (rs := [6]) (by kernel_rfl) (by simp) ?_
            refine AllReadyH.cons (o := ?or41_6) ?hor41_6 (fun K hK => ?stepr41_6) (AllReadyH.nil)
            case hor41_6 => simp only [List.getElem?_toArray, List.getElem?_cons_succ, List.getElem?_cons_zero]; exact rfl
            case stepr41_6 =>
              go_simp
              have hHv : Below wr.heap.size wr va := hHeld
              refine (impl_Find BI N1 bI CI N2 cI Z1 Z2 (num (za ++ zb) (k * 4)) _ (Lst.of_own (TI.below hHv).one) (Lst.of_own (TI.below hHv).two) (by omega) (by omega)).mono ?_
              rintro e vc ⟨⟨s4, f4, ok4, hrel4, rfl⟩, hb4⟩
              rw [← HN1.out, ← HN2.out, ← HZ1.out, ← HZ2.out] at hrel4
              have h4 := ca_find hlA HBK.out hlt hrel4
              obtain ⟨rfl, hf4⟩ := h4.2 HE.out
              have z0 := hf4 0 (by omega)
              have z1 := hf4 1 (by omega)
              have z2 := hf4 2 (by omega)
              have z3 := hf4 3 (by omega)
              simp only [Nat.add_zero] at z0
              clear hf4
              generalize f4 0 = m0 at *
              generalize f4 1 = m1 at *
              generalize f4 2 = m2 at *
              generalize f4 3 = m3 at *
              subst z0 z1 z2 z3
              replace hG := (hb4.block _ (heap_lt hG)).trans hG
              clear h4 hrel4
              refine hK.out _ _ ?hSr41_6 (fun hHeld => ?restr41_6)
              case hSr41_6 => exact hHv.trans (hb4.mono hHv.size)
              clear hK K
              try simp only [Act.put, List.setIfInBounds_toArray, List.set_cons_zero, List.set_cons_succ]
              refine wpAnyH_take (i := 7) (oi := ?oim42) (v := ?vm42) ?him42 (by kernel_rfl) (by kernel_rfl) (by kernel_rfl) ?hQm42 (Or.inl ⟨?hwm42, ?hym42⟩) (by assumption) ?restm42
              case him42 => simp only [List.getElem?_toArray, List.getElem?_cons_succ, List.getElem?_cons_zero]; exact rfl
              case hQm42 => exact fun _ _ _ h => h
              case hwm42 => rfl
              case hym42 => ((intro w hSw; (try dsimp only at hSw); go_simp) <;> with_reducible rfl)
              try simp only [Act.put, List.setIfInBounds_toArray, List.set_cons_zero, List.set_cons_succ]
              refine wpAnyH_take (i := 8) (oi := ?oim43) (v := ?vm43) ?him43 (by kernel_rfl) (by kernel_rfl) (by kernel_rfl) ?hQm43 (Or.inl ⟨?hwm43, ?hym43⟩) (by assumption) ?restm43
              case him43 => simp only [List.getElem?_toArray, List.getElem?_cons_succ, List.getElem?_cons_zero]; exact rfl
              case hQm43 => exact fun _ _ _ h => h
              case hwm43 => rfl
              case hym43 => ((intro w hSw; (try dsimp only at hSw); go_simp) <;> with_reducible rfl)
              try simp only [Act.put, List.setIfInBounds_toArray, List.set_cons_zero, List.set_cons_succ]
              refine wpAnyH_take (i := 9) (oi := ?oim44) (v := ?vm44) ?him44 (by kernel_rfl) (by kernel_rfl) (by kernel_rfl) ?hQm44 (Or.inl ⟨?hwm44, ?hym44⟩) (by assumption) ?restm44
              case him44 => simp only [List.getElem?_toArray, List.getElem?_cons_succ, List.getElem?_cons_zero]; exact rfl
              case hQm44 => exact fun _ _ _ h => h
              case hwm44 => rfl
              case hym44 => ((intro w hSw; (try dsimp only at hSw); go_simp) <;> with_reducible rfl)
              try simp only [Act.put, List.setIfInBounds_toArray, List.set_cons_zero, List.set_cons_succ]
              refine wpAnyH_take (i := 10) (oi := ?oim45) (v := ?vm45) ?him45 (by kernel_rfl) (by kernel_rfl) (by kernel_rfl) ?hQm45 (Or.inl ⟨?hwm45, ?hym45⟩) (by assumption) ?restm45
              case him45 => simp only [List.getElem?_toArray, List.getElem?_cons_succ, List.getElem?_cons_zero]; exact rfl
              case hQm45 => exact fun _ _ _ h => h
              case hwm45 => rfl
              case hym45 => ((intro w hSw; (try dsimp only at hSw); go_simp) <;> with_reducible rfl)
              try simp only [Act.put, List.setIfInBounds_toArray, List.set_cons_zero, List.set_cons_succ]
              refine wpAnyH_take (i := 12) (oi := ?oim46) (v := ?vm46) ?him46 (by kernel_rfl) (by kernel_rfl) (by kernel_rfl) ?hQm46 (Or.inl ⟨?hwm46, ?hym46⟩) (by assumption) ?restm46
              case him46 => simp only [List.getElem?_toArray, List.getElem?_cons_succ, List.getElem?_cons_zero]; exact rfl
              case hQm46 => exact fun _ _ _ h => h
              case hwm46 => rfl
              case hym46 => ((intro w hSw; (try dsimp only at hSw); go_simp) <;> with_reducible rfl)
              try simp only [Act.put, List.setIfInBounds_toArray, List.set_cons_zero, List.set_cons_succ]
              refine wpAnyH_ready (rs := [13]) (by kernel_rfl) (by simp) ?_
              refine AllReadyH.cons (o := ?or47_13) ?hor47_13 (fun K hK => ?stepr47_13) (AllReadyH.nil)
              case hor47_13 => simp only [List.getElem?_toArray, List.getElem?_cons_succ, List.getElem?_cons_zero]; exact rfl
              case stepr47_13 =>
                obtain ⟨y0, y1, y2, y3, x0, x1, x2, x3⟩ := ord_cell hG
                go_simp
                have hHv : Below wr.heap.size wr vc := hHeld
                have hG2 := ord_put (u0 := .int .i64 (num (za ++ zb) (k * 4))) (u1 := .int .i64 (num (za ++ zb) (k * 4 + 1))) (u2 := .int .i64 (num (za ++ zb) (k * 4 + 2))) (u3 := .int .i64 (num (za ++ zb) (k * 4 + 3))) hG
                refine hK.out _ _ ?hSr47_13 (fun hHeld => ?restr47_13)
                case hSr47_13 => exact (((hHv.setCell (p := ⟨wr.heap.size, 0, none⟩) hGl _).setCell (p := ⟨wr.heap.size, 1, none⟩) hGl _).setCell (p := ⟨wr.heap.size, 2, none⟩) hGl _).setCell (p := ⟨wr.heap.size, 3, none⟩) hGl _
                clear hK K
                try simp only [Act.put, List.setIfInBounds_toArray, List.set_cons_zero, List.set_cons_succ]
                refine wpAnyH_take (i := 14) (oi := ?oim48) (v := ?vm48) ?him48 (by kernel_rfl) (by kernel_rfl) (by kernel_rfl) ?hQm48 (Or.inl ⟨?hwm48, ?hym48⟩) (by assumption) ?restm48
                case him48 => simp only [List.getElem?_toArray, List.getElem?_cons_succ, List.getElem?_cons_zero]; exact rfl
                case hQm48 => exact fun _ _ _ h => h
                case hwm48 => rfl
                case hym48 => ((intro w hSw; (try dsimp only at hSw); go_simp) <;> with_reducible rfl)
                try simp only [Act.put, List.setIfInBounds_toArray, List.set_cons_zero, List.set_cons_succ]
                refine wpAnyH_done (by kernel_rfl) ?_ _
                go_upto_region 14 with fail
                have hHz : Below wr.heap.size wr (((((vc.setCell ⟨wr.heap.size, 0, none⟩ (.int .i64 (num (za ++ zb) (k * 4)))).setCell ⟨wr.heap.size, 1, none⟩ (.int .i64 (num (za ++ zb) (k * 4 + 1)))).setCell ⟨wr.heap.size, 2, none⟩ (.int .i64 (num (za ++ zb) (k * 4 + 2))))).setCell ⟨wr.heap.size, 3, none⟩ (.int .i64 (num (za ++ zb) (k * 4 + 3)))) := hHeld
                clear hHeld y0 y1 y2 y3 x0 x1 x2 x3 hG
                generalize (((((vc.setCell ⟨wr.heap.size, 0, none⟩ (.int .i64 (num (za ++ zb) (k * 4)))).setCell ⟨wr.heap.size, 1, none⟩ (.int .i64 (num (za ++ zb) (k * 4 + 1)))).setCell ⟨wr.heap.size, 2, none⟩ (.int .i64 (num (za ++ zb) (k * 4 + 2))))).setCell ⟨wr.heap.size, 3, none⟩ (.int .i64 (num (za ++ zb) (k * 4 + 3)))) = wz at *
                obtain ⟨y0, y1, y2, y3, -⟩ := ord_cell hG2
                have HBV := Lib.hid (show Below wq2.heap.size wq2 wz from hbr.trans (hHz.mono hbr.size))
                replace c0 := (hHz.cell (p := ⟨b, o + k * 4, none⟩) hbo).trans c0
                replace c1 := (hHz.cell (p := ⟨b, o + k * 4 + 1, none⟩) hbo).trans c1
                replace c2 := (hHz.cell (p := ⟨b, o + k * 4 + 2, none⟩) hbo).trans c2
                replace c3 := (hHz.cell (p := ⟨b, o + k * 4 + 3, none⟩) hbo).trans c3
                clear hHz hG2 hbr p0 p1
                go_region
                all_goals go_wp2_with fail
                all_goals go_roundw
                case rel => exact ⟨k + 1, by omega, by go_num, by rw [HGN.out], HBV.out.drew⟩
                case measure => simp [intOf]; omega
      · obtain rfl : k = n + m := by omega
        rw [HN3.out]
        obtain ⟨p0, p1⟩ := cell2 kN
        go_wp2_with fail
        refine (impl_BookOk BI N1 bI CI N2 cI Z1 Z2 wr (Lst.of_own TI.one) (Lst.of_own TI.two) (by omega) (by omega)).mono ?_
        rintro e wz ⟨rfl, hbz⟩
        rw [show bookB Z1 N1 Z2 N2 = true by rw [← HN1.out, ← HN2.out, ← HZ1.out, ← HZ2.out]; exact ca_ok HBK.out]
        go_wp2_with fail
        go_ret
        exact ⟨by first | rfl | simp, D.trans (hbz.mono D.size)⟩
end Go.Proofs.Ytdjmejjponlfoab
