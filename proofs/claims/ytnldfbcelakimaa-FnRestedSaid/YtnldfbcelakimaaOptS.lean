/-
  The document's Side, Best, Taken, Crossing, where a side may be nil.
-/
import Derived.Test.YtnldfbcelakimaaBest
import Derived.Test.YtnldfbcelakimaaGT
import Derived.Test.YtnldfbcelakimaaTakeO
import Derived.Test.YtnldfbcelakimaaRestS
namespace Go.Proofs.Ytnldfbcelakimaa
open Go.RowKit Wire

set_option linter.unusedSimpArgs false in
set_option maxHeartbeats 1600000 in
set_option maxRecDepth 100000 in
theorem spec_SideO (O1 : Option Addr) (n c : Nat) (O2 : Option Addr) (m d : Nat) (za zb : List Int) (side : Int) (w : World) (ha : Lst w w.heap.size 4 O1 n za) (hb : Lst w w.heap.size 4 O2 m zb) (hn : n ≤ 1048576) (hm : m ≤ 1048576) (hO1 : O1 = none → n = 0 ∧ c = 0) (hO2 : O2 = none → m = 0 ∧ d = 0) :
    Calls Try.prog 17 #[.agg #[.slice O1 n c, .slice O2 m d], .int .i64 side] w fun e w' => (∃ r, e = .returned r ∧ w'.ownsRow w.heap.size 36 4 r (sideN (bookB za n zb m) side n m) (nums (sideZ (bookB za n zb m) side za zb))) ∧ Below w.heap.size w w' := by
  have hb0 : Below w.heap.size w (w.alloc (.cells #[.slice O1 n c, .slice O2 m d] 26)) := (Below.refl _ _).alloc (Nat.le_refl _) _
  have k0 : (w.alloc (.cells #[.slice O1 n c, .slice O2 m d] 26)).heap[w.heap.size]? = some (.cells #[.slice O1 n c, .slice O2 m d] 26 (0, 0)) := heap_alloc_new w _
  have hs0 : w.heap.size < (w.alloc (.cells #[.slice O1 n c, .slice O2 m d] 26)).heap.size := by simp
  go_enter Try.func17, Try.ntmps17
  go_wp2_with fail
  generalize (w.alloc (.cells #[.slice O1 n c, .slice O2 m d] 26)) = w0 at *
  refine (spec_BookOkO O1 n c O2 m d za zb w0 ((ha.below hb0).more hb0.size) ((hb.below hb0).more hb0.size) hn hm hO1 hO2).mono ?_
  generalize hbk : bookB za n zb m = bk
  rintro e w1 ⟨rfl, hb1⟩
  have k1 := (hb1.block w.heap.size hs0).trans k0
  have hs1 := Nat.lt_of_lt_of_le hs0 hb1.size
  have x0 := cell_of_row w1 w.heap.size 0 _ _ (0, 0) k1
  have x1 := cell_of_row w1 w.heap.size 1 _ _ (0, 0) k1
  simp at x0 x1
  have hb1 := hb0.trans (hb1.mono hb0.size)
  clear k0 hb0 hs0
  cases bk
  · go_wp2_with fail
    go_ret
    exact ⟨⟨_, rfl, by rw [hbk, sideN_no, sideZ_no]; exact own_mono (own_empty w1 _ 4) hb1.size⟩, hb1.alloc hb1.size _⟩
  go_wp2_with fail
  refine (spec_isSide side w1).mono ?_
  rintro e w2 ⟨rfl, rfl⟩
  rcases side_cases side with ⟨rfl, hok⟩ | ⟨rfl, hok⟩ | ⟨h1, h2, hok⟩
  rotate_left 2
  · have HN := Lib.hid (show sideN true side n m = 0 from by unfold sideN; rw [if_neg (fun h => h1 h.2), if_neg (fun h => h2 h.2)])
    have HZ := Lib.hid (show sideZ true side za zb = [] from by unfold sideZ; rw [if_neg (fun h => h1 h.2), if_neg (fun h => h2 h.2)])
    rw [hok]
    clear h1 h2 hok
    go_wp2_with fail
    go_ret
    exact ⟨⟨_, rfl, by rw [hbk, HN.out, HZ.out]; exact own_mono (own_empty w1 _ 4) hb1.size⟩, hb1.alloc hb1.size _⟩
  · rw [hok]
    clear hok
    go_wp2_with fail
    refine (spec_l2ListO O1 n c O2 m d 1 _).mono ?_
    rintro e w3 ⟨rfl, hb3⟩
    have hown3 := own_below (own_empty w1 36 4) hb3
    have hbel3 := (hb1.alloc hb1.size (.cells #[] 36)).trans (hb3.mono (Nat.le_trans hb1.size (by simp)))
    have hz3 := hb3.size
    simp at hz3
    have hl3 := ha.below hbel3
    obtain ⟨i0, hi, hz0, hz1, hz2⟩ := info_parts ord_info
    simp only [if_pos]
    clear x0 x1 k1
    go_wp2_with (at_builtin; refine wpList_app_atO _ rfl _ _ 24 rfl w1.heap.size 36 i0 _ 4 32 Try.underlying24 hi hz0 hz1 hz2 rfl (by decide) _ _ _ rfl hown3 O1 n c hO1 (nums za) rfl (by rw [nums_length]; exact hl3.1) hl3.newsO (nums_one _) (by unfold maxLen; omega) (by omega) (by omega) ?_)
    intro v' w4 hown4 hgrow4 _
    have hz1' := hb1.size
    have hbel4 := hbel3.grown hgrow4 hbel3.size (fun q hq => by simp [Value.ownBlock] at hq; omega)
    obtain ⟨A4, d4, rfl, _, _⟩ := own_slice hown4
    have hown4 := own_mono hown4 hb1.size
    clear hgrow4 hown3 hb3
    go_wp2_with fail
    go_ret
    exact ⟨⟨_, rfl, by rw [hbk]; exact hown4⟩, hbel4⟩
  · rw [hok]
    clear hok
    go_wp2_with fail
    refine (spec_l2ListO O1 n c O2 m d 2 _).mono ?_
    rintro e w3 ⟨rfl, hb3⟩
    have hown3 := own_below (own_empty w1 36 4) hb3
    have hbel3 := (hb1.alloc hb1.size (.cells #[] 36)).trans (hb3.mono (Nat.le_trans hb1.size (by simp)))
    have hz3 := hb3.size
    simp at hz3
    have hl3 := hb.below hbel3
    obtain ⟨i0, hi, hz0, hz1, hz2⟩ := info_parts ord_info
    simp only [show ((2 : Int) = 1) = False from by simp, if_false]
    clear x0 x1 k1
    go_wp2_with (at_builtin; refine wpList_app_atO _ rfl _ _ 24 rfl w1.heap.size 36 i0 _ 4 32 Try.underlying24 hi hz0 hz1 hz2 rfl (by decide) _ _ _ rfl hown3 O2 m d hO2 (nums zb) rfl (by rw [nums_length]; exact hl3.1) hl3.newsO (nums_one _) (by unfold maxLen; omega) (by omega) (by omega) ?_)
    intro v' w4 hown4 hgrow4 _
    have hz1' := hb1.size
    have hbel4 := hbel3.grown hgrow4 hbel3.size (fun q hq => by simp [Value.ownBlock] at hq; omega)
    obtain ⟨A4, d4, rfl, _, _⟩ := own_slice hown4
    have hown4 := own_mono hown4 hb1.size
    clear hgrow4 hown3 hb3
    go_wp2_with fail
    go_ret
    exact ⟨⟨_, rfl, by rw [hbk]; exact hown4⟩, hbel4⟩
set_option linter.unusedSimpArgs false in
set_option maxHeartbeats 1600000 in
set_option maxRecDepth 100000 in
theorem spec_BestO (O1 : Option Addr) (n c : Nat) (O2 : Option Addr) (m d : Nat) (za zb : List Int) (side : Int) (w : World) (ha : Lst w w.heap.size 4 O1 n za) (hb : Lst w w.heap.size 4 O2 m zb) (hn : n ≤ 1048576) (hm : m ≤ 1048576) (hO1 : O1 = none → n = 0 ∧ c = 0) (hO2 : O2 = none → m = 0 ∧ d = 0) :
    Calls Try.prog 14 #[.agg #[.slice O1 n c, .slice O2 m d], .int .i64 side] w fun e w' => e = .returned (.tuple #[.int .i64 (bestP (bookB za n zb m) side za zb n m), .bool (bestB (bookB za n zb m) side n m)]) ∧ Below w.heap.size w w' := by
  have hb0 : Below w.heap.size w (w.alloc (.cells #[.slice O1 n c, .slice O2 m d] 26)) := (Below.refl _ _).alloc (Nat.le_refl _) _
  have k0 : (w.alloc (.cells #[.slice O1 n c, .slice O2 m d] 26)).heap[w.heap.size]? = some (.cells #[.slice O1 n c, .slice O2 m d] 26 (0, 0)) := heap_alloc_new w _
  have hs0 : w.heap.size < (w.alloc (.cells #[.slice O1 n c, .slice O2 m d] 26)).heap.size := by simp
  go_enter Try.func14, Try.ntmps14
  go_wp2_with fail
  generalize (w.alloc (.cells #[.slice O1 n c, .slice O2 m d] 26)) = w0 at *
  refine (spec_SideO O1 n c O2 m d za zb side w0 ((ha.below hb0).more hb0.size) ((hb.below hb0).more hb0.size) hn hm hO1 hO2).mono ?_
  have HB := Lib.hid (show bestB (bookB za n zb m) side n m = decide (sideN (bookB za n zb m) side n m ≠ 0) from rfl)
  have HP := Lib.hid (show bestP (bookB za n zb m) side za zb n m = if sideN (bookB za n zb m) side n m = 0 then 0 else num (sideZ (bookB za n zb m) side za zb) 2 from rfl)
  have hN : sideN (bookB za n zb m) side n m ≤ 1048576 := sideN_le hn hm
  generalize sideN (bookB za n zb m) side n m = N at *
  generalize sideZ (bookB za n zb m) side za zb = Z at *
  rintro e w1 ⟨⟨r, rfl, hown⟩, hb1⟩
  obtain ⟨A1, d1, rfl, _, _⟩ := own_slice hown
  have hL := Lst.of_own hown
  have hb1 := hb0.trans (hb1.mono hb0.size)
  clear hown k0 hs0
  rcases Nat.eq_zero_or_pos N with rfl | hpos
  · go_wp2_with fail
    refine bodyPost_ret (v := .tuple #[.int .i64 0, .bool false]) (by simp [results, Try.results14, go_sem]) rfl ⟨?_, hb1⟩
    rw [HB.out, HP.out]
    rfl
  · obtain ⟨b, o, rfl, hbo, c0, c1, c2, c3⟩ := hL.row4 (k := 0) hpos
    simp only [Nat.zero_mul, Nat.add_zero, Nat.zero_add] at c0 c1 c2 c3
    have t : ((N : Int) == 0) = false := beq_eq_false_iff_ne.2 (by omega)
    have b1 : (0 : Int) < (N : Int) := by omega
    clear hL
    go_wp2_with fail
    refine bodyPost_ret (v := .tuple #[.int .i64 (num Z 2), .bool true]) (by simp [results, Try.results14, go_sem]) rfl ⟨?_, hb1⟩
    rw [HB.out, HP.out, if_neg (by omega), decide_eq_true (by omega)]
set_option linter.unusedSimpArgs false in
set_option maxHeartbeats 1600000 in
set_option maxRecDepth 100000 in
theorem spec_TakenO (O1 : Option Addr) (n c : Nat) (O2 : Option Addr) (m d : Nat) (za zb : List Int) (id : Int) (w : World) (ha : Lst w w.heap.size 4 O1 n za) (hb : Lst w w.heap.size 4 O2 m zb) (hn : n ≤ 1048576) (hm : m ≤ 1048576) (hO1 : O1 = none → n = 0 ∧ c = 0) (hO2 : O2 = none → m = 0 ∧ d = 0) :
    Calls Try.prog 26 #[.agg #[.slice O1 n c, .slice O2 m d], .int .i64 id] w fun e w' => (∃ s f ok v1 v2, FindRel (bookB za n zb m) za n zb m id s f ok ∧ e = .returned (.tuple #[.agg #[v1, v2], .bool ok]) ∧ Without w' w.heap.size za zb n m id ok v1 v2) ∧ Below w.heap.size w w' := by
  obtain ⟨k0, k1⟩ := two_blocks w (.cells #[.slice O1 n c, .slice O2 m d] 26) (.cells #[.slice none 0 0, .slice none 0 0] 26)
  have hb0 : Below w.heap.size w ((w.alloc (.cells #[.slice O1 n c, .slice O2 m d] 26)).alloc (.cells #[.slice none 0 0, .slice none 0 0] 26)) := ((Below.refl _ _).alloc (Nat.le_refl _) _).alloc (by simp) _
  have hs0 : w.heap.size + 1 < ((w.alloc (.cells #[.slice O1 n c, .slice O2 m d] 26)).alloc (.cells #[.slice none 0 0, .slice none 0 0] 26)).heap.size := by simp
  go_enter Try.func26, Try.ntmps26
  go_wp2_with fail
  generalize ((w.alloc (.cells #[.slice O1 n c, .slice O2 m d] 26)).alloc (.cells #[.slice none 0 0, .slice none 0 0] 26)) = w0 at *
  refine (spec_FindO O1 n c O2 m d za zb id w0 ((ha.below hb0).more hb0.size) ((hb.below hb0).more hb0.size) hn hm hO1 hO2).mono ?_
  rintro e w1 ⟨⟨s, f, ok, hrel, rfl⟩, hb1⟩
  have HR := Lib.hid hrel
  clear hrel
  have k0 := (hb1.block w.heap.size (by omega)).trans k0
  have k1 := (hb1.block (w.heap.size + 1) hs0).trans k1
  have hs1 := Nat.lt_of_lt_of_le hs0 hb1.size
  have hg0 : w.heap.size < w1.heap.size := by omega
  have hb1 := hb0.trans (hb1.mono hb0.size)
  clear hb0 hs0
  have x0 := cell_of_row w1 w.heap.size 0 _ _ (0, 0) k0
  have x1 := cell_of_row w1 w.heap.size 1 _ _ (0, 0) k0
  have s0 := cell_of_row w1 (w.heap.size + 1) 0 _ _ (0, 0) k1
  have s1 := cell_of_row w1 (w.heap.size + 1) 1 _ _ (0, 0) k1
  have z0 := frozen_of_row w1 (w.heap.size + 1) 0 _ _ k1
  have z1 := frozen_of_row w1 (w.heap.size + 1) 1 _ _ k1
  simp at x0 x1 s0 s1
  generalize f 0 = f0 at *
  generalize f 1 = f1 at *
  generalize f 2 = f2 at *
  generalize f 3 = f3 at *
  cases ok
  · have hx := Below.heap_alloc ((w1.setCell ⟨w.heap.size + 1, 0, none⟩ (.slice none 0 0)).setCell ⟨w.heap.size + 1, 1, none⟩ (.slice none 0 0)) (.cells #[.int .i64 f0, .int .i64 f1, .int .i64 f2, .int .i64 f3] 36) (w.heap.size + 1) (by simpa [World.setCell] using hs1)
    have hx := hx.trans (heap_set1 (u := .slice none 0 0) (heap_set0 (u := .slice none 0 0) k1))
    have e0 := cell_of_row _ (w.heap.size + 1) 0 _ _ (0, 0) hx
    have e1 := cell_of_row _ (w.heap.size + 1) 1 _ _ (0, 0) hx
    clear hx
    have E0 := Lib.hid e0
    have E1 := Lib.hid e1
    clear e0 e1
    go_wp2_with fail
    have e0 := E0.out
    have e1 := E1.out
    simp at e0 e1
    refine bodyPost_ret (v := .tuple #[.agg #[.slice none 0 0, .slice none 0 0], .bool false]) (by simp [results, Try.results26, go_sem, e0, e1]) rfl ⟨⟨s, f, false, .slice none 0 0, .slice none 0 0, HR.out, rfl, World.ownsRow_nil _ _ _ _, World.ownsRow_nil _ _ _ _, fun q hq => by simp [Value.ownBlock] at hq⟩, ?_⟩
    exact ((hb1.setCell (p := ⟨w.heap.size + 1, 0, none⟩) (show w.heap.size ≤ w.heap.size + 1 by omega) _).setCell (p := ⟨w.heap.size + 1, 1, none⟩) (show w.heap.size ≤ w.heap.size + 1 by omega) _).alloc (by simp [World.setCell]; omega) _
  · have hb2 := hb1.alloc hb1.size (.cells #[.int .i64 f0, .int .i64 f1, .int .i64 f2, .int .i64 f3] 36)
    go_wp2_with fail
    refine (spec_l2TakeO O1 n c O2 m d za zb id _ ((ha.below hb2).more hb2.size) ((hb.below hb2).more hb2.size) hn hm).mono ?_
    rintro e w3 ⟨⟨v1, v2, rfl, ho1, ho2, hne⟩, hb3⟩
    have k3 := (hb3.block (w.heap.size + 1) (by simp; omega)).trans ((Below.heap_alloc w1 _ (w.heap.size + 1) hs1).trans k1)
    have hb4 := hb2.trans (hb3.mono hb2.size)
    have ho1 := own_mono (base' := w.heap.size + 2) ho1 (by simp; omega)
    have ho2 := own_mono (base' := w.heap.size + 2) ho2 (by simp; omega)
    obtain ⟨A1, d1, rfl, _, _⟩ := own_slice ho1
    obtain ⟨A2, d2, rfl, _, _⟩ := own_slice ho2
    clear s0 s1 z0 z1 x0 x1 hb2 hb3 k0 k1
    have s0 := cell_of_row w3 (w.heap.size + 1) 0 _ _ (0, 0) k3
    have s1 := cell_of_row w3 (w.heap.size + 1) 1 _ _ (0, 0) k3
    have z0 := frozen_of_row w3 (w.heap.size + 1) 0 _ _ k3
    have z1 := frozen_of_row w3 (w.heap.size + 1) 1 _ _ k3
    simp at s0 s1
    generalize hN1 : tkN za id n = N1 at *
    generalize hN2 : tkN zb id m = N2 at *
    have E0 := Lib.hid (cell_of_row _ (w.heap.size + 1) 0 _ _ (0, 0) (heap_set1 (u := .slice A2 N2 d2) (heap_set0 (u := .slice A1 N1 d1) k3)))
    have E1 := Lib.hid (cell_of_row _ (w.heap.size + 1) 1 _ _ (0, 0) (heap_set1 (u := .slice A2 N2 d2) (heap_set0 (u := .slice A1 N1 d1) k3)))
    have H1 := Lib.hid hN1
    have H2 := Lib.hid hN2
    clear hN1 hN2
    go_wp2_with fail
    have e0 := E0.out
    have e1 := E1.out
    simp at e0 e1
    have ap : ∀ {v : Value} {N : Nat} {xs : List Value}, w3.ownsRow (w.heap.size + 2) 36 4 v N xs → ((w3.setCell ⟨w.heap.size + 1, 0, none⟩ (.slice A1 N1 d1)).setCell ⟨w.heap.size + 1, 1, none⟩ (.slice A2 N2 d2)).ownsRow w.heap.size 36 4 v N xs := fun h => by
      have h1 := own_apart h (set_grown w3 (w.heap.size + 1) 0 (.slice A1 N1 d1)) (fun q hq e => by have := (h.lt q hq).1; injection e with e; omega)
      exact own_mono (own_apart h1 (set_grown _ (w.heap.size + 1) 1 (.slice A2 N2 d2)) (fun q hq e => by have := (h.lt q hq).1; injection e with e; omega)) (by omega)
    refine bodyPost_ret (v := .tuple #[.agg #[.slice A1 N1 d1, .slice A2 N2 d2], .bool true]) (by simp [results, Try.results26, go_sem, e0, e1]) rfl ⟨⟨s, f, true, _, _, HR.out, rfl, by rw [if_pos rfl, if_pos rfl, H1.out]; exact ap ho1, by rw [if_pos rfl, if_pos rfl, H2.out]; exact ap ho2, hne⟩, ?_⟩
    exact (hb4.setCell (p := ⟨w.heap.size + 1, 0, none⟩) (show w.heap.size ≤ w.heap.size + 1 by omega) _).setCell (p := ⟨w.heap.size + 1, 1, none⟩) (show w.heap.size ≤ w.heap.size + 1 by omega) _
set_option linter.unusedSimpArgs false in
set_option maxHeartbeats 3200000 in
set_option maxRecDepth 100000 in
theorem spec_CrossingO (O1 : Option Addr) (n c : Nat) (O2 : Option Addr) (m d : Nat) (za zb : List Int) (side lim : Int) (w : World) (ha : Lst w w.heap.size 4 O1 n za) (hb : Lst w w.heap.size 4 O2 m zb) (hn : n ≤ 1048576) (hm : m ≤ 1048576) (hO1 : O1 = none → n = 0 ∧ c = 0) (hO2 : O2 = none → m = 0 ∧ d = 0) :
    Calls Try.prog 32 #[.agg #[.slice O1 n c, .slice O2 m d], .int .i64 side, .int .i64 lim] w fun e w' => (∃ r, e = .returned r ∧ Crossed w' w.heap.size r (crN (bookB za n zb m) side lim za zb n m) (crZ (bookB za n zb m) side lim za zb n m)) ∧ Below w.heap.size w w' := by
  obtain ⟨i0, hi, hz0, hz1, hz2⟩ := info_parts ord_info
  obtain ⟨k0, k1⟩ := two_blocks w (.cells #[.slice O1 n c, .slice O2 m d] 26) (.cells #[] 36)
  have hb0 : Below w.heap.size w ((w.alloc (.cells #[.slice O1 n c, .slice O2 m d] 26)).alloc (.cells #[] 36)) := ((Below.refl _ _).alloc (Nat.le_refl _) _).alloc (by simp) _
  have hs0 : w.heap.size + 1 < ((w.alloc (.cells #[.slice O1 n c, .slice O2 m d] 26)).alloc (.cells #[] 36)).heap.size := by simp
  have hown0 : ((w.alloc (.cells #[.slice O1 n c, .slice O2 m d] 26)).alloc (.cells #[] 36)).ownsRow w.heap.size 36 4 (.slice (some ⟨w.heap.size + 1, 0, none⟩) 0 0) 0 [] := by
    have h := own_mono (base' := w.heap.size) (own_empty (w.alloc (.cells #[.slice O1 n c, .slice O2 m d] 26)) 36 4) (by simp)
    rwa [show (w.alloc (.cells #[.slice O1 n c, .slice O2 m d] 26)).heap.size = w.heap.size + 1 from by simp] at h
  go_enter Try.func32, Try.ntmps32
  go_wp2_with fail
  generalize ((w.alloc (.cells #[.slice O1 n c, .slice O2 m d] 26)).alloc (.cells #[] 36)) = w0 at *
  refine (spec_BookOkO O1 n c O2 m d za zb w0 ((ha.below hb0).more hb0.size) ((hb.below hb0).more hb0.size) hn hm hO1 hO2).mono ?_
  generalize hbk : bookB za n zb m = bk
  rintro e w1 ⟨rfl, hb1⟩
  have k0 := (hb1.block w.heap.size (by omega)).trans k0
  have hown := own_below hown0 hb1
  have hs1 := Nat.lt_of_lt_of_le hs0 hb1.size
  have x0 := cell_of_row w1 w.heap.size 0 _ _ (0, 0) k0
  have x1 := cell_of_row w1 w.heap.size 1 _ _ (0, 0) k0
  simp at x0 x1
  have hb1 := hb0.trans (hb1.mono hb0.size)
  clear k1 hb0 hs0 hown0
  have HBK := Lib.hid hbk
  cases bk
  · clear hbk
    go_wp2_with fail
    go_ret
    exact ⟨⟨_, rfl, by rw [HBK.out, (cr_no rfl).1, (cr_no rfl).2]; exact hown⟩, hb1⟩
  clear hbk
  go_wp2_with fail
  refine (spec_isSide side w1).mono ?_
  rintro e w2 ⟨rfl, rfl⟩
  rcases side_cases side with ⟨rfl, hok⟩ | ⟨rfl, hok⟩ | ⟨h1, h2, hok⟩
  rotate_left 2
  · have HX := Lib.hid (show crOk true side lim = false from by unfold crOk; rw [hok]; rfl)
    rw [hok]
    clear h1 h2 hok
    go_wp2_with fail
    go_ret
    exact ⟨⟨_, rfl, by rw [HBK.out, (cr_no HX.out).1, (cr_no HX.out).2]; exact hown⟩, hb1⟩
  · rw [hok]
    go_wp2_with fail
    refine (l1In_any lim 0 1000000 w1).mono ?_
    rintro e w2 ⟨rfl, rfl⟩
    have hX := k0
    rcases Bool.eq_false_or_eq_true (inB 0 lim 1000000) with hlim | hlim
    · have HX := Lib.hid hX
      have HO := Lib.hid (show crOk true 1 lim = true from by unfold crOk; rw [hok, hlim]; rfl)
      have HN := Lib.hid (crN_1 (lim := lim) (za := za) (zb := zb) (n := n) (m := m) HO.out)
      have HZ := Lib.hid (crZ_1 (lim := lim) (za := za) (zb := zb) (n := n) (m := m) HO.out)
      rw [hlim]
      clear hok hlim
      go_upto_region 4 with fail
      refine wp_region_held_drew (S := (fun w' => Below w1.heap.size w1 w' ∧ w'.cell? ⟨w.heap.size, 0, none⟩ = some (.slice O1 n c) ∧ w'.cell? ⟨w.heap.size, 1, none⟩ = some (.slice O2 m d))) (by kernel_rfl) ?hSq1xs (fun hHeld => ?restq1xs)
      case hSq1xs => ((first | assumption | ((((try dsimp only); repeat' apply And.intro) <;> (first | assumption | (refine below_later ?_ (by assumption); first | assumption | (simp only [*]; done) | (go_grown; done)) | (refine cell_later (by assumption) ?_; first | assumption | (simp only [*]; done) | (simp [go_sem]; done)) | (go_grown; done) | (simp [go_sem]; done))))))
      refine wpAnyH_take (i := 0) (oi := ?oiq1x1) (v := ?vq1x1) ?hiq1x1 (by kernel_rfl) (by kernel_rfl) (by kernel_rfl) ?hQq1x1 (Or.inl ⟨?hwq1x1, ?hyq1x1⟩) (by assumption) ?restq1x1
      case hiq1x1 => simp only [List.getElem?_toArray, List.getElem?_cons_succ, List.getElem?_cons_zero]; exact rfl
      case hQq1x1 => exact fun _ _ _ h => h
      case hwq1x1 => rfl
      case hyq1x1 => ((intro w hSw; (try dsimp only at hSw); go_simp) <;> with_reducible rfl)
      try simp only [Act.put, List.setIfInBounds_toArray, List.set_cons_zero, List.set_cons_succ]
      refine wpAnyH_take (i := 1) (oi := ?oiq1x2) (v := ?vq1x2) ?hiq1x2 (by kernel_rfl) (by kernel_rfl) (by kernel_rfl) ?hQq1x2 (Or.inl ⟨?hwq1x2, ?hyq1x2⟩) (by assumption) ?restq1x2
      case hiq1x2 => simp only [List.getElem?_toArray, List.getElem?_cons_succ, List.getElem?_cons_zero]; exact rfl
      case hQq1x2 => exact fun _ _ _ h => h
      case hwq1x2 => rfl
      case hyq1x2 => ((intro w hSw; (try dsimp only at hSw); go_simp) <;> with_reducible rfl)
      try simp only [Act.put, List.setIfInBounds_toArray, List.set_cons_zero, List.set_cons_succ]
      refine wpAnyH_ready (rs := [2]) (by kernel_rfl) (by simp) ?_
      refine AllReadyH.cons (o := ?oq1x3) ?hoq1x3 (fun K hK => ?stepq1x3) ?moreq1x3
      case hoq1x3 => simp only [List.getElem?_toArray, List.getElem?_cons_succ, List.getElem?_cons_zero]; exact rfl
      case moreq1x3 => exact AllReadyH.nil
      go_simp
      (go_at_call 80; refine (spec_other1 _).mono ?_; rintro e w' ⟨rfl, rfl⟩)
      refine hK.out _ _ ?hSq1x3 (fun hHeld => ?restq1x3)
      case hSq1x3 => ((first | assumption | ((((try dsimp only); repeat' apply And.intro) <;> (first | assumption | (refine below_later ?_ (by assumption); first | assumption | (simp only [*]; done) | (go_grown; done)) | (refine cell_later (by assumption) ?_; first | assumption | (simp only [*]; done) | (simp [go_sem]; done)) | (go_grown; done) | (simp [go_sem]; done))))))
      clear hK K
      try simp only [Act.put, List.setIfInBounds_toArray, List.set_cons_zero, List.set_cons_succ]
      refine wpAnyH_ready (rs := [3]) (by kernel_rfl) (by simp) ?_
      refine AllReadyH.cons (o := ?oq1x4) ?hoq1x4 (fun K hK => ?stepq1x4) ?moreq1x4
      case hoq1x4 => simp only [List.getElem?_toArray, List.getElem?_cons_succ, List.getElem?_cons_zero]; exact rfl
      case moreq1x4 => exact AllReadyH.nil
      go_simp
      (go_at_call 58; refine (spec_l2ListO O1 n c O2 m d 2 _).mono ?_; simp only [show ((2 : Int) = 1) = False from by simp, if_false]; rintro e w3 ⟨rfl, hb3⟩)
      refine hK.out _ _ ?hSq1x4 (fun hHeld => ?restq1x4)
      case hSq1x4 => ((first | assumption | ((((try dsimp only); repeat' apply And.intro) <;> (first | assumption | (refine below_later ?_ (by assumption); first | assumption | (simp only [*]; done) | (go_grown; done)) | (refine cell_later (by assumption) ?_; first | assumption | (simp only [*]; done) | (simp [go_sem]; done)) | (go_grown; done) | (simp [go_sem]; done))))))
      clear hK K
      try simp only [Act.put, List.setIfInBounds_toArray, List.set_cons_zero, List.set_cons_succ]
      refine wpAnyH_take (i := 4) (oi := ?oiq1x5) (v := ?vq1x5) ?hiq1x5 (by kernel_rfl) (by kernel_rfl) (by kernel_rfl) ?hQq1x5 (Or.inl ⟨?hwq1x5, ?hyq1x5⟩) (by assumption) ?restq1x5
      case hiq1x5 => simp only [List.getElem?_toArray, List.getElem?_cons_succ, List.getElem?_cons_zero]; exact rfl
      case hQq1x5 => exact fun _ _ _ h => h
      case hwq1x5 => rfl
      case hyq1x5 => ((intro w hSw; (try dsimp only at hSw); go_simp) <;> with_reducible rfl)
      try simp only [Act.put, List.setIfInBounds_toArray, List.set_cons_zero, List.set_cons_succ]
      refine wpAnyH_done (by kernel_rfl) ?_ _
      obtain ⟨hb3, _, _⟩ := hHeld
      have hown3 := own_below hown hb3
      have hbel3 := hb1.trans (hb3.mono hb1.size)
      have hl3 := hb.below hbel3
      clear hown hb3 x0 x1 hX
      have hlen := hb.1
      generalize O2 = ax at *
      go_wp2_with fail
      go_loopw [9, 7] (fun i r wr => ∃ k : Nat, k ≤ m ∧ i = .int .i64 (k : Int) ∧ (∀ j, j < k → meetB 1 lim (price zb j) = true) ∧ wr.ownsRow w.heap.size 36 4 r k (ordV zb k) ∧ Below w.heap.size w wr) (fun i _ _ => m - (intOf i).toNat)
      case atStart => exact ⟨0, Nat.zero_le _, rfl, fun j hj => absurd hj (Nat.not_lt_zero j), hown3, hbel3⟩
      case round =>
        obtain ⟨k, hk, rfl, hall, hown, hbel⟩ := hrel
        have HA := Lib.hid hall
        obtain ⟨A2, d2, rfl, _, _⟩ := own_slice hown
        clear hall hown3 hbel3
        by_cases hlt : k < m
        · obtain ⟨b, o, hax, hbo, c0, c1, c2, c3⟩ := (hb.below hbel).row4 hlt
          subst hax
          rcases Bool.eq_false_or_eq_true (meetB 1 lim (price zb k)) with hmt | hmt
          · have HM := Lib.hid hmt
            clear hmt
            go_wp2_with fail
            refine (spec_meets 1 lim _ _).mono ?_
            rw [show meetB 1 lim (num zb (k * 4 + 2)) = true from HM.out]
            rintro e w5 ⟨rfl, rfl⟩
            have hbs := hbel.size
            have hov := hown.lt
            go_wp2_with (at_builtin; refine wpList_append_own_at _ rfl _ _ 24 rfl w.heap.size 36 i0 _ 4 32 Try.underlying24 hi hz0 hz1 hz2 rfl (by decide) _ _ _ rfl (hown.alloc _) ⟨wr.heap.size, 0, none⟩ 1 1 [.int .i64 (num zb (k * 4)), .int .i64 (num zb (k * 4 + 1)), .int .i64 (num zb (k * 4 + 2)), .int .i64 (num zb (k * 4 + 3))] rfl rfl (World.news_of_block (heap_alloc_new wr _)) (by intro u hu; simp at hu; rcases hu with rfl | rfl | rfl | rfl <;> rfl) (by unfold maxLen; omega) (by omega) (by simp; omega) ?_)
            intro v' w2 hown2 hgrow2 _ _
            have hbel2 := (hbel.alloc hbs (.cells #[.int .i64 (num zb (k * 4)), .int .i64 (num zb (k * 4 + 1)), .int .i64 (num zb (k * 4 + 2)), .int .i64 (num zb (k * 4 + 3))] 36)).grown hgrow2 (by simp; omega) (fun q hq => (hov q hq).1)
            obtain ⟨A3, d3, rfl, _, _⟩ := own_slice hown2
            have HO2 := Lib.hid hown2
            have HB2 := Lib.hid hbel2
            clear hbel2 hgrow2 hown2 hbel hown c0 c1 c2 c3
            go_wp2_with fail
            go_roundw
            case rel => exact ⟨k + 1, by omega, by go_num, fun j hj => by
              rcases Nat.lt_or_ge j k with h | h
              · exact HA.out j h
              · obtain rfl : j = k := by omega
                exact HM.out, HO2.out, HB2.out⟩
            case measure => simp [intOf]; omega
          · have HM := Lib.hid hmt
            have HL := Lib.hid (lead_one m (fun k => meetB 1 lim (price zb k)) k hk HA.out (.inr hmt))
            clear hmt
            go_wp2_with fail
            refine (spec_meets 1 lim _ _).mono ?_
            rw [show meetB 1 lim (num zb (k * 4 + 2)) = false from HM.out]
            rintro e w5 ⟨rfl, rfl⟩
            go_wp2_with fail
            go_ret
            exact ⟨⟨_, rfl, by rw [HBK.out, HN.out, HZ.out, HL.out]; exact crossed_ord hown (by omega)⟩, hbel⟩
        · obtain rfl : k = m := by omega
          have HL := Lib.hid (lead_one k (fun k => meetB 1 lim (price zb k)) k hk HA.out (.inl rfl))
          go_wp2_with fail
          go_ret
          exact ⟨⟨_, rfl, by rw [HBK.out, HN.out, HZ.out, HL.out]; exact crossed_ord hown (by omega)⟩, hbel⟩
    · have HX := Lib.hid (show crOk true 1 lim = false from by unfold crOk; rw [hok, hlim]; rfl)
      rw [hlim]
      clear hok hlim
      go_wp2_with fail
      go_ret
      exact ⟨⟨_, rfl, by rw [HBK.out, (cr_no HX.out).1, (cr_no HX.out).2]; exact hown⟩, hb1⟩
  · rw [hok]
    go_wp2_with fail
    refine (l1In_any lim 0 1000000 w1).mono ?_
    rintro e w2 ⟨rfl, rfl⟩
    have hX := k0
    rcases Bool.eq_false_or_eq_true (inB 0 lim 1000000) with hlim | hlim
    · have HX := Lib.hid hX
      have HO := Lib.hid (show crOk true 2 lim = true from by unfold crOk; rw [hok, hlim]; rfl)
      have HN := Lib.hid (crN_2 (lim := lim) (za := za) (zb := zb) (n := n) (m := m) HO.out)
      have HZ := Lib.hid (crZ_2 (lim := lim) (za := za) (zb := zb) (n := n) (m := m) HO.out)
      rw [hlim]
      clear hok hlim
      go_upto_region 4 with fail
      refine wp_region_held_drew (S := (fun w' => Below w1.heap.size w1 w' ∧ w'.cell? ⟨w.heap.size, 0, none⟩ = some (.slice O1 n c) ∧ w'.cell? ⟨w.heap.size, 1, none⟩ = some (.slice O2 m d))) (by kernel_rfl) ?hSq2xs (fun hHeld => ?restq2xs)
      case hSq2xs => ((first | assumption | ((((try dsimp only); repeat' apply And.intro) <;> (first | assumption | (refine below_later ?_ (by assumption); first | assumption | (simp only [*]; done) | (go_grown; done)) | (refine cell_later (by assumption) ?_; first | assumption | (simp only [*]; done) | (simp [go_sem]; done)) | (go_grown; done) | (simp [go_sem]; done))))))
      refine wpAnyH_take (i := 0) (oi := ?oiq2x1) (v := ?vq2x1) ?hiq2x1 (by kernel_rfl) (by kernel_rfl) (by kernel_rfl) ?hQq2x1 (Or.inl ⟨?hwq2x1, ?hyq2x1⟩) (by assumption) ?restq2x1
      case hiq2x1 => simp only [List.getElem?_toArray, List.getElem?_cons_succ, List.getElem?_cons_zero]; exact rfl
      case hQq2x1 => exact fun _ _ _ h => h
      case hwq2x1 => rfl
      case hyq2x1 => ((intro w hSw; (try dsimp only at hSw); go_simp) <;> with_reducible rfl)
      try simp only [Act.put, List.setIfInBounds_toArray, List.set_cons_zero, List.set_cons_succ]
      refine wpAnyH_take (i := 1) (oi := ?oiq2x2) (v := ?vq2x2) ?hiq2x2 (by kernel_rfl) (by kernel_rfl) (by kernel_rfl) ?hQq2x2 (Or.inl ⟨?hwq2x2, ?hyq2x2⟩) (by assumption) ?restq2x2
      case hiq2x2 => simp only [List.getElem?_toArray, List.getElem?_cons_succ, List.getElem?_cons_zero]; exact rfl
      case hQq2x2 => exact fun _ _ _ h => h
      case hwq2x2 => rfl
      case hyq2x2 => ((intro w hSw; (try dsimp only at hSw); go_simp) <;> with_reducible rfl)
      try simp only [Act.put, List.setIfInBounds_toArray, List.set_cons_zero, List.set_cons_succ]
      refine wpAnyH_ready (rs := [2]) (by kernel_rfl) (by simp) ?_
      refine AllReadyH.cons (o := ?oq2x3) ?hoq2x3 (fun K hK => ?stepq2x3) ?moreq2x3
      case hoq2x3 => simp only [List.getElem?_toArray, List.getElem?_cons_succ, List.getElem?_cons_zero]; exact rfl
      case moreq2x3 => exact AllReadyH.nil
      go_simp
      (go_at_call 80; refine (spec_other2 _).mono ?_; rintro e w' ⟨rfl, rfl⟩)
      refine hK.out _ _ ?hSq2x3 (fun hHeld => ?restq2x3)
      case hSq2x3 => ((first | assumption | ((((try dsimp only); repeat' apply And.intro) <;> (first | assumption | (refine below_later ?_ (by assumption); first | assumption | (simp only [*]; done) | (go_grown; done)) | (refine cell_later (by assumption) ?_; first | assumption | (simp only [*]; done) | (simp [go_sem]; done)) | (go_grown; done) | (simp [go_sem]; done))))))
      clear hK K
      try simp only [Act.put, List.setIfInBounds_toArray, List.set_cons_zero, List.set_cons_succ]
      refine wpAnyH_ready (rs := [3]) (by kernel_rfl) (by simp) ?_
      refine AllReadyH.cons (o := ?oq2x4) ?hoq2x4 (fun K hK => ?stepq2x4) ?moreq2x4
      case hoq2x4 => simp only [List.getElem?_toArray, List.getElem?_cons_succ, List.getElem?_cons_zero]; exact rfl
      case moreq2x4 => exact AllReadyH.nil
      go_simp
      (go_at_call 58; refine (spec_l2ListO O1 n c O2 m d 1 _).mono ?_; simp only [if_pos]; rintro e w3 ⟨rfl, hb3⟩)
      refine hK.out _ _ ?hSq2x4 (fun hHeld => ?restq2x4)
      case hSq2x4 => ((first | assumption | ((((try dsimp only); repeat' apply And.intro) <;> (first | assumption | (refine below_later ?_ (by assumption); first | assumption | (simp only [*]; done) | (go_grown; done)) | (refine cell_later (by assumption) ?_; first | assumption | (simp only [*]; done) | (simp [go_sem]; done)) | (go_grown; done) | (simp [go_sem]; done))))))
      clear hK K
      try simp only [Act.put, List.setIfInBounds_toArray, List.set_cons_zero, List.set_cons_succ]
      refine wpAnyH_take (i := 4) (oi := ?oiq2x5) (v := ?vq2x5) ?hiq2x5 (by kernel_rfl) (by kernel_rfl) (by kernel_rfl) ?hQq2x5 (Or.inl ⟨?hwq2x5, ?hyq2x5⟩) (by assumption) ?restq2x5
      case hiq2x5 => simp only [List.getElem?_toArray, List.getElem?_cons_succ, List.getElem?_cons_zero]; exact rfl
      case hQq2x5 => exact fun _ _ _ h => h
      case hwq2x5 => rfl
      case hyq2x5 => ((intro w hSw; (try dsimp only at hSw); go_simp) <;> with_reducible rfl)
      try simp only [Act.put, List.setIfInBounds_toArray, List.set_cons_zero, List.set_cons_succ]
      refine wpAnyH_done (by kernel_rfl) ?_ _
      obtain ⟨hb3, _, _⟩ := hHeld
      have hown3 := own_below hown hb3
      have hbel3 := hb1.trans (hb3.mono hb1.size)
      have hl3 := ha.below hbel3
      clear hown hb3 x0 x1 hX
      have hlen := ha.1
      generalize O1 = ax at *
      go_wp2_with fail
      go_loopw [9, 7] (fun i r wr => ∃ k : Nat, k ≤ n ∧ i = .int .i64 (k : Int) ∧ (∀ j, j < k → meetB 2 lim (price za j) = true) ∧ wr.ownsRow w.heap.size 36 4 r k (ordV za k) ∧ Below w.heap.size w wr) (fun i _ _ => n - (intOf i).toNat)
      case atStart => exact ⟨0, Nat.zero_le _, rfl, fun j hj => absurd hj (Nat.not_lt_zero j), hown3, hbel3⟩
      case round =>
        obtain ⟨k, hk, rfl, hall, hown, hbel⟩ := hrel
        have HA := Lib.hid hall
        obtain ⟨A2, d2, rfl, _, _⟩ := own_slice hown
        clear hall hown3 hbel3
        by_cases hlt : k < n
        · obtain ⟨b, o, hax, hbo, c0, c1, c2, c3⟩ := (ha.below hbel).row4 hlt
          subst hax
          rcases Bool.eq_false_or_eq_true (meetB 2 lim (price za k)) with hmt | hmt
          · have HM := Lib.hid hmt
            clear hmt
            go_wp2_with fail
            refine (spec_meets 2 lim _ _).mono ?_
            rw [show meetB 2 lim (num za (k * 4 + 2)) = true from HM.out]
            rintro e w5 ⟨rfl, rfl⟩
            have hbs := hbel.size
            have hov := hown.lt
            go_wp2_with (at_builtin; refine wpList_append_own_at _ rfl _ _ 24 rfl w.heap.size 36 i0 _ 4 32 Try.underlying24 hi hz0 hz1 hz2 rfl (by decide) _ _ _ rfl (hown.alloc _) ⟨wr.heap.size, 0, none⟩ 1 1 [.int .i64 (num za (k * 4)), .int .i64 (num za (k * 4 + 1)), .int .i64 (num za (k * 4 + 2)), .int .i64 (num za (k * 4 + 3))] rfl rfl (World.news_of_block (heap_alloc_new wr _)) (by intro u hu; simp at hu; rcases hu with rfl | rfl | rfl | rfl <;> rfl) (by unfold maxLen; omega) (by omega) (by simp; omega) ?_)
            intro v' w2 hown2 hgrow2 _ _
            have hbel2 := (hbel.alloc hbs (.cells #[.int .i64 (num za (k * 4)), .int .i64 (num za (k * 4 + 1)), .int .i64 (num za (k * 4 + 2)), .int .i64 (num za (k * 4 + 3))] 36)).grown hgrow2 (by simp; omega) (fun q hq => (hov q hq).1)
            obtain ⟨A3, d3, rfl, _, _⟩ := own_slice hown2
            have HO2 := Lib.hid hown2
            have HB2 := Lib.hid hbel2
            clear hbel2 hgrow2 hown2 hbel hown c0 c1 c2 c3
            go_wp2_with fail
            go_roundw
            case rel => exact ⟨k + 1, by omega, by go_num, fun j hj => by
              rcases Nat.lt_or_ge j k with h | h
              · exact HA.out j h
              · obtain rfl : j = k := by omega
                exact HM.out, HO2.out, HB2.out⟩
            case measure => simp [intOf]; omega
          · have HM := Lib.hid hmt
            have HL := Lib.hid (lead_one n (fun k => meetB 2 lim (price za k)) k hk HA.out (.inr hmt))
            clear hmt
            go_wp2_with fail
            refine (spec_meets 2 lim _ _).mono ?_
            rw [show meetB 2 lim (num za (k * 4 + 2)) = false from HM.out]
            rintro e w5 ⟨rfl, rfl⟩
            go_wp2_with fail
            go_ret
            exact ⟨⟨_, rfl, by rw [HBK.out, HN.out, HZ.out, HL.out]; exact crossed_ord hown (by omega)⟩, hbel⟩
        · obtain rfl : k = n := by omega
          have HL := Lib.hid (lead_one k (fun k => meetB 2 lim (price za k)) k hk HA.out (.inl rfl))
          go_wp2_with fail
          go_ret
          exact ⟨⟨_, rfl, by rw [HBK.out, HN.out, HZ.out, HL.out]; exact crossed_ord hown (by omega)⟩, hbel⟩
    · have HX := Lib.hid (show crOk true 2 lim = false from by unfold crOk; rw [hok, hlim]; rfl)
      rw [hlim]
      clear hok hlim
      go_wp2_with fail
      go_ret
      exact ⟨⟨_, rfl, by rw [HBK.out, (cr_no HX.out).1, (cr_no HX.out).2]; exact hown⟩, hb1⟩
end Go.Proofs.Ytnldfbcelakimaa
