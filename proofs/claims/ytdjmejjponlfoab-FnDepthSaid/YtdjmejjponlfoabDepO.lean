/-
  The document's Depth, where a side may be nil.
-/
import Derived.Test.YtdjmejjponlfoabDep
import Derived.Test.YtdjmejjponlfoabOptS
namespace Go.Proofs.Ytdjmejjponlfoab
open Go.RowKit Wire

set_option linter.unusedSimpArgs false in
set_option maxHeartbeats 3200000 in
set_option maxRecDepth 100000 in
theorem spec_DepthO (O1 : Option Addr) (n c : Nat) (O2 : Option Addr) (m d : Nat) (za zb : List Int) (side : Int) (w : World) (ha : Lst w w.heap.size 4 O1 n za) (hb : Lst w w.heap.size 4 O2 m zb) (hn : n ≤ 1048576) (hm : m ≤ 1048576) (hO1 : O1 = none → n = 0 ∧ c = 0) (hO2 : O2 = none → m = 0 ∧ d = 0) :
    Calls Try.prog 29 #[.agg #[.slice O1 n c, .slice O2 m d], .int .i64 side] w fun e w' => (∃ r, e = .returned r ∧ w'.ownsRow w.heap.size 57 3 r (depN (bookB za n zb m) side za n zb m) (nums (depZ (bookB za n zb m) side za n zb m))) ∧ Below w.heap.size w w' := by
  obtain ⟨i0, hi, hz0, hz1, hz2⟩ := info_parts lvl_info
  have hb0 : Below w.heap.size w ((w.alloc (.cells #[.slice O1 n c, .slice O2 m d] 26)).alloc (.cells #[] 57)) := ((Below.refl _ _).alloc (Nat.le_refl _) _).alloc (by simp) _
  go_enter Try.func29, Try.ntmps29
  go_wp2_with fail
  have hA : Lst ((w.alloc (.cells #[.slice O1 n c, .slice O2 m d] 26)).alloc (.cells #[] 57)) ((w.alloc (.cells #[.slice O1 n c, .slice O2 m d] 26)).alloc (.cells #[] 57)).heap.size 4 O1 n za := ha.later hb0
  have hZb : Lst ((w.alloc (.cells #[.slice O1 n c, .slice O2 m d] 26)).alloc (.cells #[] 57)) ((w.alloc (.cells #[.slice O1 n c, .slice O2 m d] 26)).alloc (.cells #[] 57)).heap.size 4 O2 m zb := hb.later hb0
  have hE : ((w.alloc (.cells #[.slice O1 n c, .slice O2 m d] 26)).alloc (.cells #[] 57)).ownsRow w.heap.size 57 3 (.slice (some ⟨w.heap.size + 1, 0, none⟩) 0 0) 0 (nums []) := by
    have := own_empty (w.alloc (.cells #[.slice O1 n c, .slice O2 m d] 26)) 57 3
    rw [show (w.alloc (.cells #[.slice O1 n c, .slice O2 m d] 26)).heap.size = w.heap.size + 1 by simp] at this
    exact own_mono this (by omega)
  clear ha hb
  generalize ((w.alloc (.cells #[.slice O1 n c, .slice O2 m d] 26)).alloc (.cells #[] 57)) = w0 at *
  refine (spec_SideO O1 n c O2 m d za zb side w0 hA hZb hn hm hO1 hO2).mono ?_
  obtain ⟨hN20, hall, hsrt⟩ := side_facts (side := side) (rfl : bookB za n zb m = _)
  obtain ⟨N, hNe⟩ : ∃ N, sideN (bookB za n zb m) side n m = N := ⟨_, rfl⟩
  obtain ⟨zs, hZe⟩ : ∃ zs, sideZ (bookB za n zb m) side za zb = zs := ⟨_, rfl⟩
  have HZ := Lib.hid (show depZ (bookB za n zb m) side za n zb m = dpL zs N by unfold depZ; rw [hNe, hZe])
  rw [hNe] at hN20
  rw [hNe, hZe] at hall hsrt
  rw [hNe, hZe]
  clear hNe hZe
  rintro e w1 ⟨⟨r, rfl, hown⟩, hb1⟩
  obtain ⟨A6, c6, rfl, _, _⟩ := own_slice hown
  have hR : DepR w1 w.heap.size (.slice (some ⟨w.heap.size + 1, 0, none⟩) 0 0) 0 [] (.slice A6 N c6) N zs := ⟨own_below hE hb1, own_mono hown hb0.size⟩
  have hbel := hb0.trans (hb1.mono hb0.size)
  clear hE hown hb1 hb0 hA hZb
  go_wp2_with fail
  go_loopw [5, 7] (fun v i wr => ∃ k j : Nat, k ≤ N ∧ i = .int .i64 (k : Int) ∧ DpOk side zs k j (dpL zs k) ∧ DepR wr w.heap.size v j (dpL zs k) (.slice A6 N c6) N zs ∧ Below w.heap.size w wr) (fun _ i _ => N - (intOf i).toNat)
  case atStart => exact ⟨0, 0, Nat.zero_le _, rfl, DpOk.zero _ _, hR, hbel⟩
  case round =>
    clear hR hbel
    obtain ⟨k, j, hk, rfl, hD, hR, hbel⟩ := hrel
    obtain ⟨Av, dv, rfl, _, _⟩ := own_slice hR.lv
    by_cases hlt : k < N
    · obtain ⟨b, o, rfl, hb, c0, c1, c2, c3⟩ := (Lst.of_own hR.od).row4 hlt
      have hjk := hD.le
      rcases Nat.eq_zero_or_pos j with hj | hj
      · subst hj
        have HM := Lib.hid (hD.miss hall hsrt hlt (fun h => absurd h (Nat.lt_irrefl _)))
        have HG := Lib.hid (show dpL zs (k + 1) = dpL zs k ++ [num zs (k * 4 + 2), num zs (k * 4 + 3), 1] from dpL_miss hD.len (fun h => absurd h (Nat.lt_irrefl _)))
        clear hD hall hsrt
        go_upto_region 7 with fail
        go_quiet (fail)
        go_upto_region 10 with fail
        rename Nat => nq
        have hRe := hR.drewN nq
        have hbe : b < (wr.drewN nq).heap.size := hb
        have hbele : Below w.heap.size w (wr.drewN nq) := ⟨hbel.os, hbel.tape, hbel.output, hbel.size, hbel.block⟩
        have e2 : (wr.drewN nq).cell? ⟨b, o + k * 4 + 2, none⟩ = _ := c2
        have e3 : (wr.drewN nq).cell? ⟨b, o + k * 4 + 3, none⟩ = _ := c3
        clear hR hb hbel c0 c1 c2 c3
        generalize wr.drewN nq = we at *
        have hRd := hRe.drew
        have hbeld := hbele.drew
        have hbs := hbeld.size
        have hbs2 : w.heap.size ≤ we.heap.size := hbele.size
        have hbd : b < we.drew.heap.size := hbe
        refine wp_region_held_drew (S := fun w' => w'.cell? ⟨b, o + k * 4 + 2, none⟩ = some (.int .i64 (num zs (k * 4 + 2))) ∧ w'.cell? ⟨b, o + k * 4 + 3, none⟩ = some (.int .i64 (num zs (k * 4 + 3)))) (by kernel_rfl) ?hSq1xs (fun hHeld => ?restq1xs)
        case hSq1xs => (first | exact ⟨e2, e3⟩ | exact ⟨(((Below.refl _ _).alloc (Nat.le_refl _) _).cell (p := ⟨b, o + k * 4 + 2, none⟩) hbd).trans e2, (((Below.refl _ _).alloc (Nat.le_refl _) _).cell (p := ⟨b, o + k * 4 + 3, none⟩) hbd).trans e3⟩ | exact ⟨(grown_cell hgrow2 (by simp; omega) (fun e => hRd.apart b e rfl)).trans hHeld.1, (grown_cell hgrow2 (by simp; omega) (fun e => hRd.apart b e rfl)).trans hHeld.2⟩ | exact hHeld)
        refine wpAnyH_take (i := 0) (oi := ?oiq1x1) (v := ?vq1x1) ?hiq1x1 (by kernel_rfl) (by kernel_rfl) (by kernel_rfl) ?hQq1x1 (Or.inl ⟨?hwq1x1, ?hyq1x1⟩) (by assumption) ?restq1x1
        case hiq1x1 => simp only [List.getElem?_toArray, List.getElem?_cons_succ, List.getElem?_cons_zero]; exact rfl
        case hQq1x1 => exact fun _ _ _ h => h
        case hwq1x1 => rfl
        case hyq1x1 => ((intro w hSw; (try dsimp only at hSw); go_simp) <;> with_reducible rfl)
        try simp only [Act.put, List.setIfInBounds_toArray, List.set_cons_zero, List.set_cons_succ]
        refine wpAnyH_take (i := 1) (oi := ?oiq1x2) (v := ?vq1x2) ?hiq1x2 (by kernel_rfl) (by kernel_rfl) (by kernel_rfl) ?hQq1x2 (Or.inl ⟨?hwq1x2, ?hyq1x2⟩) (by assumption) ?restq1x2
        case hiq1x2 => simp only [List.getElem?_toArray, List.getElem?_cons_succ, List.getElem?_cons_zero]; exact rfl
        case hQq1x2 => exact fun _ _ _ h => h
        case hwq1x2 => rfl
        case hyq1x2 => ((intro w hSw; (try dsimp only at hSw); go_simp) <;> with_reducible rfl)
        try simp only [Act.put, List.setIfInBounds_toArray, List.set_cons_zero, List.set_cons_succ]
        refine wpAnyH_take (i := 2) (oi := ?oiq1x3) (v := ?vq1x3) ?hiq1x3 (by kernel_rfl) (by kernel_rfl) (by kernel_rfl) ?hQq1x3 (Or.inl ⟨?hwq1x3, ?hyq1x3⟩) (by assumption) ?restq1x3
        case hiq1x3 => simp only [List.getElem?_toArray, List.getElem?_cons_succ, List.getElem?_cons_zero]; exact rfl
        case hQq1x3 => exact fun _ _ _ h => h
        case hwq1x3 => rfl
        case hyq1x3 => ((intro w hSw; (try dsimp only at hSw); go_simp) <;> with_reducible rfl)
        try simp only [Act.put, List.setIfInBounds_toArray, List.set_cons_zero, List.set_cons_succ]
        refine wpAnyH_take (i := 3) (oi := ?oiq1x4) (v := ?vq1x4) ?hiq1x4 (by kernel_rfl) (by kernel_rfl) (by kernel_rfl) ?hQq1x4 (Or.inl ⟨?hwq1x4, ?hyq1x4⟩) (by assumption) ?restq1x4
        case hiq1x4 => simp only [List.getElem?_toArray, List.getElem?_cons_succ, List.getElem?_cons_zero]; exact rfl
        case hQq1x4 => exact fun _ _ _ h => h
        case hwq1x4 => rfl
        case hyq1x4 => ((intro w hSw; (try dsimp only at hSw); go_simp) <;> with_reducible rfl)
        try simp only [Act.put, List.setIfInBounds_toArray, List.set_cons_zero, List.set_cons_succ]
        refine wpAnyH_take (i := 4) (oi := ?oiq1x5) (v := ?vq1x5) ?hiq1x5 (by kernel_rfl) (by kernel_rfl) (by kernel_rfl) ?hQq1x5 (Or.inl ⟨?hwq1x5, ?hyq1x5⟩) (by assumption) ?restq1x5
        case hiq1x5 => simp only [List.getElem?_toArray, List.getElem?_cons_succ, List.getElem?_cons_zero]; exact rfl
        case hQq1x5 => exact fun _ _ _ h => h
        case hwq1x5 => rfl
        case hyq1x5 => ((intro w hSw; (try dsimp only at hSw); go_simp) <;> with_reducible rfl)
        try simp only [Act.put, List.setIfInBounds_toArray, List.set_cons_zero, List.set_cons_succ]
        refine wpAnyH_take (i := 5) (oi := ?oiq1x6) (v := ?vq1x6) ?hiq1x6 (by kernel_rfl) (by kernel_rfl) (by kernel_rfl) ?hQq1x6 (Or.inl ⟨?hwq1x6, ?hyq1x6⟩) (by assumption) ?restq1x6
        case hiq1x6 => simp only [List.getElem?_toArray, List.getElem?_cons_succ, List.getElem?_cons_zero]; exact rfl
        case hQq1x6 => exact fun _ _ _ h => h
        case hwq1x6 => rfl
        case hyq1x6 => ((intro w hSw; (try dsimp only at hSw); go_simp) <;> with_reducible rfl)
        try simp only [Act.put, List.setIfInBounds_toArray, List.set_cons_zero, List.set_cons_succ]
        refine wpAnyH_take (i := 6) (oi := ?oiq1x7) (v := ?vq1x7) ?hiq1x7 (by kernel_rfl) (by kernel_rfl) (by kernel_rfl) ?hQq1x7 (Or.inl ⟨?hwq1x7, ?hyq1x7⟩) (by assumption) ?restq1x7
        case hiq1x7 => simp only [List.getElem?_toArray, List.getElem?_cons_succ, List.getElem?_cons_zero]; exact rfl
        case hQq1x7 => exact fun _ _ _ h => h
        case hwq1x7 => rfl
        case hyq1x7 => ((intro w hSw; (try dsimp only at hSw); go_simp) <;> with_reducible rfl)
        try simp only [Act.put, List.setIfInBounds_toArray, List.set_cons_zero, List.set_cons_succ]
        refine wpAnyH_take (i := 7) (oi := ?oiq1x8) (v := ?vq1x8) ?hiq1x8 (by kernel_rfl) (by kernel_rfl) (by kernel_rfl) ?hQq1x8 (Or.inl ⟨?hwq1x8, ?hyq1x8⟩) (by assumption) ?restq1x8
        case hiq1x8 => simp only [List.getElem?_toArray, List.getElem?_cons_succ, List.getElem?_cons_zero]; exact rfl
        case hQq1x8 => exact fun _ _ _ h => h
        case hwq1x8 => rfl
        case hyq1x8 => ((intro w hSw; (try dsimp only at hSw); go_simp) <;> with_reducible rfl)
        try simp only [Act.put, List.setIfInBounds_toArray, List.set_cons_zero, List.set_cons_succ]
        refine wpAnyH_take (i := 8) (oi := ?oiq1x9) (v := ?vq1x9) ?hiq1x9 (by kernel_rfl) (by kernel_rfl) (by kernel_rfl) ?hQq1x9 (Or.inl ⟨?hwq1x9, ?hyq1x9⟩) (by assumption) ?restq1x9
        case hiq1x9 => simp only [List.getElem?_toArray, List.getElem?_cons_succ, List.getElem?_cons_zero]; exact rfl
        case hQq1x9 => exact fun _ _ _ h => h
        case hwq1x9 => rfl
        case hyq1x9 => ((intro w hSw; (try dsimp only at hSw); go_simp) <;> with_reducible rfl)
        try simp only [Act.put, List.setIfInBounds_toArray, List.set_cons_zero, List.set_cons_succ]
        refine wpAnyH_take (i := 9) (oi := ?oiq1x10) (v := ?vq1x10) ?hiq1x10 (by kernel_rfl) (by kernel_rfl) (by kernel_rfl) ?hQq1x10 (Or.inl ⟨?hwq1x10, ?hyq1x10⟩) (by assumption) ?restq1x10
        case hiq1x10 => simp only [List.getElem?_toArray, List.getElem?_cons_succ, List.getElem?_cons_zero]; exact rfl
        case hQq1x10 => exact fun _ _ _ h => h
        case hwq1x10 => rfl
        case hyq1x10 => ((intro w hSw; (try dsimp only at hSw); go_simp) <;> with_reducible rfl)
        try simp only [Act.put, List.setIfInBounds_toArray, List.set_cons_zero, List.set_cons_succ]
        refine wpAnyH_take (i := 10) (oi := ?oiq1x11) (v := ?vq1x11) ?hiq1x11 (by kernel_rfl) (by kernel_rfl) (by kernel_rfl) ?hQq1x11 (Or.inl ⟨?hwq1x11, ?hyq1x11⟩) (by assumption) ?restq1x11
        case hiq1x11 => simp only [List.getElem?_toArray, List.getElem?_cons_succ, List.getElem?_cons_zero]; exact rfl
        case hQq1x11 => exact fun _ _ _ h => h
        case hwq1x11 => rfl
        case hyq1x11 => ((intro w hSw; (try dsimp only at hSw); go_simp) <;> with_reducible rfl)
        try simp only [Act.put, List.setIfInBounds_toArray, List.set_cons_zero, List.set_cons_succ]
        refine wpAnyH_take (i := 11) (oi := ?oiq1x12) (v := ?vq1x12) ?hiq1x12 (by kernel_rfl) (by kernel_rfl) (by kernel_rfl) ?hQq1x12 (Or.inl ⟨?hwq1x12, ?hyq1x12⟩) (by assumption) ?restq1x12
        case hiq1x12 => simp only [List.getElem?_toArray, List.getElem?_cons_succ, List.getElem?_cons_zero]; exact rfl
        case hQq1x12 => exact fun _ _ _ h => h
        case hwq1x12 => rfl
        case hyq1x12 => ((intro w hSw; (try dsimp only at hSw); go_simp) <;> with_reducible rfl)
        try simp only [Act.put, List.setIfInBounds_toArray, List.set_cons_zero, List.set_cons_succ]
        refine wpAnyH_ready (rs := [12]) (by kernel_rfl) (by simp) ?_
        refine AllReadyH.cons (o := ?oq1x13) ?hoq1x13 (fun K hK => ?stepq1x13) ?moreq1x13
        case hoq1x13 => simp only [List.getElem?_toArray, List.getElem?_cons_succ, List.getElem?_cons_zero]; exact rfl
        case moreq1x13 => exact AllReadyH.nil
        go_simp
        skip
        refine hK.out _ _ ?hSq1x13 (fun hHeld => ?restq1x13)
        case hSq1x13 => (first | exact ⟨e2, e3⟩ | exact ⟨(((Below.refl _ _).alloc (Nat.le_refl _) _).cell (p := ⟨b, o + k * 4 + 2, none⟩) hbd).trans e2, (((Below.refl _ _).alloc (Nat.le_refl _) _).cell (p := ⟨b, o + k * 4 + 3, none⟩) hbd).trans e3⟩ | exact ⟨(grown_cell hgrow2 (by simp; omega) (fun e => hRd.apart b e rfl)).trans hHeld.1, (grown_cell hgrow2 (by simp; omega) (fun e => hRd.apart b e rfl)).trans hHeld.2⟩ | exact hHeld)
        clear hK K
        try simp only [Act.put, List.setIfInBounds_toArray, List.set_cons_zero, List.set_cons_succ]
        refine wpAnyH_ready (rs := [13]) (by kernel_rfl) (by simp) ?_
        refine AllReadyH.cons (o := ?oq1x14) ?hoq1x14 (fun K hK => ?stepq1x14) ?moreq1x14
        case hoq1x14 => simp only [List.getElem?_toArray, List.getElem?_cons_succ, List.getElem?_cons_zero]; exact rfl
        case moreq1x14 => exact AllReadyH.nil
        (refine step_append_own _ rfl _ _ 49 rfl w.heap.size 57 i0 _ 3 24 Try.underlying49 hi hz0 hz1 hz2 rfl (by decide) _ _ _ rfl (hRd.lv.alloc _) ⟨we.drew.heap.size, 0, none⟩ 1 1 [.int .i64 (num zs (k * 4 + 2)), .int .i64 (num zs (k * 4 + 3)), .int .i64 1] rfl rfl (World.news_of_block (heap_alloc_new we.drew _)) (by intro u hu; simp at hu; rcases hu with rfl | rfl | rfl <;> rfl) (by unfold maxLen; omega) (by omega) (by simp; omega) ?_; intro v' u2 hown2 hgrow2 _)
        refine hK.out _ _ ?hSq1x14 (fun hHeld => ?restq1x14)
        case hSq1x14 => (first | exact ⟨e2, e3⟩ | exact ⟨(((Below.refl _ _).alloc (Nat.le_refl _) _).cell (p := ⟨b, o + k * 4 + 2, none⟩) hbd).trans e2, (((Below.refl _ _).alloc (Nat.le_refl _) _).cell (p := ⟨b, o + k * 4 + 3, none⟩) hbd).trans e3⟩ | exact ⟨(grown_cell hgrow2 (by simp; omega) (fun e => hRd.apart b e rfl)).trans hHeld.1, (grown_cell hgrow2 (by simp; omega) (fun e => hRd.apart b e rfl)).trans hHeld.2⟩ | exact hHeld)
        clear hK K
        try simp only [Act.put, List.setIfInBounds_toArray, List.set_cons_zero, List.set_cons_succ]
        refine wpAnyH_take (i := 14) (oi := ?oiq1x15) (v := ?vq1x15) ?hiq1x15 (by kernel_rfl) (by kernel_rfl) (by kernel_rfl) ?hQq1x15 (Or.inl ⟨?hwq1x15, ?hyq1x15⟩) (by assumption) ?restq1x15
        case hiq1x15 => simp only [List.getElem?_toArray, List.getElem?_cons_succ, List.getElem?_cons_zero]; exact rfl
        case hQq1x15 => exact fun _ _ _ h => h
        case hwq1x15 => rfl
        case hyq1x15 => ((intro w hSw; (try dsimp only at hSw); go_simp) <;> with_reducible rfl)
        try simp only [Act.put, List.setIfInBounds_toArray, List.set_cons_zero, List.set_cons_succ]
        refine wpAnyH_done (by kernel_rfl) ?_ _
        have hR2 := (DepR.later hRd ((Below.refl _ _).alloc (Nat.le_refl _) _)).more (L' := dpL zs (k + 1)) (by rw [HG.out, nums_append]; exact hown2) hgrow2
        have hbel2 := (hbeld.alloc hbs _).grown hgrow2 (by simp; omega) (fun q hq => (hRd.lv.lt q hq).1)
        obtain ⟨A3, d3, rfl, _, _⟩ := own_slice hown2
        clear hown2 hgrow2 hRd hbeld e2 e3 hRe hbele hbd hbe
        go_wp2_with fail
        go_roundw
        case rel => exact ⟨k + 1, 0 + 1, by omega, by go_num, HM.out, hR2, hbel2⟩
        case measure => simp [intOf]; omega
      · obtain ⟨i, rfl⟩ : ∃ i, j = i + 1 := ⟨j - 1, by omega⟩
        obtain ⟨g, cg, hv, _, _⟩ := World.ownsRow.form hR.lv (by omega)
        injection hv with hv1 _ hv2
        subst hv1 hv2
        have l0 := own_at3 hR.lv (i := i * 3) (by omega)
        by_cases he : num (dpL zs k) (i * 3) = num zs (k * 4 + 2)
        · have HE := Lib.hid he
          rw [he] at l0
          clear he
          go_upto_region 7 with fail
          go_quiet (fail)
          go_upto_region 8 with fail
          rename Nat => nq
          have hRe := hR.drewN nq
          have hbele : Below w.heap.size w (wr.drewN nq) := ⟨hbel.os, hbel.tape, hbel.output, hbel.size, hbel.block⟩
          have e3 : (wr.drewN nq).cell? ⟨b, o + k * 4 + 3, none⟩ = _ := c3
          have l1 : (wr.drewN nq).cell? ⟨g, i * 3 + 1, none⟩ = _ := own_at3 hR.lv (i := i * 3 + 1) (by omega)
          obtain ⟨lo1, lo2⟩ := hD.lo i (by omega)
          obtain ⟨hi1, hi2⟩ := hD.hi i (by omega)
          have hq := allO_at N k hall hlt
          simp only [ordB, inB, Bool.and_eq_true, decide_eq_true_eq] at hq
          have hq1 := hq.2.2.2.1
          have hq2 := hq.2.2.2.2
          have HM := Lib.hid (hD.hit hall hlt (by omega) (by rw [show (i + 1 - 1) * 3 = i * 3 by omega]; exact HE.out))
          have HG := Lib.hid (show dpL zs (k + 1) = ((dpL zs k).set (i * 3 + 1) (num (dpL zs k) (i * 3 + 1) + num zs (k * 4 + 3))).set (i * 3 + 2) (num (dpL zs k) (i * 3 + 2) + 1) from dpL_hit hD.len (by omega) (by rw [show (i + 1 - 1) * 3 = i * 3 by omega]; exact HE.out))
          clear hR hb hbel c0 c1 c2 c3 l0 hq hD hall hsrt
          generalize hL : dpL zs k = L at *
          have HL := Lib.hid hL
          clear hL
          generalize wr.drewN nq = wq at *
          have b1 : (i < i + 1) = True := by simp
          have b2 : ((i : Int) < (i : Int) + 1) = True := by simp; omega
          have b3 : i < i + 1 := by omega
          go_still_tail 13, (by kernel_rfl)
          change wpList _ _ _ _ _ wq.drew
          clear e3 l1
          replace hRe := hRe.drew
          replace hbele := hbele.drew
          generalize wq.drew = we at *
          have z1 := hRe.lv.frozenAt (i * 3 + 1)
          have y1 := own_at3 hRe.lv (i := i * 3 + 1) (by omega)
          go_upto_region 9 with fail
          clear z1 y1
          replace hbele := hbele.setCell (p := ⟨g, i * 3 + 1, none⟩) (hRe.lv.lt g rfl).1 (.int .i64 (num L (i * 3 + 1) + num zs (k * 4 + 3)))
          replace hRe := hRe.set (i * 3 + 1) (num L (i * 3 + 1) + num zs (k * 4 + 3))
          generalize we.setCell ⟨g, i * 3 + 1, none⟩ (.int .i64 (num L (i * 3 + 1) + num zs (k * 4 + 3))) = w2 at *
          have l2 := own_at3 hRe.lv (i := i * 3 + 2) (by omega)
          rw [num_set_ne (by omega)] at l2
          have z2 := hRe.lv.frozenAt (i * 3 + 2)
          replace hbele := hbele.setCell (p := ⟨g, i * 3 + 2, none⟩) (hRe.lv.lt g rfl).1 (.int .i64 (num L (i * 3 + 2) + 1))
          have hR2 := hRe.set (i * 3 + 2) (num L (i * 3 + 2) + 1)
          clear hRe
          go_wp2_with fail
          go_roundw
          case rel => exact ⟨k + 1, i + 1, by omega, by go_num, HM.out, by rw [HG.out]; exact hR2, hbele⟩
          case measure => simp [intOf]; omega
        · have HE := Lib.hid he
          have t : (num (dpL zs k) (i * 3) == num zs (k * 4 + 2)) = false := beq_eq_false_iff_ne.2 he
          have HM := Lib.hid (hD.miss hall hsrt hlt (fun _ => he))
          have HG := Lib.hid (show dpL zs (k + 1) = dpL zs k ++ [num zs (k * 4 + 2), num zs (k * 4 + 3), 1] from dpL_miss hD.len (fun _ => he))
          clear he hD hall hsrt
          go_upto_region 7 with fail
          go_quiet (fail)
          go_upto_region 10 with fail
          rename Nat => nq
          have hRe := hR.drewN nq
          have hbe : b < (wr.drewN nq).heap.size := hb
          have hbele : Below w.heap.size w (wr.drewN nq) := ⟨hbel.os, hbel.tape, hbel.output, hbel.size, hbel.block⟩
          have e2 : (wr.drewN nq).cell? ⟨b, o + k * 4 + 2, none⟩ = _ := c2
          have e3 : (wr.drewN nq).cell? ⟨b, o + k * 4 + 3, none⟩ = _ := c3
          clear hR hb hbel c0 c1 c2 c3
          generalize wr.drewN nq = we at *
          have hRd := hRe.drew
          have hbeld := hbele.drew
          have hbs := hbeld.size
          have hbs2 : w.heap.size ≤ we.heap.size := hbele.size
          have hbd : b < we.drew.heap.size := hbe
          refine wp_region_held_drew (S := fun w' => w'.cell? ⟨b, o + k * 4 + 2, none⟩ = some (.int .i64 (num zs (k * 4 + 2))) ∧ w'.cell? ⟨b, o + k * 4 + 3, none⟩ = some (.int .i64 (num zs (k * 4 + 3)))) (by kernel_rfl) ?hSq2xs (fun hHeld => ?restq2xs)
          case hSq2xs => (first | exact ⟨e2, e3⟩ | exact ⟨(((Below.refl _ _).alloc (Nat.le_refl _) _).cell (p := ⟨b, o + k * 4 + 2, none⟩) hbd).trans e2, (((Below.refl _ _).alloc (Nat.le_refl _) _).cell (p := ⟨b, o + k * 4 + 3, none⟩) hbd).trans e3⟩ | exact ⟨(grown_cell hgrow2 (by simp; omega) (fun e => hRd.apart b e rfl)).trans hHeld.1, (grown_cell hgrow2 (by simp; omega) (fun e => hRd.apart b e rfl)).trans hHeld.2⟩ | exact hHeld)
          refine wpAnyH_take (i := 0) (oi := ?oiq2x1) (v := ?vq2x1) ?hiq2x1 (by kernel_rfl) (by kernel_rfl) (by kernel_rfl) ?hQq2x1 (Or.inl ⟨?hwq2x1, ?hyq2x1⟩) (by assumption) ?restq2x1
          case hiq2x1 => simp only [List.getElem?_toArray, List.getElem?_cons_succ, List.getElem?_cons_zero]; exact rfl
          case hQq2x1 => exact fun _ _ _ h => h
          case hwq2x1 => rfl
          case hyq2x1 => ((intro w hSw; (try dsimp only at hSw); go_simp) <;> with_reducible rfl)
          try simp only [Act.put, List.setIfInBounds_toArray, List.set_cons_zero, List.set_cons_succ]
          refine wpAnyH_take (i := 1) (oi := ?oiq2x2) (v := ?vq2x2) ?hiq2x2 (by kernel_rfl) (by kernel_rfl) (by kernel_rfl) ?hQq2x2 (Or.inl ⟨?hwq2x2, ?hyq2x2⟩) (by assumption) ?restq2x2
          case hiq2x2 => simp only [List.getElem?_toArray, List.getElem?_cons_succ, List.getElem?_cons_zero]; exact rfl
          case hQq2x2 => exact fun _ _ _ h => h
          case hwq2x2 => rfl
          case hyq2x2 => ((intro w hSw; (try dsimp only at hSw); go_simp) <;> with_reducible rfl)
          try simp only [Act.put, List.setIfInBounds_toArray, List.set_cons_zero, List.set_cons_succ]
          refine wpAnyH_take (i := 2) (oi := ?oiq2x3) (v := ?vq2x3) ?hiq2x3 (by kernel_rfl) (by kernel_rfl) (by kernel_rfl) ?hQq2x3 (Or.inl ⟨?hwq2x3, ?hyq2x3⟩) (by assumption) ?restq2x3
          case hiq2x3 => simp only [List.getElem?_toArray, List.getElem?_cons_succ, List.getElem?_cons_zero]; exact rfl
          case hQq2x3 => exact fun _ _ _ h => h
          case hwq2x3 => rfl
          case hyq2x3 => ((intro w hSw; (try dsimp only at hSw); go_simp) <;> with_reducible rfl)
          try simp only [Act.put, List.setIfInBounds_toArray, List.set_cons_zero, List.set_cons_succ]
          refine wpAnyH_take (i := 3) (oi := ?oiq2x4) (v := ?vq2x4) ?hiq2x4 (by kernel_rfl) (by kernel_rfl) (by kernel_rfl) ?hQq2x4 (Or.inl ⟨?hwq2x4, ?hyq2x4⟩) (by assumption) ?restq2x4
          case hiq2x4 => simp only [List.getElem?_toArray, List.getElem?_cons_succ, List.getElem?_cons_zero]; exact rfl
          case hQq2x4 => exact fun _ _ _ h => h
          case hwq2x4 => rfl
          case hyq2x4 => ((intro w hSw; (try dsimp only at hSw); go_simp) <;> with_reducible rfl)
          try simp only [Act.put, List.setIfInBounds_toArray, List.set_cons_zero, List.set_cons_succ]
          refine wpAnyH_take (i := 4) (oi := ?oiq2x5) (v := ?vq2x5) ?hiq2x5 (by kernel_rfl) (by kernel_rfl) (by kernel_rfl) ?hQq2x5 (Or.inl ⟨?hwq2x5, ?hyq2x5⟩) (by assumption) ?restq2x5
          case hiq2x5 => simp only [List.getElem?_toArray, List.getElem?_cons_succ, List.getElem?_cons_zero]; exact rfl
          case hQq2x5 => exact fun _ _ _ h => h
          case hwq2x5 => rfl
          case hyq2x5 => ((intro w hSw; (try dsimp only at hSw); go_simp) <;> with_reducible rfl)
          try simp only [Act.put, List.setIfInBounds_toArray, List.set_cons_zero, List.set_cons_succ]
          refine wpAnyH_take (i := 5) (oi := ?oiq2x6) (v := ?vq2x6) ?hiq2x6 (by kernel_rfl) (by kernel_rfl) (by kernel_rfl) ?hQq2x6 (Or.inl ⟨?hwq2x6, ?hyq2x6⟩) (by assumption) ?restq2x6
          case hiq2x6 => simp only [List.getElem?_toArray, List.getElem?_cons_succ, List.getElem?_cons_zero]; exact rfl
          case hQq2x6 => exact fun _ _ _ h => h
          case hwq2x6 => rfl
          case hyq2x6 => ((intro w hSw; (try dsimp only at hSw); go_simp) <;> with_reducible rfl)
          try simp only [Act.put, List.setIfInBounds_toArray, List.set_cons_zero, List.set_cons_succ]
          refine wpAnyH_take (i := 6) (oi := ?oiq2x7) (v := ?vq2x7) ?hiq2x7 (by kernel_rfl) (by kernel_rfl) (by kernel_rfl) ?hQq2x7 (Or.inl ⟨?hwq2x7, ?hyq2x7⟩) (by assumption) ?restq2x7
          case hiq2x7 => simp only [List.getElem?_toArray, List.getElem?_cons_succ, List.getElem?_cons_zero]; exact rfl
          case hQq2x7 => exact fun _ _ _ h => h
          case hwq2x7 => rfl
          case hyq2x7 => ((intro w hSw; (try dsimp only at hSw); go_simp) <;> with_reducible rfl)
          try simp only [Act.put, List.setIfInBounds_toArray, List.set_cons_zero, List.set_cons_succ]
          refine wpAnyH_take (i := 7) (oi := ?oiq2x8) (v := ?vq2x8) ?hiq2x8 (by kernel_rfl) (by kernel_rfl) (by kernel_rfl) ?hQq2x8 (Or.inl ⟨?hwq2x8, ?hyq2x8⟩) (by assumption) ?restq2x8
          case hiq2x8 => simp only [List.getElem?_toArray, List.getElem?_cons_succ, List.getElem?_cons_zero]; exact rfl
          case hQq2x8 => exact fun _ _ _ h => h
          case hwq2x8 => rfl
          case hyq2x8 => ((intro w hSw; (try dsimp only at hSw); go_simp) <;> with_reducible rfl)
          try simp only [Act.put, List.setIfInBounds_toArray, List.set_cons_zero, List.set_cons_succ]
          refine wpAnyH_take (i := 8) (oi := ?oiq2x9) (v := ?vq2x9) ?hiq2x9 (by kernel_rfl) (by kernel_rfl) (by kernel_rfl) ?hQq2x9 (Or.inl ⟨?hwq2x9, ?hyq2x9⟩) (by assumption) ?restq2x9
          case hiq2x9 => simp only [List.getElem?_toArray, List.getElem?_cons_succ, List.getElem?_cons_zero]; exact rfl
          case hQq2x9 => exact fun _ _ _ h => h
          case hwq2x9 => rfl
          case hyq2x9 => ((intro w hSw; (try dsimp only at hSw); go_simp) <;> with_reducible rfl)
          try simp only [Act.put, List.setIfInBounds_toArray, List.set_cons_zero, List.set_cons_succ]
          refine wpAnyH_take (i := 9) (oi := ?oiq2x10) (v := ?vq2x10) ?hiq2x10 (by kernel_rfl) (by kernel_rfl) (by kernel_rfl) ?hQq2x10 (Or.inl ⟨?hwq2x10, ?hyq2x10⟩) (by assumption) ?restq2x10
          case hiq2x10 => simp only [List.getElem?_toArray, List.getElem?_cons_succ, List.getElem?_cons_zero]; exact rfl
          case hQq2x10 => exact fun _ _ _ h => h
          case hwq2x10 => rfl
          case hyq2x10 => ((intro w hSw; (try dsimp only at hSw); go_simp) <;> with_reducible rfl)
          try simp only [Act.put, List.setIfInBounds_toArray, List.set_cons_zero, List.set_cons_succ]
          refine wpAnyH_take (i := 10) (oi := ?oiq2x11) (v := ?vq2x11) ?hiq2x11 (by kernel_rfl) (by kernel_rfl) (by kernel_rfl) ?hQq2x11 (Or.inl ⟨?hwq2x11, ?hyq2x11⟩) (by assumption) ?restq2x11
          case hiq2x11 => simp only [List.getElem?_toArray, List.getElem?_cons_succ, List.getElem?_cons_zero]; exact rfl
          case hQq2x11 => exact fun _ _ _ h => h
          case hwq2x11 => rfl
          case hyq2x11 => ((intro w hSw; (try dsimp only at hSw); go_simp) <;> with_reducible rfl)
          try simp only [Act.put, List.setIfInBounds_toArray, List.set_cons_zero, List.set_cons_succ]
          refine wpAnyH_take (i := 11) (oi := ?oiq2x12) (v := ?vq2x12) ?hiq2x12 (by kernel_rfl) (by kernel_rfl) (by kernel_rfl) ?hQq2x12 (Or.inl ⟨?hwq2x12, ?hyq2x12⟩) (by assumption) ?restq2x12
          case hiq2x12 => simp only [List.getElem?_toArray, List.getElem?_cons_succ, List.getElem?_cons_zero]; exact rfl
          case hQq2x12 => exact fun _ _ _ h => h
          case hwq2x12 => rfl
          case hyq2x12 => ((intro w hSw; (try dsimp only at hSw); go_simp) <;> with_reducible rfl)
          try simp only [Act.put, List.setIfInBounds_toArray, List.set_cons_zero, List.set_cons_succ]
          refine wpAnyH_ready (rs := [12]) (by kernel_rfl) (by simp) ?_
          refine AllReadyH.cons (o := ?oq2x13) ?hoq2x13 (fun K hK => ?stepq2x13) ?moreq2x13
          case hoq2x13 => simp only [List.getElem?_toArray, List.getElem?_cons_succ, List.getElem?_cons_zero]; exact rfl
          case moreq2x13 => exact AllReadyH.nil
          go_simp
          skip
          refine hK.out _ _ ?hSq2x13 (fun hHeld => ?restq2x13)
          case hSq2x13 => (first | exact ⟨e2, e3⟩ | exact ⟨(((Below.refl _ _).alloc (Nat.le_refl _) _).cell (p := ⟨b, o + k * 4 + 2, none⟩) hbd).trans e2, (((Below.refl _ _).alloc (Nat.le_refl _) _).cell (p := ⟨b, o + k * 4 + 3, none⟩) hbd).trans e3⟩ | exact ⟨(grown_cell hgrow2 (by simp; omega) (fun e => hRd.apart b e rfl)).trans hHeld.1, (grown_cell hgrow2 (by simp; omega) (fun e => hRd.apart b e rfl)).trans hHeld.2⟩ | exact hHeld)
          clear hK K
          try simp only [Act.put, List.setIfInBounds_toArray, List.set_cons_zero, List.set_cons_succ]
          refine wpAnyH_ready (rs := [13]) (by kernel_rfl) (by simp) ?_
          refine AllReadyH.cons (o := ?oq2x14) ?hoq2x14 (fun K hK => ?stepq2x14) ?moreq2x14
          case hoq2x14 => simp only [List.getElem?_toArray, List.getElem?_cons_succ, List.getElem?_cons_zero]; exact rfl
          case moreq2x14 => exact AllReadyH.nil
          (refine step_append_own _ rfl _ _ 49 rfl w.heap.size 57 i0 _ 3 24 Try.underlying49 hi hz0 hz1 hz2 rfl (by decide) _ _ _ rfl (hRd.lv.alloc _) ⟨we.drew.heap.size, 0, none⟩ 1 1 [.int .i64 (num zs (k * 4 + 2)), .int .i64 (num zs (k * 4 + 3)), .int .i64 1] rfl rfl (World.news_of_block (heap_alloc_new we.drew _)) (by intro u hu; simp at hu; rcases hu with rfl | rfl | rfl <;> rfl) (by unfold maxLen; omega) (by omega) (by simp; omega) ?_; intro v' u2 hown2 hgrow2 _)
          refine hK.out _ _ ?hSq2x14 (fun hHeld => ?restq2x14)
          case hSq2x14 => (first | exact ⟨e2, e3⟩ | exact ⟨(((Below.refl _ _).alloc (Nat.le_refl _) _).cell (p := ⟨b, o + k * 4 + 2, none⟩) hbd).trans e2, (((Below.refl _ _).alloc (Nat.le_refl _) _).cell (p := ⟨b, o + k * 4 + 3, none⟩) hbd).trans e3⟩ | exact ⟨(grown_cell hgrow2 (by simp; omega) (fun e => hRd.apart b e rfl)).trans hHeld.1, (grown_cell hgrow2 (by simp; omega) (fun e => hRd.apart b e rfl)).trans hHeld.2⟩ | exact hHeld)
          clear hK K
          try simp only [Act.put, List.setIfInBounds_toArray, List.set_cons_zero, List.set_cons_succ]
          refine wpAnyH_take (i := 14) (oi := ?oiq2x15) (v := ?vq2x15) ?hiq2x15 (by kernel_rfl) (by kernel_rfl) (by kernel_rfl) ?hQq2x15 (Or.inl ⟨?hwq2x15, ?hyq2x15⟩) (by assumption) ?restq2x15
          case hiq2x15 => simp only [List.getElem?_toArray, List.getElem?_cons_succ, List.getElem?_cons_zero]; exact rfl
          case hQq2x15 => exact fun _ _ _ h => h
          case hwq2x15 => rfl
          case hyq2x15 => ((intro w hSw; (try dsimp only at hSw); go_simp) <;> with_reducible rfl)
          try simp only [Act.put, List.setIfInBounds_toArray, List.set_cons_zero, List.set_cons_succ]
          refine wpAnyH_done (by kernel_rfl) ?_ _
          have hR2 := (DepR.later hRd ((Below.refl _ _).alloc (Nat.le_refl _) _)).more (L' := dpL zs (k + 1)) (by rw [HG.out, nums_append]; exact hown2) hgrow2
          have hbel2 := (hbeld.alloc hbs _).grown hgrow2 (by simp; omega) (fun q hq => (hRd.lv.lt q hq).1)
          obtain ⟨A3, d3, rfl, _, _⟩ := own_slice hown2
          clear hown2 hgrow2 hRd hbeld e2 e3 hRe hbele hbd hbe
          go_wp2_with fail
          go_roundw
          case rel => exact ⟨k + 1, i + 1 + 1, by omega, by go_num, HM.out, hR2, hbel2⟩
          case measure => simp [intOf]; omega
    · obtain rfl : k = N := by omega
      have hlen := hD.len
      have hle := hD.le
      have HD := Lib.hid hlen
      clear hlen hD hall hsrt
      go_wp2_with fail
      go_ret
      exact ⟨⟨_, rfl, by rw [depN_of (by rw [HZ.out]; exact HD.out), HZ.out]; exact hR.lv⟩, hbel⟩
end Go.Proofs.Ytdjmejjponlfoab
