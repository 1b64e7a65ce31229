/-
  A drawn candle.
-/
import Derived.Test.YteikflfchkmbnaaDrawBeh
namespace Go.Proofs.Yteikflfchkmbnaa
open Go.RowKit Wire

def six (a b c d e f : Int) (j : Nat) : Int := match j with
  | 0 => a | 1 => b | 2 => c | 3 => d | 4 => e | _ => f
theorem src_below {w w' : World} {g : Nat} {A : Option Addr} {len : Nat} (h : Src w w.heap.size A len) (hb : Below w.heap.size w w') (hg : w.heap.size ≤ g) : Src w' g A len := fun i hi => by
  obtain ⟨b, o, n, h1, h2, h3, h4, h5⟩ := h i hi
  exact ⟨b, o, n, h1, Nat.lt_of_lt_of_le h2 hg, h3, h4, (hb.cell (p := ⟨b, o + i, none⟩) h2).trans h5⟩
def SomeCandle (w : World) (e : Ending) (w' : World) : Prop := ∃ f : Nat → Int, e = .returned (.agg #[.int .i64 (f 0), .int .i64 (f 1), .int .i64 (f 2), .int .i64 (f 3), .int .i64 (f 4), .int .i64 (f 5)]) ∧ Below w.heap.size w w'
set_option linter.unusedSimpArgs false in
set_option maxHeartbeats 1600000 in
set_option maxRecDepth 100000 in
theorem DrawCandleOk_any (A : Option Addr) (len cap : Nat) (w : World) (hs : Src w w.heap.size A len) (hl : len ≤ 9223372036854775807) :
    Calls Try.prog 26 #[.slice A len cap] w (SomeCandle w) := by
  have k0 := heap_alloc_new w (.cells #[.int .i64 0, .int .i64 0, .int .i64 0, .int .i64 0, .int .i64 0, .int .i64 0] 44)
  have hb0 : Below w.heap.size w (w.alloc (.cells #[.int .i64 0, .int .i64 0, .int .i64 0, .int .i64 0, .int .i64 0, .int .i64 0] 44)) := (Below.refl _ _).alloc (Nat.le_refl _) _
  have hsz : (w.alloc (.cells #[.int .i64 0, .int .i64 0, .int .i64 0, .int .i64 0, .int .i64 0, .int .i64 0] 44)).heap.size = w.heap.size + 1 := by simp
  go_enter Try.func26, Try.ntmps26
  go_wp2_with fail
  refine (open_any A len cap _).mono ?_
  rintro e w1 ⟨rfl, rfl⟩
  have hr1 : RdAt ((w.alloc (.cells #[.int .i64 0, .int .i64 0, .int .i64 0, .int .i64 0, .int .i64 0, .int .i64 0] 44)).alloc (.cells #[.slice A len cap, .int .i64 0] 112)) (w.alloc (.cells #[.int .i64 0, .int .i64 0, .int .i64 0, .int .i64 0, .int .i64 0, .int .i64 0] 44)).heap.size A len cap 0 := ⟨Nat.zero_le _, heap_alloc_new _ _⟩
  replace hb0 := hb0.alloc (by omega) (.cells #[.slice A len cap, .int .i64 0] 112)
  replace k0 := (Below.heap_alloc (w.alloc (.cells #[.int .i64 0, .int .i64 0, .int .i64 0, .int .i64 0, .int .i64 0, .int .i64 0] 44)) (.cells #[.slice A len cap, .int .i64 0] 112) w.heap.size (by omega)).trans k0
  rw [hsz] at hr1 ⊢
  clear hsz
  generalize (w.alloc (.cells #[.int .i64 0, .int .i64 0, .int .i64 0, .int .i64 0, .int .i64 0, .int .i64 0] 44)).alloc (.cells #[.slice A len cap, .int .i64 0] 112) = w1 at *
  go_wp2_with fail
  refine (trades_any 6 (w.heap.size + 1) A len cap 0 _ hr1 (src_below hs hb0 (by omega)) hl (by omega)).mono ?_
  rintro e w2 ⟨v, n, zs, p, hn, rfl, ho, hr2, hg2⟩
  obtain ⟨A1, c1, rfl, _, _⟩ := own_slice ho
  have hL := Lst.of_own ho
  replace hb0 := hb0.grown hg2 hb0.size (fun k h => by cases h; omega)
  replace k0 := (hg2.block w.heap.size (heap_lt' k0) (fun e => by injection e with e; omega)).trans k0
  clear ho hg2 hr1
  go_wp2_with fail
  refine (spec_CandleOf A1 n c1 zs _ hL (by omega)).mono ?_
  rw [cndF_val]
  generalize cndF zs n = fa at *
  generalize cndB zs n = bb
  rintro e w3 ⟨rfl, hb3⟩
  have hbx := hb3.alloc hb3.size (.cells #[.int .i64 (fa 0), .int .i64 (fa 1), .int .i64 (fa 2), .int .i64 (fa 3), .int .i64 (fa 4), .int .i64 (fa 5)] 44)
  have hgl := Nat.lt_of_lt_of_le hr2.lt hb3.size
  have hr3 := hr2.below hbx
  have kC := heap_alloc_new w3 (.cells #[.int .i64 (fa 0), .int .i64 (fa 1), .int .i64 (fa 2), .int .i64 (fa 3), .int .i64 (fa 4), .int .i64 (fa 5)] 44)
  replace k0 := (hbx.block w.heap.size (heap_lt' k0)).trans k0
  replace hb0 := below_later hb0 hbx
  clear hL hbx hb3 hr2
  go_wp2_with fail
  generalize w3.alloc (.cells #[.int .i64 (fa 0), .int .i64 (fa 1), .int .i64 (fa 2), .int .i64 (fa 3), .int .i64 (fa 4), .int .i64 (fa 5)] 44) = w4 at *
  generalize w3.heap.size = GC at *
  refine (below_any 6 (w.heap.size + 1) A len cap p _ hr3 (src_below hs hb0 (by omega)) hl (by omega) (by omega)).mono ?_
  rintro e w5 ⟨m, p5, m0, m1, rfl, hr5, hg5⟩
  replace hb0 := hb0.grown hg5 hb0.size (fun k h => by cases h; omega)
  replace k0 := (hg5.block w.heap.size (heap_lt' k0) (fun e => by injection e with e; omega)).trans k0
  replace kC := (hg5.block GC (heap_lt' kC) (fun e => by injection e with e; omega)).trans kC
  clear hr3 hg5
  rcases (show m = 0 ∨ m = 1 ∨ 2 ≤ m from by omega) with rfl | rfl | h2m
  · go_wp2_with fail
    refine (off_any 97 103 (w.heap.size + 1) A len cap p5 _ hr5 (src_below hs hb0 (by omega)) hl (by omega) (by omega) (by omega)).mono ?_
    rintro e w6 ⟨x, p6, _, rfl, hr6, hg6⟩
    replace hb0 := hb0.grown hg6 hb0.size (fun k h => by cases h; omega)
    replace k0 := (hg6.block w.heap.size (heap_lt' k0) (fun e => by injection e with e; omega)).trans k0
    replace kC := (hg6.block GC (heap_lt' kC) (fun e => by injection e with e; omega)).trans kC
    clear hr5 hg6 hr6
    obtain ⟨c0, c1, c2, c3, c4, c5⟩ := cell6 kC
    obtain ⟨f0, f1, f2, f3, f4, f5⟩ := free6 kC
    go_upto_region 8 with fail
    clear c0 c1 c2 c3 c4 c5 f0 f1 f2 f3 f4 f5
    replace kC := set6 kC 1 (.int .i64 x)
    simp only [List.setIfInBounds_toArray, List.set_cons_zero, List.set_cons_succ] at kC
    replace k0 := (Below.heap_setCell w6 ⟨GC, 1, none⟩ (.int .i64 x) w.heap.size (show w.heap.size ≠ GC by omega)).trans k0
    replace hb0 := hb0.setCell (p := ⟨GC, 1, none⟩) (show w.heap.size ≤ GC by omega) (.int .i64 x)
    generalize w6.setCell ⟨GC, 1, none⟩ (.int .i64 x) = w7 at *
    obtain ⟨c0, c1, c2, c3, c4, c5⟩ := cell6 kC
    obtain ⟨d0, d1, d2, d3, d4, d5⟩ := cell6 k0
    obtain ⟨f0, f1, f2, f3, f4, f5⟩ := free6 k0
    have R0 := Lib.hid k0
    have RB := Lib.hid (hb0)
    clear kC k0
    go_wp2_with fail
    have r0 := put6 (u0 := .int .i64 (fa 0)) (u1 := .int .i64 x) (u2 := .int .i64 (fa 2)) (u3 := .int .i64 (fa 3)) (u4 := .int .i64 (fa 4)) (u5 := .int .i64 (fa 5)) R0.out
    obtain ⟨e0, e1, e2, e3, e4, e5⟩ := cell6 r0
    refine bodyPost_ret (v := .agg #[.int .i64 (fa 0), .int .i64 x, .int .i64 (fa 2), .int .i64 (fa 3), .int .i64 (fa 4), .int .i64 (fa 5)]) (by simp [results, Try.results26, go_sem, e0, e1, e2, e3, e4, e5]) rfl ⟨six (fa 0) x (fa 2) (fa 3) (fa 4) (fa 5), rfl, ?_⟩
    exact below6 RB.out (Nat.le_refl _) _ _ _ _ _ _
  · go_upto_region 7 with fail
    refine wp_region_held_drew (S := (fun w' => Below w.heap.size w w' ∧ (∃ p, RdAt w' (w.heap.size + 1) A len cap p) ∧ (∃ v5, w'.heap[GC]? = some (.cells #[.int .i64 (fa 0), .int .i64 (fa 1), .int .i64 (fa 2), .int .i64 (fa 3), .int .i64 (fa 4), v5] 44 (0, 0))) ∧ w'.heap[w.heap.size]? = some (.cells #[.int .i64 0, .int .i64 0, .int .i64 0, .int .i64 0, .int .i64 0, .int .i64 0] 44 (0, 0)))) (by kernel_rfl) ?hSr (fun hHeld => ?restr)
    case hSr => exact ⟨hb0.drew, ⟨p5, hr5⟩, ⟨_, kC⟩, k0⟩
    replace kC : w5.drew.heap[GC]? = _ := kC
    clear hb0 hr5 k0
    generalize w5.drew = wd at *
    refine wpAnyH_take (i := 0) (oi := ?oiu16) (v := ?vu16) ?hiu16 (by kernel_rfl) (by kernel_rfl) (by kernel_rfl) ?hQu16 (Or.inl ⟨?hwu16, ?hyu16⟩) (by assumption) ?restu16
    case hiu16 => simp only [List.getElem?_toArray, List.getElem?_cons_succ, List.getElem?_cons_zero]; exact rfl
    case hQu16 => exact fun _ _ _ h => h
    case hwu16 => rfl
    case hyu16 => ((intro w hSw; (try dsimp only at hSw); go_simp) <;> with_reducible rfl)
    try simp only [Act.put, List.setIfInBounds_toArray, List.set_cons_zero, List.set_cons_succ]
    refine wpAnyH_take (i := 2) (oi := ?oiu17) (v := ?vu17) ?hiu17 (by kernel_rfl) (by kernel_rfl) (by kernel_rfl) ?hQu17 (Or.inl ⟨?hwu17, ?hyu17⟩) (by assumption) ?restu17
    case hiu17 => simp only [List.getElem?_toArray, List.getElem?_cons_succ, List.getElem?_cons_zero]; exact rfl
    case hQu17 => exact fun _ _ _ h => h
    case hwu17 => rfl
    case hyu17 => ((intro w hSw; (try dsimp only at hSw); go_simp) <;> with_reducible rfl)
    try simp only [Act.put, List.setIfInBounds_toArray, List.set_cons_zero, List.set_cons_succ]
    refine wpAnyH_ready (rs := [1, 3]) (by kernel_rfl) (by simp) ?_
    refine AllReadyH.cons (o := ?oAp15) ?hoAp15 (fun K hK => ?stepAp15) (AllReadyH.cons (o := ?oBp15) ?hoBp15 (fun K hK => ?stepBp15) AllReadyH.nil)
    case hoAp15 => simp only [List.getElem?_toArray, List.getElem?_cons_succ, List.getElem?_cons_zero]; exact rfl
    case hoBp15 => simp only [List.getElem?_toArray, List.getElem?_cons_succ, List.getElem?_cons_zero]; exact rfl
    case stepAp15 =>
      obtain ⟨c0, c1, c2, c3, c4, c5⟩ := cell6 kC
      go_simp
      clear c0 c1 c2 c3 c4 c5
      refine hK.out _ _ ?hSp15a (fun hHeld => ?restp15a)
      case hSp15a => exact hHeld
      clear hK K
      try simp only [Act.put, List.setIfInBounds_toArray, List.set_cons_zero, List.set_cons_succ]
      refine wpAnyH_ready (rs := [3]) (by kernel_rfl) (by simp) ?_
      refine AllReadyH.cons (o := ?oo18) ?hoo18 (fun K hK => ?stepo18) AllReadyH.nil
      case hoo18 => simp only [List.getElem?_toArray, List.getElem?_cons_succ, List.getElem?_cons_zero]; exact rfl
      obtain ⟨pp, hp⟩ := hHeld.2.1
      go_simp
      refine (below_any 60 (w.heap.size + 1) A len cap pp _ hp (src_below hs hHeld.1 (by omega)) hl (by omega) (by omega)).mono ?_
      rintro e w' ⟨x, p', x0, x1, rfl, hr', hg'⟩
      replace kC := (hg'.block GC (heap_lt' kC) (fun e => by injection e with e; omega)).trans kC
      refine hK.out _ _ ?hSo18 (fun hHeld => ?resto18)
      case hSo18 => exact ⟨hHeld.1.grown hg' hHeld.1.size (fun k h => by cases h; omega), ⟨p', hr'⟩, ⟨_, kC⟩, (hg'.block w.heap.size (heap_lt' hHeld.2.2.2) (fun e => by injection e with e; omega)).trans hHeld.2.2.2⟩
      clear hK K
      try simp only [Act.put, List.setIfInBounds_toArray, List.set_cons_zero, List.set_cons_succ]
      refine wpAnyH_take (i := 4) (oi := ?oiu19) (v := ?vu19) ?hiu19 (by kernel_rfl) (by kernel_rfl) (by kernel_rfl) ?hQu19 (Or.inl ⟨?hwu19, ?hyu19⟩) (by assumption) ?restu19
      case hiu19 => simp only [List.getElem?_toArray, List.getElem?_cons_succ, List.getElem?_cons_zero]; exact rfl
      case hQu19 => exact fun _ _ _ h => h
      case hwu19 => rfl
      case hyu19 => ((intro w hSw; (try dsimp only at hSw); go_simp) <;> with_reducible rfl)
      try simp only [Act.put, List.setIfInBounds_toArray, List.set_cons_zero, List.set_cons_succ]
      refine wpAnyH_take (i := 5) (oi := ?oiu20) (v := ?vu20) ?hiu20 (by kernel_rfl) (by kernel_rfl) (by kernel_rfl) ?hQu20 (Or.inl ⟨?hwu20, ?hyu20⟩) (by assumption) ?restu20
      case hiu20 => simp only [List.getElem?_toArray, List.getElem?_cons_succ, List.getElem?_cons_zero]; exact rfl
      case hQu20 => exact fun _ _ _ h => h
      case hwu20 => rfl
      case hyu20 => ((intro w hSw; (try dsimp only at hSw); go_simp) <;> with_reducible rfl)
      try simp only [Act.put, List.setIfInBounds_toArray, List.set_cons_zero, List.set_cons_succ]
      refine wpAnyH_take (i := 6) (oi := ?oiu21) (v := ?vu21) ?hiu21 (by kernel_rfl) (by kernel_rfl) (by kernel_rfl) ?hQu21 (Or.inl ⟨?hwu21, ?hyu21⟩) (by assumption) ?restu21
      case hiu21 => simp only [List.getElem?_toArray, List.getElem?_cons_succ, List.getElem?_cons_zero]; exact rfl
      case hQu21 => exact fun _ _ _ h => h
      case hwu21 => rfl
      case hyu21 => ((intro w hSw; (try dsimp only at hSw); go_simp) <;> with_reducible rfl)
      try simp only [Act.put, List.setIfInBounds_toArray, List.set_cons_zero, List.set_cons_succ]
      refine wpAnyH_ready (rs := [7]) (by kernel_rfl) (by simp) ?_
      refine AllReadyH.cons (o := ?oo22) ?hoo22 (fun K hK => ?stepo22) AllReadyH.nil
      case hoo22 => simp only [List.getElem?_toArray, List.getElem?_cons_succ, List.getElem?_cons_zero]; exact rfl
      obtain ⟨c0, c1, c2, c3, c4, c5⟩ := cell6 kC
      obtain ⟨f0, f1, f2, f3, f4, f5⟩ := free6 kC
      have hX := hHeld
      go_simp
      clear c0 c1 c2 c3 c4 c5 f0 f1 f2 f3 f4 f5
      generalize IntKind.i64.wrap (IntKind.i64.wrap (fa 5 + x) - 30) = z5
      replace kC := set6 kC 5 (.int .i64 z5)
      simp only [List.setIfInBounds_toArray, List.set_cons_zero, List.set_cons_succ] at kC
      obtain ⟨pq, hq⟩ := hX.2.1
      have hY : Below w.heap.size w (w'.setCell ⟨GC, 5, none⟩ (.int .i64 z5)) ∧ (∃ p, RdAt (w'.setCell ⟨GC, 5, none⟩ (.int .i64 z5)) (w.heap.size + 1) A len cap p) ∧ (w'.setCell ⟨GC, 5, none⟩ (.int .i64 z5)).heap[w.heap.size]? = _ := ⟨hX.1.setCell (p := ⟨GC, 5, none⟩) (show w.heap.size ≤ GC by omega) _, ⟨pq, hq.1, (Below.heap_setCell w' ⟨GC, 5, none⟩ (.int .i64 z5) (w.heap.size + 1) (show w.heap.size + 1 ≠ GC by omega)).trans hq.2⟩, (Below.heap_setCell w' ⟨GC, 5, none⟩ (.int .i64 z5) w.heap.size (show w.heap.size ≠ GC by omega)).trans hX.2.2.2⟩
      generalize w'.setCell ⟨GC, 5, none⟩ (.int .i64 z5) = w9 at *
      refine hK.out _ _ ?hSo22 (fun hHeld => ?resto22)
      case hSo22 => exact ⟨hY.1, hY.2.1, ⟨_, kC⟩, hY.2.2⟩
      clear hK K
      try simp only [Act.put, List.setIfInBounds_toArray, List.set_cons_zero, List.set_cons_succ]
      refine wpAnyH_done (by kernel_rfl) ?_ _
      have hb0 := hHeld.1
      have k0 := hHeld.2.2.2
      clear hX hHeld hY
      obtain ⟨c0, c1, c2, c3, c4, c5⟩ := cell6 kC
      obtain ⟨d0, d1, d2, d3, d4, d5⟩ := cell6 k0
      obtain ⟨f0, f1, f2, f3, f4, f5⟩ := free6 k0
      have R0 := Lib.hid k0
      have RB := Lib.hid (hb0)
      clear kC k0
      go_wp2_with fail
      have r0 := put6 (u0 := .int .i64 (fa 0)) (u1 := .int .i64 (fa 1)) (u2 := .int .i64 (fa 2)) (u3 := .int .i64 (fa 3)) (u4 := .int .i64 (fa 4)) (u5 := .int .i64 z5) R0.out
      obtain ⟨e0, e1, e2, e3, e4, e5⟩ := cell6 r0
      refine bodyPost_ret (v := .agg #[.int .i64 (fa 0), .int .i64 (fa 1), .int .i64 (fa 2), .int .i64 (fa 3), .int .i64 (fa 4), .int .i64 z5]) (by simp [results, Try.results26, go_sem, e0, e1, e2, e3, e4, e5]) rfl ⟨six (fa 0) (fa 1) (fa 2) (fa 3) (fa 4) z5, rfl, ?_⟩
      exact below6 RB.out (Nat.le_refl _) _ _ _ _ _ _
    case stepBp15 =>
      obtain ⟨pp, hp⟩ := hHeld.2.1
      go_simp
      refine (below_any 60 (w.heap.size + 1) A len cap pp _ hp (src_below hs hHeld.1 (by omega)) hl (by omega) (by omega)).mono ?_
      rintro e w' ⟨x, p', x0, x1, rfl, hr', hg'⟩
      replace kC := (hg'.block GC (heap_lt' kC) (fun e => by injection e with e; omega)).trans kC
      refine hK.out _ _ ?hSp15b (fun hHeld => ?restp15b)
      case hSp15b => exact ⟨hHeld.1.grown hg' hHeld.1.size (fun k h => by cases h; omega), ⟨p', hr'⟩, ⟨_, kC⟩, (hg'.block w.heap.size (heap_lt' hHeld.2.2.2) (fun e => by injection e with e; omega)).trans hHeld.2.2.2⟩
      clear hK K
      try simp only [Act.put, List.setIfInBounds_toArray, List.set_cons_zero, List.set_cons_succ]
      refine wpAnyH_ready (rs := [1]) (by kernel_rfl) (by simp) ?_
      refine AllReadyH.cons (o := ?oo23) ?hoo23 (fun K hK => ?stepo23) AllReadyH.nil
      case hoo23 => simp only [List.getElem?_toArray, List.getElem?_cons_succ, List.getElem?_cons_zero]; exact rfl
      obtain ⟨c0, c1, c2, c3, c4, c5⟩ := cell6 kC
      go_simp
      clear c0 c1 c2 c3 c4 c5
      refine hK.out _ _ ?hSo23 (fun hHeld => ?resto23)
      case hSo23 => exact hHeld
      clear hK K
      try simp only [Act.put, List.setIfInBounds_toArray, List.set_cons_zero, List.set_cons_succ]
      refine wpAnyH_take (i := 4) (oi := ?oiu24) (v := ?vu24) ?hiu24 (by kernel_rfl) (by kernel_rfl) (by kernel_rfl) ?hQu24 (Or.inl ⟨?hwu24, ?hyu24⟩) (by assumption) ?restu24
      case hiu24 => simp only [List.getElem?_toArray, List.getElem?_cons_succ, List.getElem?_cons_zero]; exact rfl
      case hQu24 => exact fun _ _ _ h => h
      case hwu24 => rfl
      case hyu24 => ((intro w hSw; (try dsimp only at hSw); go_simp) <;> with_reducible rfl)
      try simp only [Act.put, List.setIfInBounds_toArray, List.set_cons_zero, List.set_cons_succ]
      refine wpAnyH_take (i := 5) (oi := ?oiu25) (v := ?vu25) ?hiu25 (by kernel_rfl) (by kernel_rfl) (by kernel_rfl) ?hQu25 (Or.inl ⟨?hwu25, ?hyu25⟩) (by assumption) ?restu25
      case hiu25 => simp only [List.getElem?_toArray, List.getElem?_cons_succ, List.getElem?_cons_zero]; exact rfl
      case hQu25 => exact fun _ _ _ h => h
      case hwu25 => rfl
      case hyu25 => ((intro w hSw; (try dsimp only at hSw); go_simp) <;> with_reducible rfl)
      try simp only [Act.put, List.setIfInBounds_toArray, List.set_cons_zero, List.set_cons_succ]
      refine wpAnyH_take (i := 6) (oi := ?oiu26) (v := ?vu26) ?hiu26 (by kernel_rfl) (by kernel_rfl) (by kernel_rfl) ?hQu26 (Or.inl ⟨?hwu26, ?hyu26⟩) (by assumption) ?restu26
      case hiu26 => simp only [List.getElem?_toArray, List.getElem?_cons_succ, List.getElem?_cons_zero]; exact rfl
      case hQu26 => exact fun _ _ _ h => h
      case hwu26 => rfl
      case hyu26 => ((intro w hSw; (try dsimp only at hSw); go_simp) <;> with_reducible rfl)
      try simp only [Act.put, List.setIfInBounds_toArray, List.set_cons_zero, List.set_cons_succ]
      refine wpAnyH_ready (rs := [7]) (by kernel_rfl) (by simp) ?_
      refine AllReadyH.cons (o := ?oo27) ?hoo27 (fun K hK => ?stepo27) AllReadyH.nil
      case hoo27 => simp only [List.getElem?_toArray, List.getElem?_cons_succ, List.getElem?_cons_zero]; exact rfl
      obtain ⟨c0, c1, c2, c3, c4, c5⟩ := cell6 kC
      obtain ⟨f0, f1, f2, f3, f4, f5⟩ := free6 kC
      have hX := hHeld
      go_simp
      clear c0 c1 c2 c3 c4 c5 f0 f1 f2 f3 f4 f5
      generalize IntKind.i64.wrap (IntKind.i64.wrap (fa 5 + x) - 30) = z5
      replace kC := set6 kC 5 (.int .i64 z5)
      simp only [List.setIfInBounds_toArray, List.set_cons_zero, List.set_cons_succ] at kC
      obtain ⟨pq, hq⟩ := hX.2.1
      have hY : Below w.heap.size w (w'.setCell ⟨GC, 5, none⟩ (.int .i64 z5)) ∧ (∃ p, RdAt (w'.setCell ⟨GC, 5, none⟩ (.int .i64 z5)) (w.heap.size + 1) A len cap p) ∧ (w'.setCell ⟨GC, 5, none⟩ (.int .i64 z5)).heap[w.heap.size]? = _ := ⟨hX.1.setCell (p := ⟨GC, 5, none⟩) (show w.heap.size ≤ GC by omega) _, ⟨pq, hq.1, (Below.heap_setCell w' ⟨GC, 5, none⟩ (.int .i64 z5) (w.heap.size + 1) (show w.heap.size + 1 ≠ GC by omega)).trans hq.2⟩, (Below.heap_setCell w' ⟨GC, 5, none⟩ (.int .i64 z5) w.heap.size (show w.heap.size ≠ GC by omega)).trans hX.2.2.2⟩
      generalize w'.setCell ⟨GC, 5, none⟩ (.int .i64 z5) = w9 at *
      refine hK.out _ _ ?hSo27 (fun hHeld => ?resto27)
      case hSo27 => exact ⟨hY.1, hY.2.1, ⟨_, kC⟩, hY.2.2⟩
      clear hK K
      try simp only [Act.put, List.setIfInBounds_toArray, List.set_cons_zero, List.set_cons_succ]
      refine wpAnyH_done (by kernel_rfl) ?_ _
      have hb0 := hHeld.1
      have k0 := hHeld.2.2.2
      clear hX hHeld hY
      obtain ⟨c0, c1, c2, c3, c4, c5⟩ := cell6 kC
      obtain ⟨d0, d1, d2, d3, d4, d5⟩ := cell6 k0
      obtain ⟨f0, f1, f2, f3, f4, f5⟩ := free6 k0
      have R0 := Lib.hid k0
      have RB := Lib.hid (hb0)
      clear kC k0
      go_wp2_with fail
      have r0 := put6 (u0 := .int .i64 (fa 0)) (u1 := .int .i64 (fa 1)) (u2 := .int .i64 (fa 2)) (u3 := .int .i64 (fa 3)) (u4 := .int .i64 (fa 4)) (u5 := .int .i64 z5) R0.out
      obtain ⟨e0, e1, e2, e3, e4, e5⟩ := cell6 r0
      refine bodyPost_ret (v := .agg #[.int .i64 (fa 0), .int .i64 (fa 1), .int .i64 (fa 2), .int .i64 (fa 3), .int .i64 (fa 4), .int .i64 z5]) (by simp [results, Try.results26, go_sem, e0, e1, e2, e3, e4, e5]) rfl ⟨six (fa 0) (fa 1) (fa 2) (fa 3) (fa 4) z5, rfl, ?_⟩
      exact below6 RB.out (Nat.le_refl _) _ _ _ _ _ _
  · have z0 : (m == 0) = false := beq_eq_false_iff_ne.2 (by omega)
    have z1 : (m == 1) = false := beq_eq_false_iff_ne.2 (by omega)
    clear hr5
    obtain ⟨c0, c1, c2, c3, c4, c5⟩ := cell6 kC
    obtain ⟨d0, d1, d2, d3, d4, d5⟩ := cell6 k0
    obtain ⟨f0, f1, f2, f3, f4, f5⟩ := free6 k0
    have R0 := Lib.hid k0
    have RB := Lib.hid (hb0)
    clear kC k0
    go_wp2_with fail
    have r0 := put6 (u0 := .int .i64 (fa 0)) (u1 := .int .i64 (fa 1)) (u2 := .int .i64 (fa 2)) (u3 := .int .i64 (fa 3)) (u4 := .int .i64 (fa 4)) (u5 := .int .i64 (fa 5)) R0.out
    obtain ⟨e0, e1, e2, e3, e4, e5⟩ := cell6 r0
    refine bodyPost_ret (v := .agg #[.int .i64 (fa 0), .int .i64 (fa 1), .int .i64 (fa 2), .int .i64 (fa 3), .int .i64 (fa 4), .int .i64 (fa 5)]) (by simp [results, Try.results26, go_sem, e0, e1, e2, e3, e4, e5]) rfl ⟨six (fa 0) (fa 1) (fa 2) (fa 3) (fa 4) (fa 5), rfl, ?_⟩
    exact below6 RB.out (Nat.le_refl _) _ _ _ _ _ _
end Go.Proofs.Yteikflfchkmbnaa
