/-
  The program's Crossing.
-/
import Derived.Test.YtgpllcjnbkhbnaaMet
import Derived.Test.YtgpllcjnbkhbnaaTaken
namespace Go.Proofs.Ytgpllcjnbkhbnaa
open Go.RowKit Go.Shelf Wire

/-- the rows of some orders, one behind another -/
def rowsOf (zs : List Int) {n : Nat} : List (Fin n) → List Int
  | [] => []
  | x :: l => [num zs (x.1 * 4), num zs (x.1 * 4 + 1), num zs (x.1 * 4 + 2), num zs (x.1 * 4 + 3)] ++ rowsOf zs l
theorem rowsOf_snoc (zs : List Int) {n : Nat} (x : Fin n) : ∀ l : List (Fin n), rowsOf zs (l ++ [x]) = rowsOf zs l ++ [num zs (x.1 * 4), num zs (x.1 * 4 + 1), num zs (x.1 * 4 + 2), num zs (x.1 * 4 + 3)]
  | [] => rfl
  | y :: l => by rw [List.cons_append, rowsOf, rowsOf_snoc zs x l, rowsOf, List.append_assoc]
theorem rowsOf_first (zs : List Int) {n : Nat} (hz : zs.length = n * 4) : ∀ k, k ≤ n → rowsOf zs (firstN n k) = zs.take (k * 4)
  | 0, _ => by simp [firstN_zero, rowsOf]
  | k + 1, h => by
    rw [firstN_succ (by omega), rowsOf_snoc, rowsOf_first zs hz k (by omega)]
    have e : (k + 1) * 4 = k * 4 + 1 + 1 + 1 + 1 := by omega
    have s : ∀ j, j < zs.length → zs.take (j + 1) = zs.take j ++ [num zs j] := fun j hj => by
      rw [List.take_succ_eq_append_getElem hj]
      congr 1
      simp [num, List.getElem?_eq_getElem hj]
    rw [e, s _ (by omega), s _ (by omega), s _ (by omega), s _ (by omega)]
    simp
theorem cell_later_al {w : World} {a : Addr} {u : Value} (o : Obj) (h : w.cell? a = some u) : (w.drew.alloc o).cell? a = some u :=
  (World.cell?_alloc_some w.drew a o (by rw [show w.drew.cell? a = w.cell? a from rfl, h]; rfl)).trans h
set_option maxRecDepth 100000 in
theorem impl_met (L1 L2 : Nat) (side lim : Int) (w : World) :
    Calls Try.prog 76 #[.agg #[.pointer (some ⟨L1, 0, none⟩), .pointer (some ⟨L2, 0, none⟩)], .int .i64 side, .int .i64 lim] w fun e w' => e = .returned (.func (.func 92) #[] #[.pointer (some ⟨w.heap.size, 0, none⟩), .pointer (some ⟨w.heap.size + 1, 0, none⟩), .pointer (some ⟨w.heap.size + 2, 0, none⟩)]) ∧ w' = ((w.alloc (.cells #[.pointer (some ⟨L1, 0, none⟩), .pointer (some ⟨L2, 0, none⟩)] 70)).alloc (.cells #[.int .i64 side] 2)).alloc (.cells #[.int .i64 lim] 2) := by
  go_enter Try.func76, Try.ntmps76
  go_wp2_with fail
  go_ret
  exact ⟨by simp, rfl⟩
attribute [local go_sem] Oper.semAt_some
set_option linter.unusedSimpArgs false in
set_option maxHeartbeats 3200000 in
set_option maxRecDepth 100000 in
theorem impl_Crossing (A : Option Addr) (n c : Nat) (B : Option Addr) (m d : Nat) (za zb : List Int) (side lim : Int) (w : World) (ha : Lst w w.heap.size 4 A n za) (hb : Lst w w.heap.size 4 B m zb) (hn : n ≤ 1048576) (hm : m ≤ 1048576) :
    Calls Try.prog 36 #[.agg #[.slice A n c, .slice B m d], .int .i64 side, .int .i64 lim] w fun e w' => (∃ r, e = .returned r ∧ Crossed w' w.heap.size r (crN (bookB za n zb m) side lim za zb n m) (crZ (bookB za n zb m) side lim za zb n m)) ∧ Below w.heap.size w w' := by
  refine callsIn_wide.1 (callsIn_of_wp_marks (n := 9) Try.func36 rfl trivial (wpIn_wide.2 ?_) rfl)
  simp only [Try.ntmps36, List.size_toArray, List.length_cons, List.length_nil, Nat.reduceAdd, Nat.reduceSub, Array.replicate_succ, Array.replicate_zero, List.push_toArray, List.append_toArray, List.nil_append, List.cons_append]
  have hb0 : Below w.heap.size w (w.alloc (.cells #[.slice A n c, .slice B m d] 26)) := (Below.refl _ _).alloc (Nat.le_refl _) _
  have k0 : (w.alloc (.cells #[.slice A n c, .slice B m d] 26)).heap[w.heap.size]? = some (.cells #[.slice A n c, .slice B m d] 26 (0, 0)) := heap_alloc_new w _
  have hs0 : w.heap.size < (w.alloc (.cells #[.slice A n c, .slice B m d] 26)).heap.size := by simp
  go_wp2_with fail
  generalize (w.alloc (.cells #[.slice A n c, .slice B m d] 26)) = w0 at *
  refine (impl_BookOk A n c B m d za zb w0 ((ha.below hb0).more hb0.size) ((hb.below hb0).more hb0.size) hn hm).mono ?_
  generalize hbk : bookB za n zb m = bk
  rintro e w1 ⟨rfl, hb1⟩
  have k1 := (hb1.block w.heap.size hs0).trans k0
  have hs1 := Nat.lt_of_lt_of_le hs0 hb1.size
  have x0 := cell_of_row w1 w.heap.size 0 _ _ (0, 0) k1
  have x1 := cell_of_row w1 w.heap.size 1 _ _ (0, 0) k1
  simp at x0 x1
  have hb1 := hb0.trans (hb1.mono hb0.size)
  have HBK := Lib.hid hbk
  clear k0 hb0 hs0 hbk
  cases bk
  · go_wp2_with fail
    refine ⟨_, results_tmp rfl _ _ _, ⟨_, rfl, ?_⟩, hb1⟩
    rw [HBK.out, (cr_no rfl).1, (cr_no rfl).2]
    exact World.ownsRow_nil _ _ _ _
  go_wp2_with fail
  refine (impl_sideOk side w1).mono ?_
  rintro e w2 ⟨rfl, rfl⟩
  rcases Bool.eq_false_or_eq_true (sideOkB side) with hok | hok
  rotate_left
  · have HX := Lib.hid (show crOk true side lim = false from by unfold crOk; rw [hok]; rfl)
    rw [hok]
    clear hok
    go_wp2_with fail
    refine ⟨_, results_tmp rfl _ _ _, ⟨_, rfl, ?_⟩, hb1⟩
    rw [HBK.out, (cr_no HX.out).1, (cr_no HX.out).2]
    exact World.ownsRow_nil _ _ _ _
  have HOK := Lib.hid hok
  rw [hok]
  clear hok
  go_wp2_with fail
  refine (within_any lim 0 1000000 w1).mono ?_
  rintro e w2 ⟨rfl, rfl⟩
  rcases Bool.eq_false_or_eq_true (inB 0 lim 1000000) with hok | hok
  rotate_left
  · have HX := Lib.hid (show crOk true side lim = false from by unfold crOk; rw [hok]; simp)
    rw [hok]
    clear hok
    go_wp2_with fail
    refine ⟨_, results_tmp rfl _ _ _, ⟨_, rfl, ?_⟩, hb1⟩
    rw [HBK.out, (cr_no HX.out).1, (cr_no HX.out).2]
    exact World.ownsRow_nil _ _ _ _
  have HO := Lib.hid (show crOk true side lim = true from by unfold crOk; rw [hok, HOK.out]; rfl)
  rw [hok]
  clear hok
  have y0 := cell_of_row (w1.alloc (.cells #[.slice none 0 0] 24)) w.heap.size 0 _ _ (0, 0) ((Below.heap_alloc w1 _ w.heap.size hs1).trans k1)
  have y1 := cell_of_row (w1.alloc (.cells #[.slice none 0 0] 24)) w.heap.size 1 _ _ (0, 0) ((Below.heap_alloc w1 _ w.heap.size hs1).trans k1)
  simp at y0 y1
  go_wp2_with fail
  have hbA : Below w.heap.size w (w1.alloc (.cells #[.slice none 0 0] 24)) := hb1.alloc hb1.size _
  have bO : Boxed (w1.alloc (.cells #[.slice none 0 0] 24)) w1.heap.size 24 (.slice none 0 0) := Boxed.new w1 _ _
  refine (impl_opened A n c B m d za zb _ ((ha.below hbA).more hbA.size) ((hb.below hbA).more hbA.size) hn hm).mono ?_
  rintro e w3 ⟨X1, S1, L1, v1, gs1, X2, S2, L2, v2, gs2, rfl, ⟨hop1, hcp1⟩, ⟨hop2, hcp2⟩, hX1, hX2, hfar, hb3⟩
  have bO : Boxed w3 w1.heap.size 24 (.slice none 0 0) := (hb3.block _ bO.lt).trans bO
  have hbm : w1.heap.size < X1 := Nat.lt_of_lt_of_le (by simp) hX1
  have hb3 := hbA.trans (hb3.mono hbA.size)
  go_wp2_with fail
  refine (impl_met L1 L2 side lim w3).mono ?_
  rintro e w4 ⟨rfl, rfl⟩
  go_wp2_with fail
  obtain ⟨so, X, S, L, N, v, gs, zs, hopp, hso, hop, hcp, hN, hzs, HC, HZ, hXm⟩ : ∃ (so : Int) (X S L N : Nat) (v : Value) (gs : Nat → Nat) (zs : List Int), (side = 1 ∧ so = 2 ∨ side = 2 ∧ so = 1) ∧ (so = 1 ∧ L = L1 ∨ so = 2 ∧ L = L2) ∧ Opened w3 X S L 2 100 79 (.func (.func 95) #[] #[.pointer (some ⟨S, 0, none⟩)]) so zs N v gs ∧ Copies w3 X S L 36 zs N v gs ∧ N ≤ 1048576 ∧ zs.length = N * 4 ∧ Hid (crN true side lim za zb n m = lead (fun k => meetB side lim (price zs k)) N) ∧ Hid (crZ true side lim za zb n m = zs.take (lead (fun k => meetB side lim (price zs k)) N * 4)) ∧ w1.heap.size < X := by
    rcases side_cases side with ⟨rfl, _⟩ | ⟨rfl, _⟩ | ⟨h1, h2, hno⟩
    · exact ⟨2, X2, S2, L2, m, v2, gs2, zb, .inl ⟨rfl, rfl⟩, .inr ⟨rfl, rfl⟩, hop2, hcp2, hm, hb.1, Lib.hid (crN_1 HO.out), Lib.hid (crZ_1 HO.out), by omega⟩
    · exact ⟨1, X1, S1, L1, n, v1, gs1, za, .inr ⟨rfl, rfl⟩, .inl ⟨rfl, rfl⟩, hop1, hcp1, hn, ha.1, Lib.hid (crN_2 HO.out), Lib.hid (crZ_2 HO.out), hbm⟩
    · exact absurd HOK.out (by rw [hno]; decide)
  clear hop1 hcp1 hop2 hcp2 hfar hX1 hX2 hbm y0 y1 x0 x1
  have hbm3 := bO.lt
  obtain ⟨i0, hi, hz0, hz1, hz2⟩ := info_parts ord_info
  obtain ⟨m1, m2, m3⟩ := three_blocks w3 (.cells #[.pointer (some ⟨L1, 0, none⟩), .pointer (some ⟨L2, 0, none⟩)] 70) (.cells #[.int .i64 side] 2) (.cells #[.int .i64 lim] 2)
  have hb5 : Below w3.heap.size w3 (((w3.alloc (.cells #[.pointer (some ⟨L1, 0, none⟩), .pointer (some ⟨L2, 0, none⟩)] 70)).alloc (.cells #[.int .i64 side] 2)).alloc (.cells #[.int .i64 lim] 2)) := (((Below.refl _ _).alloc (Nat.le_refl _) _).alloc (by simp) _).alloc (by simp; omega) _
  have hsz5 : (((w3.alloc (.cells #[.pointer (some ⟨L1, 0, none⟩), .pointer (some ⟨L2, 0, none⟩)] 70)).alloc (.cells #[.int .i64 side] 2)).alloc (.cells #[.int .i64 lim] 2)).heap.size = w3.heap.size + 3 := by simp
  generalize (((w3.alloc (.cells #[.pointer (some ⟨L1, 0, none⟩), .pointer (some ⟨L2, 0, none⟩)] 70)).alloc (.cells #[.int .i64 side] 2)).alloc (.cells #[.int .i64 lim] 2)) = w5 at *
  have bO : Boxed w5 w1.heap.size 24 (.slice none 0 0) := (hb5.block _ bO.lt).trans bO
  have hop := hop.below hb5
  have hcp := hcp.below hb5
  have hb5 := ord_later hb3 hb5
  have hBm : w.heap.size ≤ w1.heap.size := hb1.size
  refine (wpIn_wide (n := 9)).1 ?_
  refine wpIn_rangeFunc_ownG rfl (by omega) (gf := 92) (lb := #[.pointer (some ⟨w3.heap.size, 0, none⟩), .pointer (some ⟨w3.heap.size + 1, 0, none⟩), .pointer (some ⟨w3.heap.size + 2, 0, none⟩)]) rfl trivial (enters_of Try.func92 (by kernel_rfl) rfl)
    (met_stops 7 X S L N _ _ _ L1 L2 side so lim zs v gs w5 hop hcp hN hopp hso m1 m2 m3) MetKeeps.trans (fun W l o o' hl h _ _ => .of_blocks (by simp) fun i hi => World.putObj_heap_other (by rcases hi with rfl | rfl | h | ⟨k, hk, rfl⟩; omega; omega; (have := (hop.own.lt _ h).2; omega); (have := (hcp k hk).2.2.2.2.lt; omega))) (Below.refl _ _) (fun _ => rfl)
    (fun pre W => (∃ u, Boxed W w1.heap.size 24 u ∧ W.ownsRow w5.heap.size 36 4 u pre.length (nums (rowsOf zs pre)) ∧ True) ∧ w5.grownBy W (some w1.heap.size))
    (fun _ _ _ => False)
    (OwnFrom.and (Own.from (holdsRow_own w5.heap.size w1.heap.size 24 36 4 (fun pre : List (Fin N) => pre.length) (fun pre => nums (rowsOf zs pre)) (fun _ _ => True)) _) (fun s P Q row hs hg hr => ⟨hg.os.trans hs.os, hg.tape.trans hs.tape, hg.output.trans hs.output, Nat.le_trans hs.size hg.size, fun k hk hne => (hg.block k (Nat.lt_of_lt_of_le hk hs.size) (fun e => by have := (hr _ e.symm).1; omega)).trans (hs.block k hk hne)⟩))
    (fun _ _ _ _ _ hs _ _ => hs)
    ⟨⟨_, bO, World.ownsRow_nil _ _ _ _, trivial⟩, World.grownBy.refl _ _⟩
    (fun x => { tmps := #[.agg #[.slice A n c, .slice B m d], .int .i64 side, .int .i64 lim, .pointer (some ⟨w.heap.size, 0, none⟩), undef, undef, .slice none 0 0, .pointer (some ⟨w1.heap.size, 0, none⟩), .pointer (some ⟨gs x.1, 0, none⟩), .agg #[.slice A n c, .slice B m d], .bool true, .bool false, .bool false, .int .i64 side, .bool true, .bool false, .bool false, .bool false, .int .i64 lim, .bool true, .bool false, .bool false, .agg #[.slice A n c, .slice B m d], .agg #[.pointer (some ⟨L1, 0, none⟩), .pointer (some ⟨L2, 0, none⟩)], .int .i64 side, .int .i64 lim, .func (.func 92) #[] #[.pointer (some ⟨w3.heap.size, 0, none⟩), .pointer (some ⟨w3.heap.size + 1, 0, none⟩), .pointer (some ⟨w3.heap.size + 2, 0, none⟩)], .pointer (some ⟨gs x.1, 0, none⟩), undef, undef, undef, undef, undef, undef, undef], defers := [] }) ?assign ?body ?done ?stop
  case assign =>
    intro l x W K hK
    gi_wp2
    exact hK
  case body =>
    rintro l pre x W ⟨⟨u, hbox, hrow, _⟩, hgr⟩ hlen
    have hBW : w5.heap.size ≤ W.heap.size := hgr.size
    have hgx := hcp x.1 x.2
    have hbg : w1.heap.size ≠ gs x.1 := fun e => by have := hgx.1; omega
    have hgl := hgx.2.2.2.2.lt
    have hgr4 := hgx.2.2.2.2.of_block (hgr.block (gs x.1) hgl (fun e => hbg (by injection e with e; exact e.symm)))
    have hgne : some (gs x.1) ≠ u.ownBlock := fun e => by have := (hrow.lt _ e.symm).1; omega
    have hne : some w1.heap.size ≠ u.ownBlock := fun e => by have := (hrow.lt _ e.symm).1; have := bO.lt; omega
    have q0 : W.cell? ⟨gs x.1, 0, none⟩ = some (.int .i64 (num zs (x.1 * 4))) := hgr4.cell (i := 0) (by omega)
    have q1 : W.cell? ⟨gs x.1, 1, none⟩ = some (.int .i64 (num zs (x.1 * 4 + 1))) := hgr4.cell (i := 1) (by omega)
    have q2 : W.cell? ⟨gs x.1, 2, none⟩ = some (.int .i64 (num zs (x.1 * 4 + 2))) := hgr4.cell (i := 2) (by omega)
    have q3 : W.cell? ⟨gs x.1, 3, none⟩ = some (.int .i64 (num zs (x.1 * 4 + 3))) := hgr4.cell (i := 3) (by omega)
    have setfar : ∀ {W' : World} {j : Nat} {z y : Value}, W'.cell? ⟨gs x.1, j, none⟩ = some z → (W'.setCell ⟨w1.heap.size, 0, none⟩ y).cell? ⟨gs x.1, j, none⟩ = some z := fun h => (World.cell?_setCell_far _ _ _ _ hbg).trans h
    clear hgr4
    gi_wp2
    refine wpIn_region_round (S := (fun w' => w'.cell? ⟨gs x.1, 0, none⟩ = some (.int .i64 (num zs (x.1 * 4))) ∧ w'.cell? ⟨gs x.1, 1, none⟩ = some (.int .i64 (num zs (x.1 * 4 + 1))) ∧ w'.cell? ⟨gs x.1, 2, none⟩ = some (.int .i64 (num zs (x.1 * 4 + 2))) ∧ w'.cell? ⟨gs x.1, 3, none⟩ = some (.int .i64 (num zs (x.1 * 4 + 3))))) (by kernel_rfl) (by kernel_rfl) (fun _ _ h => h) ?hS0 (fun hHeld => ?rest0)
    case hS0 => exact ⟨q0, q1, q2, q3⟩
    refine wpAnyH_take (i := 1) (oi := ?oic1) (v := ?vc1) ?hic1 (by kernel_rfl) (by kernel_rfl) (by kernel_rfl) ?hQc1 (Or.inl ⟨?hwc1, ?hyc1⟩) (by assumption) ?restc1
    case hic1 => simp only [List.getElem?_toArray, List.getElem?_cons_succ, List.getElem?_cons_zero]; exact rfl
    case hQc1 => exact fun _ _ _ h => h
    case hwc1 => rfl
    case hyc1 => ((intro w hSw; (try dsimp only at hSw); go_simp) <;> with_reducible rfl)
    try simp only [Act.put, List.setIfInBounds_toArray, List.set_cons_zero, List.set_cons_succ]
    refine wpAnyH_take (i := 2) (oi := ?oic2) (v := ?vc2) ?hic2 (by kernel_rfl) (by kernel_rfl) (by kernel_rfl) ?hQc2 (Or.inl ⟨?hwc2, ?hyc2⟩) (by assumption) ?restc2
    case hic2 => simp only [List.getElem?_toArray, List.getElem?_cons_succ, List.getElem?_cons_zero]; exact rfl
    case hQc2 => exact fun _ _ _ h => h
    case hwc2 => rfl
    case hyc2 => ((intro w hSw; (try dsimp only at hSw); go_simp) <;> with_reducible rfl)
    try simp only [Act.put, List.setIfInBounds_toArray, List.set_cons_zero, List.set_cons_succ]
    refine wpAnyH_take (i := 3) (oi := ?oic3) (v := ?vc3) ?hic3 (by kernel_rfl) (by kernel_rfl) (by kernel_rfl) ?hQc3 (Or.inl ⟨?hwc3, ?hyc3⟩) (by assumption) ?restc3
    case hic3 => simp only [List.getElem?_toArray, List.getElem?_cons_succ, List.getElem?_cons_zero]; exact rfl
    case hQc3 => exact fun _ _ _ h => h
    case hwc3 => rfl
    case hyc3 => ((intro w hSw; (try dsimp only at hSw); go_simp) <;> with_reducible rfl)
    try simp only [Act.put, List.setIfInBounds_toArray, List.set_cons_zero, List.set_cons_succ]
    refine wpAnyH_ready (rs := [0, 4]) (by kernel_rfl) (by simp) ?_
    refine AllReadyH.cons (o := ?oc4) ?hoc4 (fun K hK => ?stepc4) ?morec4
    case hoc4 => simp only [List.getElem?_toArray, List.getElem?_cons_succ, List.getElem?_cons_zero]; exact rfl
    case stepc4 =>
      have hcx : W.drew.cell? ⟨w1.heap.size, 0, none⟩ = some u := hbox.cell
      go_simp
      refine hK.out _ _ ?hSc4 (fun hHeld => ?restc4)
      case hSc4 => exact hHeld
      clear hK K
      try simp only [Act.put, List.setIfInBounds_toArray, List.set_cons_zero, List.set_cons_succ]
      refine wpAnyH_ready (rs := [4]) (by kernel_rfl) (by simp) ?_
      refine AllReadyH.cons (o := ?oc5) ?hoc5 (fun K hK => ?stepc5) ?morec5
      case hoc5 => simp only [List.getElem?_toArray, List.getElem?_cons_succ, List.getElem?_cons_zero]; exact rfl
      case morec5 => exact AllReadyH.nil
      go_simp
      refine hK.out _ _ ?hSc5 (fun hHeld => ?restc5)
      case hSc5 => exact ⟨(cell_later_al _ q0), (cell_later_al _ q1), (cell_later_al _ q2), (cell_later_al _ q3)⟩
      clear hK K
      try simp only [Act.put, List.setIfInBounds_toArray, List.set_cons_zero, List.set_cons_succ]
      refine wpAnyH_ready (rs := [5]) (by kernel_rfl) (by simp) ?_
      refine AllReadyH.cons (o := ?oc6) ?hoc6 (fun K hK => ?stepc6) ?morec6
      case hoc6 => simp only [List.getElem?_toArray, List.getElem?_cons_succ, List.getElem?_cons_zero]; exact rfl
      case morec6 => exact AllReadyH.nil
      (refine step_append_own _ rfl _ _ 24 rfl w5.heap.size 36 i0 _ 4 32 Try.underlying24 hi hz0 hz1 hz2 rfl (by decide) _ _ _ rfl (show (W.drew.alloc (.cells #[.int .i64 (num zs (x.1 * 4)), .int .i64 (num zs (x.1 * 4 + 1)), .int .i64 (num zs (x.1 * 4 + 2)), .int .i64 (num zs (x.1 * 4 + 3))] 36)).ownsRow w5.heap.size 36 4 u _ _ from (show W.drew.ownsRow w5.heap.size 36 4 u _ _ from hrow).alloc _) ⟨W.heap.size, 0, none⟩ 1 1 [.int .i64 (num zs (x.1 * 4)), .int .i64 (num zs (x.1 * 4 + 1)), .int .i64 (num zs (x.1 * 4 + 2)), .int .i64 (num zs (x.1 * 4 + 3))] rfl rfl (World.news_of_block (heap_alloc_new W.drew _)) (by intro u hu; simp at hu; rcases hu with rfl | rfl | rfl | rfl <;> rfl) (by unfold maxLen; omega) (by omega) (by have := hBW; simp; omega) ?_; intro v' u2 hown2 hgrow2 _)
      have gcell : ∀ {j : Nat} {z : Value}, W.cell? ⟨gs x.1, j, none⟩ = some z → u2.cell? ⟨gs x.1, j, none⟩ = some z := fun h => hgrow2.cell (cell_later_al _ h) hgne
      obtain ⟨A3, d3, rfl, _, _⟩ := own_slice hown2
      have hbx : Boxed u2 w1.heap.size 24 u := (show Boxed (W.drew.alloc (.cells #[.int .i64 (num zs (x.1 * 4)), .int .i64 (num zs (x.1 * 4 + 1)), .int .i64 (num zs (x.1 * 4 + 2)), .int .i64 (num zs (x.1 * 4 + 3))] 36)) w1.heap.size _ u from (show Boxed W.drew w1.heap.size _ u from hbox).alloc _).kept hgrow2 hne
      refine hK.out _ _ ?hSc6 (fun hHeld => ?restc6)
      case hSc6 => exact ⟨gcell q0, gcell q1, gcell q2, gcell q3⟩
      clear hK K
      try simp only [Act.put, List.setIfInBounds_toArray, List.set_cons_zero, List.set_cons_succ]
      refine wpAnyH_ready (rs := [6]) (by kernel_rfl) (by simp) ?_
      refine AllReadyH.cons (o := ?oc7) ?hoc7 (fun K hK => ?stepc7) ?morec7
      case hoc7 => simp only [List.getElem?_toArray, List.getElem?_cons_succ, List.getElem?_cons_zero]; exact rfl
      case morec7 => exact AllReadyH.nil
      have hc3 := hbx.cell
      have hf3 := hbx.frozen
      go_simp
      refine hK.out _ _ ?hSc7 (fun hHeld => ?restc7)
      case hSc7 => exact ⟨setfar hHeld.1, setfar hHeld.2.1, setfar hHeld.2.2.1, setfar hHeld.2.2.2⟩
      clear hK K
      try simp only [Act.put, List.setIfInBounds_toArray, List.set_cons_zero, List.set_cons_succ]
      refine wpAnyH_done (by kernel_rfl) ?_ _
      have hr2 := hown2.kept (set_grown u2 w1.heap.size 0 (.slice A3 (pre.length + 1) d3)) (.inr (fun e => by have := (hown2.lt _ e).1; have := bO.lt; omega))
      have hsz2 : W.heap.size ≤ (u2.setCell ⟨w1.heap.size, 0, none⟩ (.slice A3 (pre.length + 1) d3)).heap.size := by have := hgrow2.size; simp [World.setCell] at this ⊢; omega
      obtain ⟨_, hv2, _, hk2, _⟩ := (show Boxed W.drew w1.heap.size 24 u from hbox).appended (n₀ := w.heap.size) (by decide) (own_mono (show W.drew.ownsRow w5.heap.size 36 4 u _ _ from hrow) hb5.size) (Nat.le_trans hb5.size hBW) hBm (own_mono hown2 hb5.size) hgrow2
      have hblk : ∀ i, i < w5.heap.size → i ≠ w1.heap.size → (u2.setCell ⟨w1.heap.size, 0, none⟩ (.slice A3 (pre.length + 1) d3)).heap[i]? = W.heap[i]? := fun i hi hne2 => (Below.heap_setCell u2 ⟨w1.heap.size, 0, none⟩ _ i (fun e => hne2 e)).trans ((hgrow2.block i (by simp; omega) (fun e => by have := (hrow.lt i e.symm).1; omega)).trans (Below.heap_alloc W.drew _ i (Nat.lt_of_lt_of_le hi hBW)))
      gi_wp2
      refine ⟨⟨hk2.size, fun k o _ hk ho => hk2.same k o hk ho⟩, .of_blocks hsz2 (fun i hi => ?_), ⟨⟨_, hv2, ?_, trivial⟩, ⟨hgrow2.os.trans hgr.os, hgrow2.tape.trans hgr.tape, hgrow2.output.trans hgr.output, Nat.le_trans hBW hsz2, fun k hk hne2 => (hblk k hk (fun e => hne2 (by rw [e]))).trans (hgr.block k hk hne2)⟩⟩⟩
      · rcases hi with rfl | rfl | h | ⟨k, hk, rfl⟩
        · exact hblk _ (by omega) (by omega)
        · exact hblk _ (by omega) (by omega)
        · exact hblk _ (hop.own.lt _ h).2 (fun e => by have := (hop.own.lt _ h).1; omega)
        · exact hblk _ (hcp k hk).2.2.2.2.lt (fun e => by have := (hcp k hk).1; omega)
      · rw [rowsOf_snoc, nums_append, List.length_append]
        exact hr2
    refine AllReadyH.cons (o := ?oc8) ?hoc8 (fun K hK => ?stepc8) ?morec8
    case hoc8 => simp only [List.getElem?_toArray, List.getElem?_cons_succ, List.getElem?_cons_zero]; exact rfl
    case morec8 => exact AllReadyH.nil
    go_simp
    refine hK.out _ _ ?hSc8 (fun hHeld => ?restc8)
    case hSc8 => exact ⟨(cell_later_al _ q0), (cell_later_al _ q1), (cell_later_al _ q2), (cell_later_al _ q3)⟩
    clear hK K
    try simp only [Act.put, List.setIfInBounds_toArray, List.set_cons_zero, List.set_cons_succ]
    refine wpAnyH_ready (rs := [0]) (by kernel_rfl) (by simp) ?_
    refine AllReadyH.cons (o := ?oc9) ?hoc9 (fun K hK => ?stepc9) ?morec9
    case hoc9 => simp only [List.getElem?_toArray, List.getElem?_cons_succ, List.getElem?_cons_zero]; exact rfl
    case morec9 => exact AllReadyH.nil
    have hcx := (show Boxed (W.drew.alloc (.cells #[.int .i64 (num zs (x.1 * 4)), .int .i64 (num zs (x.1 * 4 + 1)), .int .i64 (num zs (x.1 * 4 + 2)), .int .i64 (num zs (x.1 * 4 + 3))] 36)) w1.heap.size _ u from (show Boxed W.drew w1.heap.size _ u from hbox).alloc _).cell
    have hcx0 := hbox.cell
    have hcx1 := (hbox.alloc (.cells #[.int .i64 (num zs (x.1 * 4)), .int .i64 (num zs (x.1 * 4 + 1)), .int .i64 (num zs (x.1 * 4 + 2)), .int .i64 (num zs (x.1 * 4 + 3))] 36)).cell
    go_simp
    refine hK.out _ _ ?hSc9 (fun hHeld => ?restc9)
    case hSc9 => exact hHeld
    clear hK K
    try simp only [Act.put, List.setIfInBounds_toArray, List.set_cons_zero, List.set_cons_succ]
    refine wpAnyH_ready (rs := [5]) (by kernel_rfl) (by simp) ?_
    refine AllReadyH.cons (o := ?oc10) ?hoc10 (fun K hK => ?stepc10) ?morec10
    case hoc10 => simp only [List.getElem?_toArray, List.getElem?_cons_succ, List.getElem?_cons_zero]; exact rfl
    case morec10 => exact AllReadyH.nil
    (refine step_append_own _ rfl _ _ 24 rfl w5.heap.size 36 i0 _ 4 32 Try.underlying24 hi hz0 hz1 hz2 rfl (by decide) _ _ _ rfl (show (W.drew.alloc (.cells #[.int .i64 (num zs (x.1 * 4)), .int .i64 (num zs (x.1 * 4 + 1)), .int .i64 (num zs (x.1 * 4 + 2)), .int .i64 (num zs (x.1 * 4 + 3))] 36)).ownsRow w5.heap.size 36 4 u _ _ from (show W.drew.ownsRow w5.heap.size 36 4 u _ _ from hrow).alloc _) ⟨W.heap.size, 0, none⟩ 1 1 [.int .i64 (num zs (x.1 * 4)), .int .i64 (num zs (x.1 * 4 + 1)), .int .i64 (num zs (x.1 * 4 + 2)), .int .i64 (num zs (x.1 * 4 + 3))] rfl rfl (World.news_of_block (heap_alloc_new W.drew _)) (by intro u hu; simp at hu; rcases hu with rfl | rfl | rfl | rfl <;> rfl) (by unfold maxLen; omega) (by omega) (by have := hBW; simp; omega) ?_; intro v' u2 hown2 hgrow2 _)
    have gcell : ∀ {j : Nat} {z : Value}, W.cell? ⟨gs x.1, j, none⟩ = some z → u2.cell? ⟨gs x.1, j, none⟩ = some z := fun h => hgrow2.cell (cell_later_al _ h) hgne
    obtain ⟨A3, d3, rfl, _, _⟩ := own_slice hown2
    have hbx : Boxed u2 w1.heap.size 24 u := (show Boxed (W.drew.alloc (.cells #[.int .i64 (num zs (x.1 * 4)), .int .i64 (num zs (x.1 * 4 + 1)), .int .i64 (num zs (x.1 * 4 + 2)), .int .i64 (num zs (x.1 * 4 + 3))] 36)) w1.heap.size _ u from (show Boxed W.drew w1.heap.size _ u from hbox).alloc _).kept hgrow2 hne
    refine hK.out _ _ ?hSc10 (fun hHeld => ?restc10)
    case hSc10 => exact ⟨gcell q0, gcell q1, gcell q2, gcell q3⟩
    clear hK K
    try simp only [Act.put, List.setIfInBounds_toArray, List.set_cons_zero, List.set_cons_succ]
    refine wpAnyH_ready (rs := [6]) (by kernel_rfl) (by simp) ?_
    refine AllReadyH.cons (o := ?oc11) ?hoc11 (fun K hK => ?stepc11) ?morec11
    case hoc11 => simp only [List.getElem?_toArray, List.getElem?_cons_succ, List.getElem?_cons_zero]; exact rfl
    case morec11 => exact AllReadyH.nil
    have hc3 := hbx.cell
    have hf3 := hbx.frozen
    go_simp
    refine hK.out _ _ ?hSc11 (fun hHeld => ?restc11)
    case hSc11 => exact ⟨setfar hHeld.1, setfar hHeld.2.1, setfar hHeld.2.2.1, setfar hHeld.2.2.2⟩
    clear hK K
    try simp only [Act.put, List.setIfInBounds_toArray, List.set_cons_zero, List.set_cons_succ]
    refine wpAnyH_done (by kernel_rfl) ?_ _
    have hr2 := hown2.kept (set_grown u2 w1.heap.size 0 (.slice A3 (pre.length + 1) d3)) (.inr (fun e => by have := (hown2.lt _ e).1; have := bO.lt; omega))
    have hsz2 : W.heap.size ≤ (u2.setCell ⟨w1.heap.size, 0, none⟩ (.slice A3 (pre.length + 1) d3)).heap.size := by have := hgrow2.size; simp [World.setCell] at this ⊢; omega
    obtain ⟨_, hv2, _, hk2, _⟩ := (show Boxed W.drew w1.heap.size 24 u from hbox).appended (n₀ := w.heap.size) (by decide) (own_mono (show W.drew.ownsRow w5.heap.size 36 4 u _ _ from hrow) hb5.size) (Nat.le_trans hb5.size hBW) hBm (own_mono hown2 hb5.size) hgrow2
    have hblk : ∀ i, i < w5.heap.size → i ≠ w1.heap.size → (u2.setCell ⟨w1.heap.size, 0, none⟩ (.slice A3 (pre.length + 1) d3)).heap[i]? = W.heap[i]? := fun i hi hne2 => (Below.heap_setCell u2 ⟨w1.heap.size, 0, none⟩ _ i (fun e => hne2 e)).trans ((hgrow2.block i (by simp; omega) (fun e => by have := (hrow.lt i e.symm).1; omega)).trans (Below.heap_alloc W.drew _ i (Nat.lt_of_lt_of_le hi hBW)))
    gi_wp2
    refine ⟨⟨hk2.size, fun k o _ hk ho => hk2.same k o hk ho⟩, .of_blocks hsz2 (fun i hi => ?_), ⟨⟨_, hv2, ?_, trivial⟩, ⟨hgrow2.os.trans hgr.os, hgrow2.tape.trans hgr.tape, hgrow2.output.trans hgr.output, Nat.le_trans hBW hsz2, fun k hk hne2 => (hblk k hk (fun e => hne2 (by rw [e]))).trans (hgr.block k hk hne2)⟩⟩⟩
    · rcases hi with rfl | rfl | h | ⟨k, hk, rfl⟩
      · exact hblk _ (by omega) (by omega)
      · exact hblk _ (by omega) (by omega)
      · exact hblk _ (hop.own.lt _ h).2 (fun e => by have := (hop.own.lt _ h).1; omega)
      · exact hblk _ (hcp k hk).2.2.2.2.lt (fun e => by have := (hcp k hk).1; omega)
    · rw [rowsOf_snoc, nums_append, List.length_append]
      exact hr2
  case done =>
    rintro D ys W hD rfl ⟨⟨u, hbox, hrow, _⟩, hgr⟩ hK
    have hcx := hbox.cell
    go_wp2_with fail
    refine ⟨by simp, .inl ⟨_, _, rfl, run_takeDeferred hK, ?_⟩⟩
    refine ⟨_, results_tmp rfl _ _ _, ⟨_, rfl, ?_⟩, (hb5.grown hgr hb5.size (fun q e => by cases e; exact hBm)).trans (belowK_b (n₀ := w.heap.size) (w := w5) hb5.size W D _ _ hD hK rfl rfl)⟩
    have hle : lead (fun k => meetB side lim (price zs k)) N ≤ N := lead_le _ _
    rw [HBK.out, HC.out, HZ.out, ← rowsOf_first zs hzs _ hle]
    have h2 := ownsRow_putObj (own_mono hrow hb5.size) (.deferred none) hK rfl
    rw [firstN_length hle] at h2
    exact h2
  case stop =>
    rintro D c pre W _ _ h _
    exact h.elim
end Go.Proofs.Ytgpllcjnbkhbnaa
