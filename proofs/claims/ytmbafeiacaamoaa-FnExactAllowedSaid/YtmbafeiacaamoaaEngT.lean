/-
  The engine that a law makes of its argument.
-/
import Derived.Test.YtmbafeiacaamoaaEngB
import Derived.Handy
namespace Go.Proofs.Ytmbafeiacaamoaa
open Go.RowKit Wire

theorem rows_made_val {w : World} (z : Array Value) (n : Nat) (t : TypeId) (f : Nat → Value) (hf : ∀ i, i < n → z[i % z.size]? = some (f i)) : (w.alloc (.cells (madeCells z n) t)).rowIs w.heap.size t n f :=
  ⟨_, heap_alloc_new w _, size_madeCells _ _, fun i hi => by
    simp only [madeCells, Array.getElem?_map, Array.getElem?_range, hi, if_true, Option.map_some]
    rw [Array.getElem!_eq_getD, Array.getD_eq_getD_getElem?, hf i hi]
    rfl⟩
theorem nil2_at (i : Nat) : (#[.slice none 0 0, .slice none 0 0] : Array Value)[i % (#[.slice none 0 0, .slice none 0 0] : Array Value).size]? = some (.slice none 0 0) := by
  have h : i % 2 = 0 ∨ i % 2 = 1 := by omega
  show (#[.slice none 0 0, .slice none 0 0] : Array Value)[i % 2]? = _
  rcases h with h | h <;> rw [h] <;> simp
theorem book_info2 : (Try.prog.info? 58).map (fun i => (i.zero, i.size, i.bytes)) = some (some (.agg #[.slice none 0 0, .slice none 0 0]), 2, 48) := by kernel_rfl
theorem i64_info : (Try.prog.info? 2).map (fun i => (i.zero, i.size, i.bytes)) = some (some (.int .i64 0), 1, 8) := by kernel_rfl
theorem zero1 : ∀ j, j < (#[.int .i64 0] : Array Value).size → (#[.int .i64 0] : Array Value)[j]? = some (.int .i64 0) := by
  intro j hj
  simp at hj
  subst hj
  rfl
set_option maxHeartbeats 1600000 in
set_option maxRecDepth 100000 in
theorem toBookS_any (A : Option Addr) (n c : Nat) (bs : List (List Int × List Int)) (w : World) (hl : BksAt maxLen w w.heap.size A bs) (hlen : bs.length = n) (hsm : BkSmall bs n) (hn : n ≤ 1048576) :
    Calls Try.prog 31 #[.slice A n c] w fun e w' => e = .returned (.slice (some ⟨w.heap.size, 0, none⟩) n n) ∧ ERow w' (w.heap.size + 1) w.heap.size n bs ∧ Below w.heap.size w w' := by
  obtain ⟨i0, hi, hz0, hz1, hz2⟩ := info_parts book_info2
  have hmk := fun (w : World) => run_make_rows (P := Try.prog) w 29 58 i0 _ 2 48 Try.underlying29 hi hz0 hz1 hz2 .i64 .i64 n (by omega) (by omega)
  have hrow0 : ERow (w.alloc (.cells (madeCells #[.slice none 0 0, .slice none 0 0] (n * 2)) 58)) (w.heap.size + 1) w.heap.size n (bs.take 0) := ⟨_, rows_made_val (w := w) #[.slice none 0 0, .slice none 0 0] (n * 2) 58 (fun _ => .slice none 0 0) (fun i _ => nil2_at i), fun k x hx => by simp at hx⟩
  have hbel0 : Below w.heap.size w (w.alloc (.cells (madeCells #[.slice none 0 0, .slice none 0 0] (n * 2)) 58)) := (Below.refl _ _).alloc (Nat.le_refl _) _
  go_enter Try.func31, Try.ntmps31
  go_wp2
  go_loopw [4] (fun i wr => ∃ k : Nat, k ≤ n ∧ i = .int .i64 (k : Int) ∧ ERow wr (w.heap.size + 1) w.heap.size n (bs.take k) ∧ Below w.heap.size w wr) (fun i _ => n - (intOf i).toNat)
  case atStart => exact ⟨0, Nat.zero_le _, rfl, hrow0, hbel0⟩
  case round =>
    obtain ⟨k, hk, rfl, hrow, hbel⟩ := hrel
    by_cases hlt : k < n
    · obtain ⟨x, hx⟩ : ∃ x, bs[k]? = some x := ⟨bs[k]'(by omega), List.getElem?_eq_getElem (by omega)⟩
      have hsx := hsm k x hlt hx
      have hlr := (hl.later hbel) k x hx
      obtain ⟨b, o, A1, n1, c1, A2, n2, c2, rfl, hbX, q0, q1, hI, hn1, hn2⟩ := hlr
      have e1 := hI.1.1
      have e2 := hI.2.1
      have HX := Lib.hid hx
      have hwr : w.heap.size < wr.heap.size := by obtain ⟨F, hr, _⟩ := hrow; exact hr.lt
      clear hl hx hsm hrow0 hbel0
      go_wp2_with fail
      refine (toBook_any A1 n1 c1 A2 n2 c2 x.1 x.2 wr hI (by omega)).mono ?_
      rintro e w1 ⟨g1, g2, rfl, hg1, hg2, _, hr1, hr2, hb1⟩
      have hrow1 := hrow.below hb1
      have hbel1 := below_later hbel hb1
      obtain ⟨F, hF, hFx⟩ := hrow1
      have d0 : w1.cell? ⟨w.heap.size, k * 2, none⟩ = _ := hF.cell (i := k * 2) (by omega)
      have d1 : w1.cell? ⟨w.heap.size, k * 2 + 1, none⟩ = _ := hF.cell (i := k * 2 + 1) (by omega)
      have z := hF.frozen
      have hp := ERow.put (w := w1) ⟨F, hF, hFx⟩ HX.out (Nat.lt_succ_self _) (show w.heap.size + 1 ≤ g1 by omega) (show w.heap.size + 1 ≤ g2 by omega) e1 e2 (by omega) hr1 hr2
      have hq := (hbel1.setCell (p := ⟨w.heap.size, k * 2, none⟩) (Nat.le_refl w.heap.size) (.slice (some ⟨g1, 0, none⟩) n1 n1)).setCell (p := ⟨w.heap.size, k * 2 + 1, none⟩) (Nat.le_refl w.heap.size) (.slice (some ⟨g2, 0, none⟩) n2 n2)
      have HP := Lib.hid hp
      clear hb1 hrow hbel hF hFx q0 q1 hI hr1 hr2 hbel1 hp
      go_wp2_with fail
      go_roundw
      case rel => exact ⟨k + 1, by omega, by go_num, HP.out, hq⟩
      case measure => simp [intOf]; omega
    · obtain rfl : k = n := by omega
      have hrow : ERow wr (w.heap.size + 1) w.heap.size k bs := by rwa [List.take_of_length_le (by omega)] at hrow
      clear hrow0 hbel0 hl hsm
      go_wp2_with fail
      go_ret
      exact ⟨rfl, hrow, hbel⟩
set_option maxHeartbeats 1600000 in
set_option maxRecDepth 100000 in
theorem toInt64S_any (A : Option Addr) (n c : Nat) (zs : List Int) (w : World) (hl : Lst w w.heap.size 1 A n zs) (hn : n ≤ 1048576) :
    Calls Try.prog 32 #[.slice A n c] w fun e w' => e = .returned (.slice (some ⟨w.heap.size, 0, none⟩) n n) ∧ w'.rowIs w.heap.size 2 n (numAt fun j => num zs j) ∧ Below w.heap.size w w' := by
  obtain ⟨i0, hi, hz0, hz1, hz2⟩ := info_parts i64_info
  have hmk := fun (w : World) => run_make_rows (P := Try.prog) w 23 2 i0 _ 1 8 Try.underlying23 hi hz0 hz1 hz2 .i64 .i64 n (by omega) (by omega)
  have hrow0 := rows_made (w := w) #[.int .i64 0] (n * 1) 2 zero1 (by simp)
  have hbel0 : Below w.heap.size w (w.alloc (.cells (madeCells #[.int .i64 0] (n * 1)) 2)) := (Below.refl _ _).alloc (Nat.le_refl _) _
  simp only [Nat.mul_one] at hmk hrow0 hbel0
  go_enter Try.func32, Try.ntmps32
  go_wp2
  go_loopw [4] (fun i wr => ∃ k : Nat, k ≤ n ∧ i = .int .i64 (k : Int) ∧ wr.rowIs w.heap.size 2 n (numAt fun j => if j < k then num zs j else 0) ∧ Below w.heap.size w wr) (fun i _ => n - (intOf i).toNat)
  case atStart => exact ⟨0, Nat.zero_le _, rfl, hrow0.congr (fun j _ => by simp [numAt]), hbel0⟩
  case round =>
    obtain ⟨k, hk, rfl, hrow, hbel⟩ := hrel
    by_cases hlt : k < n
    · obtain ⟨b, o, rfl, hb, h0⟩ := (hl.below hbel).get hlt
      have p0 := h0 0 (by omega)
      simp only [Nat.mul_one, Nat.add_zero] at p0
      have d0 : wr.cell? ⟨w.heap.size, k, none⟩ = _ := hrow.cell (i := k) (by omega)
      have z := hrow.frozen
      have hp : Hid ((wr.setCell ⟨w.heap.size, k, none⟩ (.int .i64 (num zs k))).rowIs w.heap.size 2 n (numAt fun j => if j < k + 1 then num zs j else 0)) := Lib.hid ((hrow.set _ _).congr fun j _ => by
        simp only [numAt]
        rcases Nat.lt_trichotomy j k with hj | rfl | hj
        · rw [if_neg (by omega), if_pos hj, if_pos (by omega)]
        · rw [if_pos rfl, if_pos (by omega)]
        · rw [if_neg (by omega), if_neg (by omega), if_neg (by omega)])
      have hq := hbel.setCell (p := ⟨w.heap.size, k, none⟩) (Nat.le_refl w.heap.size) (.int .i64 (num zs k))
      clear hl h0 hrow hbel hrow0 hbel0
      go_wp2_with fail
      go_roundw
      case rel => exact ⟨k + 1, by omega, by go_num, hp.out, hq⟩
      case measure => simp [intOf]; omega
    · obtain rfl : k = n := by omega
      clear hrow0 hbel0
      go_wp2_with fail
      go_ret
      exact ⟨rfl, hrow.congr (fun j hj => by simp only [numAt]; rw [if_pos hj]), hbel⟩
set_option maxHeartbeats 1600000 in
set_option maxRecDepth 100000 in
theorem toEngine_any (A : Option Addr) (n c : Nat) (I : Option Addr) (i d : Nat) (bs : List (List Int × List Int)) (is : List Int) (w : World) (hl : BksAt maxLen w w.heap.size A bs) (hlen : bs.length = n) (hsm : BkSmall bs n) (hn : n ≤ 1048576) (ha : Lst w w.heap.size 1 I i is) (hi : i ≤ 1048576) :
    Calls Try.prog 11 #[.agg #[.slice A n c, .slice I i d]] w fun e w' => ∃ g h, e = .returned (.agg #[.slice (some ⟨g, 0, none⟩) n n, .slice (some ⟨h, 0, none⟩) i i]) ∧ EngS w' w'.heap.size (some ⟨g, 0, none⟩) n (some ⟨h, 0, none⟩) i i bs is ∧ Below w.heap.size w w' := by
  go_enter Try.func11, Try.ntmps11
  go_wp2_with fail
  have hb0 : Below w.heap.size w (((w.alloc (.cells #[.slice A n c, .slice I i d] 25)).alloc (.cells #[.slice none 0 0, .slice none 0 0] 31)).alloc (.cells #[.slice none 0 0, .slice none 0 0] 31)) := (((Below.refl _ _).alloc (Nat.le_refl _) _).alloc (by simp) _).alloc (by simp; omega) _
  have hl0 := hl.later hb0
  obtain ⟨h0, h1, h2⟩ := three_blocks w (.cells #[.slice A n c, .slice I i d] 25) (.cells #[.slice none 0 0, .slice none 0 0] 31) (.cells #[.slice none 0 0, .slice none 0 0] 31)
  have hs0 : (((w.alloc (.cells #[.slice A n c, .slice I i d] 25)).alloc (.cells #[.slice none 0 0, .slice none 0 0] 31)).alloc (.cells #[.slice none 0 0, .slice none 0 0] 31)).heap.size = w.heap.size + 3 := by simp
  generalize (((w.alloc (.cells #[.slice A n c, .slice I i d] 25)).alloc (.cells #[.slice none 0 0, .slice none 0 0] 31)).alloc (.cells #[.slice none 0 0, .slice none 0 0] 31)) = w0 at *
  refine (toBookS_any A n c bs _ hl0 hlen hsm hn).mono ?_
  rintro e w1 ⟨rfl, hr1, hb1⟩
  have hr1lt : w0.heap.size < w1.heap.size := by obtain ⟨F, hr, _⟩ := hr1; exact hr.lt
  have k0 := (hb1.block (w.heap.size) (by omega)).trans h0
  have k1 := (hb1.block (w.heap.size + 1) (by omega)).trans h1
  have k2 := (hb1.block (w.heap.size + 1 + 1) (by omega)).trans h2
  have hsz1 := hb1.size
  have a0 := cell_of_row w1 (w.heap.size) 0 _ _ (0, 0) k0
  have a1 := cell_of_row w1 (w.heap.size) 1 _ _ (0, 0) k0
  have b0 := cell_of_row w1 (w.heap.size + 1) 0 _ _ (0, 0) k1
  have b1 := cell_of_row w1 (w.heap.size + 1) 1 _ _ (0, 0) k1
  have c0 := cell_of_row w1 (w.heap.size + 1 + 1) 0 _ _ (0, 0) k2
  have c1 := cell_of_row w1 (w.heap.size + 1 + 1) 1 _ _ (0, 0) k2
  have zb0 := frozen_of_row w1 (w.heap.size + 1) 0 _ _ k1
  have zb1 := frozen_of_row w1 (w.heap.size + 1) 1 _ _ k1
  have zc0 := frozen_of_row w1 (w.heap.size + 1 + 1) 0 _ _ k2
  have zc1 := frozen_of_row w1 (w.heap.size + 1 + 1) 1 _ _ k2
  simp at a0 a1 b0 b1 c0 c1
  clear k0 k1 k2 h0 h1 h2
  go_wp2_with fail
  have hbW := (hb0.trans (hb1.mono (show w.heap.size ≤ w0.heap.size by omega))).setCell (p := ⟨w.heap.size + 1 + 1, 0, none⟩) (show w.heap.size ≤ w.heap.size + 1 + 1 by omega) (.slice (some ⟨w.heap.size + 3, 0, none⟩) n n)
  have hr1' := hr1.other (j := 0) (q := w.heap.size + 1 + 1) (show w.heap.size + 1 + 1 < w0.heap.size + 1 by omega) (show w0.heap.size ≠ w.heap.size + 1 + 1 by omega) (.slice (some ⟨w.heap.size + 3, 0, none⟩) n n)
  have hszW : (w1.setCell ⟨w.heap.size + 1 + 1, 0, none⟩ (.slice (some ⟨w.heap.size + 3, 0, none⟩) n n)).heap.size = w1.heap.size := by simp [World.setCell]
  refine (toInt64S_any I i d is _ ((ha.below hbW).more hbW.size) hi).mono ?_
  rintro e w3 ⟨rfl, hr3, hb3⟩
  have hlt := hr1lt
  have hr13 := hr1'.below hb3
  have hb03 := hbW.trans (hb3.mono (by rw [hszW]; omega))
  have d0 := (hb3.cell (p := ⟨w.heap.size + 1 + 1, 0, none⟩) (show w.heap.size + 1 + 1 < _ by rw [hszW]; omega)).trans (World.cell?_setCell_same _ _ _ c0)
  have d1 := (hb3.cell (p := ⟨w.heap.size + 1 + 1, 1, none⟩) (show w.heap.size + 1 + 1 < _ by rw [hszW]; omega)).trans ((World.cell?_setCell_other _ _ _ _ (by simp)).trans c1)
  have f0 := (hb3.cell (p := ⟨w.heap.size + 1, 0, none⟩) (show w.heap.size + 1 < _ by rw [hszW]; omega)).trans ((World.cell?_setCell_other _ _ _ _ (by simp)).trans b0)
  have f1 := (hb3.cell (p := ⟨w.heap.size + 1, 1, none⟩) (show w.heap.size + 1 < _ by rw [hszW]; omega)).trans ((World.cell?_setCell_other _ _ _ _ (by simp)).trans b1)
  have y0 := (hb3.frozen (p := ⟨w.heap.size + 1 + 1, 0, none⟩) (show w.heap.size + 1 + 1 < _ by rw [hszW]; omega)).trans ((by simp : (w1.setCell ⟨w.heap.size + 1 + 1, 0, none⟩ (.slice (some ⟨w.heap.size + 3, 0, none⟩) n n)).frozen? ⟨w.heap.size + 1 + 1, 0, none⟩ = w1.frozen? ⟨w.heap.size + 1 + 1, 0, none⟩).trans zc0)
  have y1 := (hb3.frozen (p := ⟨w.heap.size + 1 + 1, 1, none⟩) (show w.heap.size + 1 + 1 < _ by rw [hszW]; omega)).trans ((by simp : (w1.setCell ⟨w.heap.size + 1 + 1, 0, none⟩ (.slice (some ⟨w.heap.size + 3, 0, none⟩) n n)).frozen? ⟨w.heap.size + 1 + 1, 1, none⟩ = w1.frozen? ⟨w.heap.size + 1 + 1, 1, none⟩).trans zc1)
  have x0 := (hb3.frozen (p := ⟨w.heap.size + 1, 0, none⟩) (show w.heap.size + 1 < _ by rw [hszW]; omega)).trans ((by simp : (w1.setCell ⟨w.heap.size + 1 + 1, 0, none⟩ (.slice (some ⟨w.heap.size + 3, 0, none⟩) n n)).frozen? ⟨w.heap.size + 1, 0, none⟩ = w1.frozen? ⟨w.heap.size + 1, 0, none⟩).trans zb0)
  have x1 := (hb3.frozen (p := ⟨w.heap.size + 1, 1, none⟩) (show w.heap.size + 1 < _ by rw [hszW]; omega)).trans ((by simp : (w1.setCell ⟨w.heap.size + 1 + 1, 0, none⟩ (.slice (some ⟨w.heap.size + 3, 0, none⟩) n n)).frozen? ⟨w.heap.size + 1, 1, none⟩ = w1.frozen? ⟨w.heap.size + 1, 1, none⟩).trans zb1)
  rw [hszW] at hr3 ⊢
  have hg2 : w.heap.size + 3 < w1.heap.size := by omega
  generalize w1.heap.size = G at *
  clear hb3 hr1 hr1' hr1lt hbW hszW a0 a1 b0 b1 c0 c1 zb0 zb1 zc0 zc1 hb1 hb0 hsz1 hlt
  rw [hs0] at hr13
  go_wp2_with fail
  have q2 : w.heap.size + 1 + 1 ≠ G := by omega
  have q1 : w.heap.size + 1 ≠ G := by omega
  have hf : ∀ (W : World), EngS W W.heap.size (some ⟨w.heap.size + 3, 0, none⟩) n (some ⟨G, 0, none⟩) i i bs is ↔ (EBks W W.heap.size (some ⟨w.heap.size + 3, 0, none⟩) bs ∧ Lst W W.heap.size 1 (some ⟨G, 0, none⟩) i is) := fun W => ⟨fun h => ⟨h.books, h.accts⟩, fun h => ⟨h.1, hlen, h.2, (fun e => by cases e), Nat.le_refl _, by unfold maxLen; omega⟩⟩
  refine bodyPost_ret (v := .agg #[.slice (some ⟨w.heap.size + 3, 0, none⟩) n n, .slice (some ⟨G, 0, none⟩) i i]) (by simp [results, Try.results11, go_sem, f0, f1]) rfl ⟨_, _, rfl, (hf _).2 ⟨?_, ?_⟩, ?_⟩
  · exact (((hr13.other (q := w.heap.size + 1 + 1) (j := 1) (by omega) (by omega) _).other (q := w.heap.size + 1) (j := 0) (by omega) (by omega) _).other (q := w.heap.size + 1) (j := 1) (by omega) (by omega) _).eBks hlen
  · exact Lst.of_row (sz := 1) (zs := is) (n := i) (((hr3.setOther (a := ⟨w.heap.size + 1 + 1, 1, none⟩) (fun e => q2 e.symm) _).setOther (a := ⟨w.heap.size + 1, 0, none⟩) (fun e => q1 e.symm) _).setOther (a := ⟨w.heap.size + 1, 1, none⟩) (fun e => q1 e.symm) _) (by omega) ha.1 (fun _ _ => rfl)
  · exact ((hb03.setCell (p := ⟨w.heap.size + 1 + 1, 1, none⟩) (show w.heap.size ≤ w.heap.size + 1 + 1 by omega) _).setCell (p := ⟨w.heap.size + 1, 0, none⟩) (show w.heap.size ≤ w.heap.size + 1 by omega) _).setCell (p := ⟨w.heap.size + 1, 1, none⟩) (show w.heap.size ≤ w.heap.size + 1 by omega) _
end Go.Proofs.Ytmbafeiacaamoaa
