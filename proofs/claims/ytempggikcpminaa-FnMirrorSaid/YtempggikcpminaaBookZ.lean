/-
  Which books are right: the numbers of the orders, and all of it (the program's).
-/
import Derived.Test.YtempggikcpminaaBookX
namespace Go.Proofs.Ytempggikcpminaa
open Go.RowKit Wire
open Go.Maps (Keyed int_keyed)

set_option maxHeartbeats 1600000 in
set_option maxRecDepth 100000 in
theorem impl_idsDiffer (A : Option Addr) (n c : Nat) (B : Option Addr) (m d : Nat) (za zb : List Int) (w : World) (ha : Lst w w.heap.size 4 A n za) (hb : Lst w w.heap.size 4 B m zb) (hn : n ≤ 20) (hm : m ≤ 20) (hI : ∀ k, k < n + m → I64 (idA za n zb k)) :
    Calls Try.prog 68 #[.agg #[.slice A n c, .slice B m d]] w fun e w' => e = .returned (.bool (distB (idA za n zb) (n + m))) ∧ Below w.heap.size w w' := by
  have hb0 : Below w.heap.size w ((w.alloc (.cells #[.slice A n c, .slice B m d] 26)).alloc (.map #[] 0)) := ((Below.refl _ _).alloc (Nat.le_refl _) _).alloc (by simp) _
  have k0 : ((w.alloc (.cells #[.slice A n c, .slice B m d] 26)).alloc (.map #[] 0)).heap[w.heap.size]? = some (.cells #[.slice A n c, .slice B m d] 26 (0, 0)) := (Below.heap_alloc _ _ _ (by simp)).trans (heap_alloc_new w _)
  have hown0 : ((w.alloc (.cells #[.slice A n c, .slice B m d] 26)).alloc (.map #[] 0)).ownsMap Try.prog 2 (plainElem (H := Unit) Try.prog 4) (w.heap.size + 1) 0 (seenD (idA za n zb) 0) := by
    have := World.ownsMap_made (w.alloc (.cells #[.slice A n c, .slice B m d] 26)) Try.prog 2 (plainElem (H := Unit) Try.prog 4)
    have e : (w.alloc (.cells #[.slice A n c, .slice B m d] 26)).heap.size = w.heap.size + 1 := by simp
    rw [e] at this
    exact this
  have hmm := @run_makeMap Try.prog
  have HSZ := Lib.hid (show Maps.size (seenD (idA za n zb) (n + m)) = cntB (idA za n zb) (n + m) from seen_size _ _)
  have HIF := Lib.hid (cntB_iff (idA za n zb) (n + m))
  have HLE := Lib.hid (cntB_le (idA za n zb) (n + m))
  go_enter Try.func68, Try.ntmps68
  go_wp2_with fail
  go_loopw [12] (fun i wr => ∃ k : Nat, k ≤ n ∧ i = .int .i64 (k : Int) ∧ wr.ownsMap Try.prog 2 (plainElem (H := Unit) Try.prog 4) (w.heap.size + 1) k (seenD (idA za n zb) k) ∧ wr.heap[w.heap.size]? = some (.cells #[.slice A n c, .slice B m d] 26 (0, 0)) ∧ Below w.heap.size w wr) (fun i _ => n - (intOf i).toNat)
  case atStart => exact ⟨0, Nat.zero_le _, rfl, hown0, k0, hb0⟩
  case round =>
    clear hown0 k0 hb0 hmm
    obtain ⟨k, hk, rfl, hown, hbx, hbel⟩ := hrel
    by_cases hltk : k < n
    · skip
      obtain ⟨b, o, rfl, hb, c0, c1, c2, c3⟩ := (ha.below hbel).row4 hltk
      have hq : num za (k * 4) = idA za n zb (k) := by unfold idA; rw [if_pos hltk]
      have hwf := hI (k) (by omega)
      rw [hq] at c0
      have HB := Lib.hid hbel
      have hown1 := hown.alloc (.cells #[.int .i64 (idA za n zb (k)), .int .i64 (num za (k * 4 + 1)), .int .i64 (num za (k * 4 + 2)), .int .i64 (num za (k * 4 + 3))] 28)
      have hbel1 := hbel.alloc hbel.size (.cells #[.int .i64 (idA za n zb (k)), .int .i64 (num za (k * 4 + 1)), .int .i64 (num za (k * 4 + 2)), .int .i64 (num za (k * 4 + 3))] 28)
      have hbx1 := (Below.heap_alloc wr (.cells #[.int .i64 (idA za n zb (k)), .int .i64 (num za (k * 4 + 1)), .int .i64 (num za (k * 4 + 2)), .int .i64 (num za (k * 4 + 3))] 28) w.heap.size (heap_lt hbx)).trans hbx
      have hkey := Maps.keyOf_int_mk (P := Try.prog) (k := 2) (q := .i64) Try.underlying2 (a := idA za n zb (k)) (by simp only [Lit.wf, Bool.and_eq_true, decide_eq_true_eq]; exact hwf)
      have hsz1 : w.heap.size + 1 < wr.heap.size := hown.lt
      clear hbel hown hbx hb
      go_wp2_with (at_mapUpdate; refine wpList_mapUpdate_own _ rfl _ _ _ 129 rfl 2 4 (int_keyed Try.underlying2) Try.underlying129 _ (w.heap.size + 1) (k) _ rfl hown1 (by unfold maxLen; omega) _ _ _ rfl rfl hkey _ [] (plainElem_bool Try.underlying4 true) ?_; intro w2 hown2 hgrow2)
      have hbel2 := hbel1.grown hgrow2 (by simp; omega) (fun q hq => by injection hq with hq; omega)
      have hbx2 := (hgrow2.block w.heap.size (by simp; omega) (fun e => by injection e with e; omega)).trans hbx1
      clear hgrow2 hbel1 hbx1 hown1
      go_wp2_with fail
      go_roundw
      case rel => exact ⟨k + 1, by omega, by go_num, hown2, hbx2, hbel2⟩
      case measure => simp [intOf]; omega
    · obtain rfl : k = n := by omega
      have x0 := cell_of_row wr w.heap.size 0 _ _ (0, 0) hbx
      have x1 := cell_of_row wr w.heap.size 1 _ _ (0, 0) hbx
      simp at x0 x1
      go_wp2_with fail
      go_loopw [23] (fun i wr => ∃ j : Nat, j ≤ m ∧ i = .int .i64 (j : Int) ∧ wr.ownsMap Try.prog 2 (plainElem (H := Unit) Try.prog 4) (w.heap.size + 1) (k + j) (seenD (idA za k zb) (k + j)) ∧ wr.heap[w.heap.size]? = some (.cells #[.slice A k c, .slice B m d] 26 (0, 0)) ∧ Below w.heap.size w wr) (fun i _ => m - (intOf i).toNat)
      case atStart => exact ⟨0, Nat.zero_le _, rfl, hown, hbx, hbel⟩
      case round =>
        clear hown hbx hbel
        obtain ⟨j, hj, rfl, hown, hbx, hbel⟩ := hrel
        by_cases hltj : j < m
        · skip
          obtain ⟨b, o, rfl, hb, c0, c1, c2, c3⟩ := (hb.below hbel).row4 hltj
          have hq : num zb (j * 4) = idA za k zb (k + j) := by unfold idA; rw [if_neg (by omega), Nat.add_sub_cancel_left]
          have hwf := hI (k + j) (by omega)
          rw [hq] at c0
          have HB := Lib.hid hbel
          have hown1 := hown.alloc (.cells #[.int .i64 (idA za k zb (k + j)), .int .i64 (num zb (j * 4 + 1)), .int .i64 (num zb (j * 4 + 2)), .int .i64 (num zb (j * 4 + 3))] 28)
          have hbel1 := hbel.alloc hbel.size (.cells #[.int .i64 (idA za k zb (k + j)), .int .i64 (num zb (j * 4 + 1)), .int .i64 (num zb (j * 4 + 2)), .int .i64 (num zb (j * 4 + 3))] 28)
          have hbx1 := (Below.heap_alloc wr (.cells #[.int .i64 (idA za k zb (k + j)), .int .i64 (num zb (j * 4 + 1)), .int .i64 (num zb (j * 4 + 2)), .int .i64 (num zb (j * 4 + 3))] 28) w.heap.size (heap_lt hbx)).trans hbx
          have hkey := Maps.keyOf_int_mk (P := Try.prog) (k := 2) (q := .i64) Try.underlying2 (a := idA za k zb (k + j)) (by simp only [Lit.wf, Bool.and_eq_true, decide_eq_true_eq]; exact hwf)
          have hsz1 : w.heap.size + 1 < wr.heap.size := hown.lt
          clear hbel hown hbx hb
          go_wp2_with (at_mapUpdate; refine wpList_mapUpdate_own _ rfl _ _ _ 129 rfl 2 4 (int_keyed Try.underlying2) Try.underlying129 _ (w.heap.size + 1) (k + j) _ rfl hown1 (by unfold maxLen; omega) _ _ _ rfl rfl hkey _ [] (plainElem_bool Try.underlying4 true) ?_; intro w2 hown2 hgrow2)
          have hbel2 := hbel1.grown hgrow2 (by simp; omega) (fun q hq => by injection hq with hq; omega)
          have hbx2 := (hgrow2.block w.heap.size (by simp; omega) (fun e => by injection e with e; omega)).trans hbx1
          clear hgrow2 hbel1 hbx1 hown1
          go_wp2_with fail
          go_roundw
          case rel => exact ⟨j + 1, by omega, by go_num, hown2, hbx2, hbel2⟩
          case measure => simp [intOf]; omega
        · obtain rfl : j = m := by omega
          have y0 := cell_of_row wr w.heap.size 0 _ _ (0, 0) hbx
          have y1 := cell_of_row wr w.heap.size 1 _ _ (0, 0) hbx
          simp at y0 y1
          rcases Bool.eq_false_or_eq_true (distB (idA za k zb) (k + j)) with hd | hd
          · have hC : (((cntB (idA za k zb) (k + j) : Nat) : Int) == (k : Int) + (j : Int)) = true := beq_iff_eq.2 (by have := HIF.out.2 hd; omega)
            have HD := Lib.hid hd
            clear hd
            go_wp2_with (at_len; refine wpList_len_own _ rfl _ 129 rfl 2 4 Try.underlying129 _ (w.heap.size + 1) (k + j) _ rfl hown ?_; rw [HSZ.out])
            go_ret
            exact ⟨by rw [HD.out]; rfl, hbel⟩
          · have hC : (((cntB (idA za k zb) (k + j) : Nat) : Int) == (k : Int) + (j : Int)) = false := beq_eq_false_iff_ne.2 (fun e => by
              have := HIF.out.1 (by omega)
              rw [hd] at this
              cases this)
            have HD := Lib.hid hd
            clear hd
            go_wp2_with (at_len; refine wpList_len_own _ rfl _ 129 rfl 2 4 Try.underlying129 _ (w.heap.size + 1) (k + j) _ rfl hown ?_; rw [HSZ.out])
            go_ret
            exact ⟨by rw [HD.out]; rfl, hbel⟩
theorem ids_in {za zb : List Int} {n m : Nat} (h1 : allO za n = true) (h2 : allO zb m = true) : ∀ k, k < n + m → I64 (idA za n zb k) := fun k hk => by
  unfold idA
  have key : ∀ zs q, ordB zs q = true → I64 (num zs (q * 4)) := fun zs q h => by
    unfold ordB inB at h
    simp only [Bool.and_eq_true, decide_eq_true_eq] at h
    exact ⟨by omega, by omega⟩
  split
  · exact key _ _ (allO_at n k h1 (by assumption))
  · exact key _ _ (allO_at m _ h2 (by omega))
set_option maxHeartbeats 1600000 in
set_option maxRecDepth 100000 in
theorem impl_BookOk (A : Option Addr) (n c : Nat) (B : Option Addr) (m d : Nat) (za zb : List Int) (w : World) (ha : Lst w w.heap.size 4 A n za) (hb : Lst w w.heap.size 4 B m zb) (hn : n ≤ 1048576) (hm : m ≤ 1048576) :
    Calls Try.prog 34 #[.agg #[.slice A n c, .slice B m d]] w fun e w' => e = .returned (.bool (bookB za n zb m)) ∧ Below w.heap.size w w' := by
  have hb0 : Below w.heap.size w (w.alloc (.cells #[.slice A n c, .slice B m d] 26)) := (Below.refl _ _).alloc (Nat.le_refl _) _
  have k0 : (w.alloc (.cells #[.slice A n c, .slice B m d] 26)).heap[w.heap.size]? = some (.cells #[.slice A n c, .slice B m d] 26 (0, 0)) := heap_alloc_new w _
  have hs0 : w.heap.size < (w.alloc (.cells #[.slice A n c, .slice B m d] 26)).heap.size := by simp
  have HC := Lib.hid (show bookB za n zb m = (sideB 1 za n && (sideB 2 zb m && (!crossB za n zb m && distB (idA za n zb) (n + m)))) from rfl)
  have HA := Lib.hid (show sideB 1 za n = true → n ≤ 20 ∧ allO za n = true from fun h => by unfold sideB at h; simp only [Bool.and_eq_true, decide_eq_true_eq] at h; exact ⟨h.1, h.2.1⟩)
  have HB := Lib.hid (show sideB 2 zb m = true → m ≤ 20 ∧ allO zb m = true from fun h => by unfold sideB at h; simp only [Bool.and_eq_true, decide_eq_true_eq] at h; exact ⟨h.1, h.2.1⟩)
  go_enter Try.func34, Try.ntmps34
  go_wp2_with fail
  generalize (w.alloc (.cells #[.slice A n c, .slice B m d] 26)) = w0 at *
  refine (impl_ordersOk A n c za 1 w0 ((ha.below hb0).more hb0.size) hn).mono ?_
  rcases Bool.eq_false_or_eq_true (sideB 1 za n) with h1 | h1
  · have H1 := Lib.hid h1
    rw [h1]
    rintro e w1 ⟨rfl, hb1⟩
    have k1 := (hb1.block w.heap.size hs0).trans k0
    have x0 := cell_of_row w1 w.heap.size 0 _ _ (0, 0) k1
    have x1 := cell_of_row w1 w.heap.size 1 _ _ (0, 0) k1
    simp at x0 x1
    have hs1 := hb1.size
    have hb1 := hb0.trans (hb1.mono hb0.size)
    clear k0 hb0 h1
    go_wp2_with fail
    refine (impl_ordersOk B m d zb 2 w1 ((hb.below hb1).more hb1.size) hm).mono ?_
    rcases Bool.eq_false_or_eq_true (sideB 2 zb m) with h2 | h2
    · have H2 := Lib.hid h2
      rw [h2]
      rintro e w2 ⟨rfl, hb2⟩
      have k2 := (hb2.block w.heap.size (by omega)).trans k1
      have y0 := cell_of_row w2 w.heap.size 0 _ _ (0, 0) k2
      have y1 := cell_of_row w2 w.heap.size 1 _ _ (0, 0) k2
      simp at y0 y1
      have hs2 := hb2.size
      have hb2 := hb1.trans (hb2.mono hb1.size)
      clear k1 hb1 h2 x0 x1
      go_wp2_with fail
      refine (impl_crossed A n c B m d za zb w2 ((ha.below hb2).more hb2.size) ((hb.below hb2).more hb2.size)).mono ?_
      rcases Bool.eq_false_or_eq_true (crossB za n zb m) with h3 | h3
      · have H3 := Lib.hid h3
        rw [h3]
        rintro e w3 ⟨rfl, hb3⟩
        have hb3 := hb2.trans (hb3.mono hb2.size)
        clear h3 k2
        go_wp2_with fail
        go_ret
        exact ⟨by rw [HC.out, H1.out, H2.out, H3.out]; rfl, hb3⟩
      · have H3 := Lib.hid h3
        rw [h3]
        rintro e w3 ⟨rfl, hb3⟩
        have k3 := (hb3.block w.heap.size (by omega)).trans k2
        have z0 := cell_of_row w3 w.heap.size 0 _ _ (0, 0) k3
        have z1 := cell_of_row w3 w.heap.size 1 _ _ (0, 0) k3
        simp at z0 z1
        have hb3 := hb2.trans (hb3.mono hb2.size)
        clear h3 k2 k3 y0 y1
        go_wp2_with fail
        refine (impl_idsDiffer A n c B m d za zb w3 ((ha.below hb3).more hb3.size) ((hb.below hb3).more hb3.size) (HA.out H1.out).1 (HB.out H2.out).1 (ids_in (HA.out H1.out).2 (HB.out H2.out).2)).mono ?_
        rintro e w4 ⟨rfl, hb4⟩
        have hb4 := hb3.trans (hb4.mono hb3.size)
        clear hb3 hb2
        go_wp2_with fail
        go_ret
        exact ⟨by rw [HC.out, H1.out, H2.out, H3.out]; rfl, hb4⟩
    · have H2 := Lib.hid h2
      rw [h2]
      rintro e w2 ⟨rfl, hb2⟩
      have hb2 := hb1.trans (hb2.mono hb1.size)
      clear h2 k1
      go_wp2_with fail
      go_ret
      exact ⟨by rw [HC.out, H1.out, H2.out]; rfl, hb2⟩
  · have H1 := Lib.hid h1
    rw [h1]
    rintro e w1 ⟨rfl, hb1⟩
    have hb1 := hb0.trans (hb1.mono hb0.size)
    clear h1 k0
    go_wp2_with fail
    go_ret
    exact ⟨by rw [HC.out, H1.out]; rfl, hb1⟩
end Go.Proofs.Ytempggikcpminaa
