/-
  Finding an order in a book: the specification's.
-/
import Derived.Test.YtempggikcpminaaFind
namespace Go.Proofs.Ytempggikcpminaa
open Go.RowKit Wire

theorem spec_l2ListO (O1 : Option Addr) (n c : Nat) (O2 : Option Addr) (m d : Nat) (side : Int) (w : World) :
    Calls Try.prog 86 #[.agg #[.slice O1 n c, .slice O2 m d], .int .i64 side] w fun e w' => e = .returned (if side = 1 then .slice O1 n c else .slice O2 m d) ∧ Below w.heap.size w w' := by
  by_cases h : side = 1
  · subst h
    rw [if_pos rfl]
    go_enter Try.func86, Try.ntmps86
    go_wp2_with fail
    go_ret
    exact ⟨rfl, by go_grown⟩
  · rw [if_neg h]
    have t : (side == 1) = false := beq_eq_false_iff_ne.2 h
    go_enter Try.func86, Try.ntmps86
    go_wp2_with fail
    go_ret
    exact ⟨rfl, by go_grown⟩
theorem spec_l2List (a1 : Addr) (n c : Nat) (a2 : Addr) (m d : Nat) (side : Int) (w : World) :
    Calls Try.prog 86 #[.agg #[.slice (some a1) n c, .slice (some a2) m d], .int .i64 side] w fun e w' => e = .returned (if side = 1 then .slice (some a1) n c else .slice (some a2) m d) ∧ Below w.heap.size w w' := spec_l2ListO (some a1) n c (some a2) m d side w
set_option linter.unusedSimpArgs false in
set_option maxHeartbeats 3200000 in
set_option maxRecDepth 100000 in
theorem spec_FindO (A1 : Option Addr) (n c : Nat) (A2 : Option Addr) (m d : Nat) (za zb : List Int) (id : Int) (w : World) (ha : Lst w w.heap.size 4 A1 n za) (hb : Lst w w.heap.size 4 A2 m zb) (hn : n ≤ 1048576) (hm : m ≤ 1048576) (hA1 : A1 = none → n = 0 ∧ c = 0) (hA2 : A2 = none → m = 0 ∧ d = 0) :
    Calls Try.prog 80 #[.agg #[.slice A1 n c, .slice A2 m d], .int .i64 id] w fun e w' => (∃ s f ok, FindRel (bookB za n zb m) za n zb m id s f ok ∧ e = .returned (.tuple #[.int .i64 s, .agg #[.int .i64 (f 0), .int .i64 (f 1), .int .i64 (f 2), .int .i64 (f 3)], .bool ok])) ∧ Below w.heap.size w w' := by
  obtain ⟨k0, k1⟩ := two_blocks w (.cells #[.slice A1 n c, .slice A2 m d] 26) (.cells #[.int .i64 0, .int .i64 0, .int .i64 0, .int .i64 0] 28)
  have hb0 : Below w.heap.size w ((w.alloc (.cells #[.slice A1 n c, .slice A2 m d] 26)).alloc (.cells #[.int .i64 0, .int .i64 0, .int .i64 0, .int .i64 0] 28)) := ((Below.refl _ _).alloc (Nat.le_refl _) _).alloc (by simp) _
  have hs0 : w.heap.size + 1 < ((w.alloc (.cells #[.slice A1 n c, .slice A2 m d] 26)).alloc (.cells #[.int .i64 0, .int .i64 0, .int .i64 0, .int .i64 0] 28)).heap.size := by simp
  go_enter Try.func80, Try.ntmps80
  go_wp2_with fail
  generalize ((w.alloc (.cells #[.slice A1 n c, .slice A2 m d] 26)).alloc (.cells #[.int .i64 0, .int .i64 0, .int .i64 0, .int .i64 0] 28)) = w0 at *
  generalize hbk : bookB za n zb m = bk
  go_loopw [7] (fun i wr => ∃ s : Int, i = .int .i64 s ∧ (s = 1 ∨ (s = 2 ∧ ∀ j, j < n → idN za j ≠ id) ∨ (s = 3 ∧ (∀ j, j < n → idN za j ≠ id) ∧ ∀ j, j < m → idN zb j ≠ id)) ∧ Below w.heap.size w wr ∧ wr.heap[w.heap.size]? = some (.cells #[.slice A1 n c, .slice A2 m d] 26 (0, 0)) ∧ wr.heap[w.heap.size + 1]? = some (.cells #[.int .i64 0, .int .i64 0, .int .i64 0, .int .i64 0] 28 (0, 0)) ∧ w.heap.size + 1 < wr.heap.size) (fun i _ => 4 - (intOf i).toNat)
  case atStart => exact ⟨1, rfl, .inl rfl, hb0, k0, k1, hs0⟩
  case round =>
    clear k0 k1 hb0 hs0
    obtain ⟨s, rfl, hs, hbel, k0, k1, hsz⟩ := hrel
    have HS := Lib.hid hs
    have x0 := cell_of_row wr w.heap.size 0 _ _ (0, 0) k0
    have x1 := cell_of_row wr w.heap.size 1 _ _ (0, 0) k0
    simp at x0 x1
    go_wp2_with fail
    refine (spec_BookOkO A1 n c A2 m d za zb wr ((ha.below hbel).more hbel.size) ((hb.below hbel).more hbel.size) hn hm hA1 hA2).mono ?_
    rw [hbk]
    rintro e w2 ⟨rfl, hb2⟩
    have k0 := (hb2.block w.heap.size (by omega)).trans k0
    have k1 := (hb2.block (w.heap.size + 1) (by omega)).trans k1
    have hsz2 := hb2.size
    have hbel := hbel.trans (hb2.mono hbel.size)
    clear hb2
    clear x0 x1
    have x0 := cell_of_row w2 w.heap.size 0 _ _ (0, 0) k0
    have x1 := cell_of_row w2 w.heap.size 1 _ _ (0, 0) k0
    simp at x0 x1
    have r0 := cell_of_row w2 (w.heap.size + 1) 0 _ _ (0, 0) k1
    have r1 := cell_of_row w2 (w.heap.size + 1) 1 _ _ (0, 0) k1
    have r2 := cell_of_row w2 (w.heap.size + 1) 2 _ _ (0, 0) k1
    have r3 := cell_of_row w2 (w.heap.size + 1) 3 _ _ (0, 0) k1
    have z0 := frozen_of_row w2 (w.heap.size + 1) 0 _ _ k1
    have z1 := frozen_of_row w2 (w.heap.size + 1) 1 _ _ k1
    have z2 := frozen_of_row w2 (w.heap.size + 1) 2 _ _ k1
    have z3 := frozen_of_row w2 (w.heap.size + 1) 3 _ _ k1
    simp at r0 r1 r2 r3
    cases bk
    · go_wp2_with fail
      refine bodyPost_ret (v := .tuple #[.int .i64 0, .agg #[.int .i64 0, .int .i64 0, .int .i64 0, .int .i64 0], .bool false]) (by simp [results, Try.results80, go_sem, r0, r1, r2, r3]) rfl ⟨⟨0, fun _ => 0, false, .inr (.inr ⟨.inl hbk, rfl, rfl, fun _ _ => rfl⟩), rfl⟩, ?_⟩
      exact below_put4 hbel (show w.heap.size ≤ w.heap.size + 1 by omega) 0 1 2 3 _ _ _ _
    · rcases hs with rfl | ⟨rfl, hs⟩ | ⟨rfl, hs⟩
      · clear r0 r1 r2 r3 z0 z1 z2 z3
        go_wp2_with fail
        refine (spec_l2ListO A1 n c A2 m d 1 _).mono ?_
        rintro e w3 ⟨rfl, hb3⟩
        have k0 := (hb3.block w.heap.size (by omega)).trans k0
        have k1 := (hb3.block (w.heap.size + 1) (by omega)).trans k1
        have hsz3 := hb3.size
        have hbel := hbel.trans (hb3.mono hbel.size)
        clear hb3
        go_wp2_with fail
        refine (spec_l2At A1 n c za id w3 ((ha.below hbel).more hbel.size) (by omega)).mono ?_
        rintro e w4 ⟨⟨z, hz, rfl⟩, hb4⟩
        have k0 := (hb4.block w.heap.size (by omega)).trans k0
        have k1 := (hb4.block (w.heap.size + 1) (by omega)).trans k1
        have hsz4 := hb4.size
        have hbel := hbel.trans (hb4.mono hbel.size)
        clear hb4
        rcases hz with ⟨rfl, hnone⟩ | ⟨k, hlt, rfl, hit, hbefore⟩
        · have HX := Lib.hid hnone
          clear hnone
          go_wp2_with fail
          go_roundw
          case rel => exact ⟨2, rfl, .inr (.inl ⟨rfl, HX.out⟩), hbel, k0, k1, by omega⟩
          case measure => simp [intOf]
        · have HX := Lib.hid hit
          have HY := Lib.hid hbefore
          clear hbefore hit
          obtain ⟨b, o, e1, hbo, c0, c1, c2, c3⟩ := (ha.below hbel).row4 hlt
          subst e1
          have i1 : (0 : Int) ≤ (k : Int) := by omega
          have i2 : (k : Int) < (n : Int) := by omega
          have r0 := cell_of_row w4 (w.heap.size + 1) 0 _ _ (0, 0) k1
          have r1 := cell_of_row w4 (w.heap.size + 1) 1 _ _ (0, 0) k1
          have r2 := cell_of_row w4 (w.heap.size + 1) 2 _ _ (0, 0) k1
          have r3 := cell_of_row w4 (w.heap.size + 1) 3 _ _ (0, 0) k1
          have z0 := frozen_of_row w4 (w.heap.size + 1) 0 _ _ k1
          have z1 := frozen_of_row w4 (w.heap.size + 1) 1 _ _ k1
          have z2 := frozen_of_row w4 (w.heap.size + 1) 2 _ _ k1
          have z3 := frozen_of_row w4 (w.heap.size + 1) 3 _ _ k1
          simp at r0 r1 r2 r3
          go_upto_region 7 with fail
          go_region
          all_goals
            go_wp2_with fail
            refine bodyPost_ret (v := .tuple #[.int .i64 1, .agg #[.int .i64 (num za (k * 4)), .int .i64 (num za (k * 4 + 1)), .int .i64 (num za (k * 4 + 2)), .int .i64 (num za (k * 4 + 3))], .bool true]) (by simp [results, Try.results80, go_sem, r0, r1, r2, r3]) rfl ⟨⟨1, fun j => num za (k * 4 + j), true, .inl ⟨hbk, k, hlt, HY.out, HX.out, rfl, rfl, fun _ _ => rfl⟩, rfl⟩, ?_⟩
            first
              | exact (below_put4 hbel (show w.heap.size ≤ w.heap.size + 1 by omega) 0 1 2 3 _ _ _ _).drew
              | exact below_put4 hbel.drew (show w.heap.size ≤ w.heap.size + 1 by omega) 0 1 2 3 _ _ _ _
      · have HP := Lib.hid hs
        clear r0 r1 r2 r3 z0 z1 z2 z3 hs
        go_wp2_with fail
        refine (spec_l2ListO A1 n c A2 m d 2 _).mono ?_
        rintro e w3 ⟨rfl, hb3⟩
        have k0 := (hb3.block w.heap.size (by omega)).trans k0
        have k1 := (hb3.block (w.heap.size + 1) (by omega)).trans k1
        have hsz3 := hb3.size
        have hbel := hbel.trans (hb3.mono hbel.size)
        clear hb3
        go_wp2_with fail
        refine (spec_l2At A2 m d zb id w3 ((hb.below hbel).more hbel.size) (by omega)).mono ?_
        rintro e w4 ⟨⟨z, hz, rfl⟩, hb4⟩
        have k0 := (hb4.block w.heap.size (by omega)).trans k0
        have k1 := (hb4.block (w.heap.size + 1) (by omega)).trans k1
        have hsz4 := hb4.size
        have hbel := hbel.trans (hb4.mono hbel.size)
        clear hb4
        rcases hz with ⟨rfl, hnone⟩ | ⟨k, hlt, rfl, hit, hbefore⟩
        · have HX := Lib.hid hnone
          clear hnone
          go_wp2_with fail
          go_roundw
          case rel => exact ⟨3, rfl, .inr (.inr ⟨rfl, HP.out, HX.out⟩), hbel, k0, k1, by omega⟩
          case measure => simp [intOf]
        · have HX := Lib.hid hit
          have HY := Lib.hid hbefore
          clear hbefore hit
          obtain ⟨b, o, e1, hbo, c0, c1, c2, c3⟩ := (hb.below hbel).row4 hlt
          subst e1
          have i1 : (0 : Int) ≤ (k : Int) := by omega
          have i2 : (k : Int) < (m : Int) := by omega
          have r0 := cell_of_row w4 (w.heap.size + 1) 0 _ _ (0, 0) k1
          have r1 := cell_of_row w4 (w.heap.size + 1) 1 _ _ (0, 0) k1
          have r2 := cell_of_row w4 (w.heap.size + 1) 2 _ _ (0, 0) k1
          have r3 := cell_of_row w4 (w.heap.size + 1) 3 _ _ (0, 0) k1
          have z0 := frozen_of_row w4 (w.heap.size + 1) 0 _ _ k1
          have z1 := frozen_of_row w4 (w.heap.size + 1) 1 _ _ k1
          have z2 := frozen_of_row w4 (w.heap.size + 1) 2 _ _ k1
          have z3 := frozen_of_row w4 (w.heap.size + 1) 3 _ _ k1
          simp at r0 r1 r2 r3
          go_upto_region 7 with fail
          go_region
          all_goals
            go_wp2_with fail
            refine bodyPost_ret (v := .tuple #[.int .i64 2, .agg #[.int .i64 (num zb (k * 4)), .int .i64 (num zb (k * 4 + 1)), .int .i64 (num zb (k * 4 + 2)), .int .i64 (num zb (k * 4 + 3))], .bool true]) (by simp [results, Try.results80, go_sem, r0, r1, r2, r3]) rfl ⟨⟨2, fun j => num zb (k * 4 + j), true, .inr (.inl ⟨hbk, HP.out, k, hlt, HY.out, HX.out, rfl, rfl, fun _ _ => rfl⟩), rfl⟩, ?_⟩
            first
              | exact (below_put4 hbel (show w.heap.size ≤ w.heap.size + 1 by omega) 0 1 2 3 _ _ _ _).drew
              | exact below_put4 hbel.drew (show w.heap.size ≤ w.heap.size + 1 by omega) 0 1 2 3 _ _ _ _
      · have HP := Lib.hid hs
        clear hs
        go_wp2_with fail
        refine bodyPost_ret (v := .tuple #[.int .i64 0, .agg #[.int .i64 0, .int .i64 0, .int .i64 0, .int .i64 0], .bool false]) (by simp [results, Try.results80, go_sem, r0, r1, r2, r3]) rfl ⟨⟨0, fun _ => 0, false, .inr (.inr ⟨.inr HP.out, rfl, rfl, fun _ _ => rfl⟩), rfl⟩, ?_⟩
        exact below_put4 hbel (show w.heap.size ≤ w.heap.size + 1 by omega) 0 1 2 3 _ _ _ _
theorem spec_Find (a1 : Addr) (n c : Nat) (a2 : Addr) (m d : Nat) (za zb : List Int) (id : Int) (w : World) (ha : Lst w w.heap.size 4 (some a1) n za) (hb : Lst w w.heap.size 4 (some a2) m zb) (hn : n ≤ 1048576) (hm : m ≤ 1048576) :
    Calls Try.prog 80 #[.agg #[.slice (some a1) n c, .slice (some a2) m d], .int .i64 id] w fun e w' => (∃ s f ok, FindRel (bookB za n zb m) za n zb m id s f ok ∧ e = .returned (.tuple #[.int .i64 s, .agg #[.int .i64 (f 0), .int .i64 (f 1), .int .i64 (f 2), .int .i64 (f 3)], .bool ok])) ∧ Below w.heap.size w w' :=
  spec_FindO (some a1) n c (some a2) m d za zb id w ha hb hn hm (fun e => by cases e) (fun e => by cases e)
end Go.Proofs.Ytempggikcpminaa
