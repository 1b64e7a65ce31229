/-
  The document's Taken.
-/
import Derived.Test.YtgpllcjnbkhbnaaTake
namespace Go.Proofs.Ytgpllcjnbkhbnaa
open Go.RowKit Wire

/-- a book without the order id, or the empty book where there is none -/
def Without (w : World) (base : Nat) (za zb : List Int) (n m : Nat) (id : Int) (ok : Bool) (v1 v2 : Value) : Prop :=
  w.ownsRow base 36 4 v1 (if ok = true then tkN za id n else 0) (nums (if ok = true then tkZ za id n else [])) ∧ w.ownsRow base 36 4 v2 (if ok = true then tkN zb id m else 0) (nums (if ok = true then tkZ zb id m else [])) ∧ ∀ q, v1.ownBlock = some q → v2.ownBlock ≠ some q
set_option linter.unusedSimpArgs false in
set_option maxHeartbeats 1600000 in
set_option maxRecDepth 100000 in
theorem spec_Taken (a1 : Addr) (n c : Nat) (a2 : Addr) (m d : Nat) (za zb : List Int) (id : Int) (w : World) (ha : Lst w w.heap.size 4 (some a1) n za) (hb : Lst w w.heap.size 4 (some a2) m zb) (hn : n ≤ 1048576) (hm : m ≤ 1048576) :
    Calls Try.prog 31 #[.agg #[.slice (some a1) n c, .slice (some a2) m d], .int .i64 id] w fun e w' => (∃ s f ok v1 v2, FindRel (bookB za n zb m) za n zb m id s f ok ∧ e = .returned (.tuple #[.agg #[v1, v2], .bool ok]) ∧ Without w' w.heap.size za zb n m id ok v1 v2) ∧ Below w.heap.size w w' := by
  obtain ⟨k0, k1⟩ := two_blocks w (.cells #[.slice (some a1) n c, .slice (some a2) m d] 26) (.cells #[.slice none 0 0, .slice none 0 0] 26)
  have hb0 : Below w.heap.size w ((w.alloc (.cells #[.slice (some a1) n c, .slice (some a2) m d] 26)).alloc (.cells #[.slice none 0 0, .slice none 0 0] 26)) := ((Below.refl _ _).alloc (Nat.le_refl _) _).alloc (by simp) _
  have hs0 : w.heap.size + 1 < ((w.alloc (.cells #[.slice (some a1) n c, .slice (some a2) m d] 26)).alloc (.cells #[.slice none 0 0, .slice none 0 0] 26)).heap.size := by simp
  go_enter Try.func31, Try.ntmps31
  go_wp2_with fail
  generalize ((w.alloc (.cells #[.slice (some a1) n c, .slice (some a2) m d] 26)).alloc (.cells #[.slice none 0 0, .slice none 0 0] 26)) = w0 at *
  refine (spec_Find a1 n c a2 m d za zb id w0 ((ha.below hb0).more hb0.size) ((hb.below hb0).more hb0.size) hn hm).mono ?_
  rintro e w1 ⟨⟨s, f, ok, hrel, rfl⟩, hb1⟩
  have HR := Lib.hid hrel
  clear hrel
  have k0 := (hb1.block w.heap.size (by omega)).trans k0
  have k1 := (hb1.block (w.heap.size + 1) hs0).trans k1
  have hs1 := Nat.lt_of_lt_of_le hs0 hb1.size
  have hg0 : w.heap.size < w1.heap.size := by omega
  have hb1 := hb0.trans (hb1.mono hb0.size)
  clear hb0 hs0
  have x0 := cell_of_row w1 w.heap.size 0 _ _ (0, 0) k0
  have x1 := cell_of_row w1 w.heap.size 1 _ _ (0, 0) k0
  have s0 := cell_of_row w1 (w.heap.size + 1) 0 _ _ (0, 0) k1
  have s1 := cell_of_row w1 (w.heap.size + 1) 1 _ _ (0, 0) k1
  have z0 := frozen_of_row w1 (w.heap.size + 1) 0 _ _ k1
  have z1 := frozen_of_row w1 (w.heap.size + 1) 1 _ _ k1
  simp at x0 x1 s0 s1
  generalize f 0 = f0 at *
  generalize f 1 = f1 at *
  generalize f 2 = f2 at *
  generalize f 3 = f3 at *
  cases ok
  · have hx := Below.heap_alloc ((w1.setCell ⟨w.heap.size + 1, 0, none⟩ (.slice none 0 0)).setCell ⟨w.heap.size + 1, 1, none⟩ (.slice none 0 0)) (.cells #[.int .i64 f0, .int .i64 f1, .int .i64 f2, .int .i64 f3] 36) (w.heap.size + 1) (by simpa [World.setCell] using hs1)
    have hx := hx.trans (heap_set1 (u := .slice none 0 0) (heap_set0 (u := .slice none 0 0) k1))
    have e0 := cell_of_row _ (w.heap.size + 1) 0 _ _ (0, 0) hx
    have e1 := cell_of_row _ (w.heap.size + 1) 1 _ _ (0, 0) hx
    clear hx
    have E0 := Lib.hid e0
    have E1 := Lib.hid e1
    clear e0 e1
    go_wp2_with fail
    have e0 := E0.out
    have e1 := E1.out
    simp at e0 e1
    refine bodyPost_ret (v := .tuple #[.agg #[.slice none 0 0, .slice none 0 0], .bool false]) (by simp [results, Try.results31, go_sem, e0, e1]) rfl ⟨⟨s, f, false, .slice none 0 0, .slice none 0 0, HR.out, rfl, World.ownsRow_nil _ _ _ _, World.ownsRow_nil _ _ _ _, fun q hq => by simp [Value.ownBlock] at hq⟩, ?_⟩
    exact ((hb1.setCell (p := ⟨w.heap.size + 1, 0, none⟩) (show w.heap.size ≤ w.heap.size + 1 by omega) _).setCell (p := ⟨w.heap.size + 1, 1, none⟩) (show w.heap.size ≤ w.heap.size + 1 by omega) _).alloc (by simp [World.setCell]; omega) _
  · have hb2 := hb1.alloc hb1.size (.cells #[.int .i64 f0, .int .i64 f1, .int .i64 f2, .int .i64 f3] 36)
    go_wp2_with fail
    refine (spec_l2Take a1 n c a2 m d za zb id _ ((ha.below hb2).more hb2.size) ((hb.below hb2).more hb2.size) hn hm).mono ?_
    rintro e w3 ⟨⟨v1, v2, rfl, ho1, ho2, hne⟩, hb3⟩
    have k3 := (hb3.block (w.heap.size + 1) (by simp; omega)).trans ((Below.heap_alloc w1 _ (w.heap.size + 1) hs1).trans k1)
    have hb4 := hb2.trans (hb3.mono hb2.size)
    have ho1 := own_mono (base' := w.heap.size + 2) ho1 (by simp; omega)
    have ho2 := own_mono (base' := w.heap.size + 2) ho2 (by simp; omega)
    obtain ⟨A1, d1, rfl, _, _⟩ := own_slice ho1
    obtain ⟨A2, d2, rfl, _, _⟩ := own_slice ho2
    clear s0 s1 z0 z1 x0 x1 hb2 hb3 k0 k1
    have s0 := cell_of_row w3 (w.heap.size + 1) 0 _ _ (0, 0) k3
    have s1 := cell_of_row w3 (w.heap.size + 1) 1 _ _ (0, 0) k3
    have z0 := frozen_of_row w3 (w.heap.size + 1) 0 _ _ k3
    have z1 := frozen_of_row w3 (w.heap.size + 1) 1 _ _ k3
    simp at s0 s1
    generalize hN1 : tkN za id n = N1 at *
    generalize hN2 : tkN zb id m = N2 at *
    have E0 := Lib.hid (cell_of_row _ (w.heap.size + 1) 0 _ _ (0, 0) (heap_set1 (u := .slice A2 N2 d2) (heap_set0 (u := .slice A1 N1 d1) k3)))
    have E1 := Lib.hid (cell_of_row _ (w.heap.size + 1) 1 _ _ (0, 0) (heap_set1 (u := .slice A2 N2 d2) (heap_set0 (u := .slice A1 N1 d1) k3)))
    have H1 := Lib.hid hN1
    have H2 := Lib.hid hN2
    clear hN1 hN2
    go_wp2_with fail
    have e0 := E0.out
    have e1 := E1.out
    simp at e0 e1
    have ap : ∀ {v : Value} {N : Nat} {xs : List Value}, w3.ownsRow (w.heap.size + 2) 36 4 v N xs → ((w3.setCell ⟨w.heap.size + 1, 0, none⟩ (.slice A1 N1 d1)).setCell ⟨w.heap.size + 1, 1, none⟩ (.slice A2 N2 d2)).ownsRow w.heap.size 36 4 v N xs := fun h => by
      have h1 := own_apart h (set_grown w3 (w.heap.size + 1) 0 (.slice A1 N1 d1)) (fun q hq e => by have := (h.lt q hq).1; injection e with e; omega)
      exact own_mono (own_apart h1 (set_grown _ (w.heap.size + 1) 1 (.slice A2 N2 d2)) (fun q hq e => by have := (h.lt q hq).1; injection e with e; omega)) (by omega)
    refine bodyPost_ret (v := .tuple #[.agg #[.slice A1 N1 d1, .slice A2 N2 d2], .bool true]) (by simp [results, Try.results31, go_sem, e0, e1]) rfl ⟨⟨s, f, true, _, _, HR.out, rfl, by rw [if_pos rfl, if_pos rfl, H1.out]; exact ap ho1, by rw [if_pos rfl, if_pos rfl, H2.out]; exact ap ho2, hne⟩, ?_⟩
    exact (hb4.setCell (p := ⟨w.heap.size + 1, 0, none⟩) (show w.heap.size ≤ w.heap.size + 1 by omega) _).setCell (p := ⟨w.heap.size + 1, 1, none⟩) (show w.heap.size ≤ w.heap.size + 1 by omega) _
end Go.Proofs.Ytgpllcjnbkhbnaa
