/-
  A book as an answer: two fresh rows, marked and found marked.
-/
import Derived.Test.YtnldfbcelakimaaHeldBook
import Derived.Test.YtnldfbcelakimaaBookClosed
namespace Go.Proofs.Ytnldfbcelakimaa
open Go.RowKit Wire

/-- two rows of orders, each of its own memory -/
structure TwoRows (w : World) (base : Nat) (r1 : Value) (n1 : Nat) (z1 : List Int) (r2 : Value) (n2 : Nat) (z2 : List Int) : Prop where
  one : w.ownsRow base 36 4 r1 n1 (nums z1)
  two : w.ownsRow base 36 4 r2 n2 (nums z2)
  apart : ∀ q, r1.ownBlock = some q → r2.ownBlock ≠ some q
theorem TwoRows.below {w w' : World} {base : Nat} {r1 r2 : Value} {n1 n2 : Nat} {z1 z2 : List Int} (h : TwoRows w base r1 n1 z1 r2 n2 z2) (hb : Below w.heap.size w w') : TwoRows w' base r1 n1 z1 r2 n2 z2 :=
  ⟨own_below h.one hb, own_below h.two hb, h.apart⟩
theorem TwoRows.mono {w : World} {base base' : Nat} {r1 r2 : Value} {n1 n2 : Nat} {z1 z2 : List Int} (h : TwoRows w base r1 n1 z1 r2 n2 z2) (hb : base' ≤ base) : TwoRows w base' r1 n1 z1 r2 n2 z2 :=
  ⟨own_mono h.one hb, own_mono h.two hb, h.apart⟩
theorem TwoRows.kept {w w' : World} {base g : Nat} {r1 r2 : Value} {n1 n2 : Nat} {z1 z2 : List Int} (h : TwoRows w base r1 n1 z1 r2 n2 z2) (hg : w.grownBy w' (some g)) (hlt : g < base) : TwoRows w' base r1 n1 z1 r2 n2 z2 :=
  ⟨h.one.kept hg (.inr (fun e => absurd (h.one.lt g e).1 (Nat.not_le_of_lt hlt))), h.two.kept hg (.inr (fun e => absurd (h.two.lt g e).1 (Nat.not_le_of_lt hlt))), h.apart⟩
theorem TwoRows.alloc {w : World} {base : Nat} {r1 r2 : Value} {n1 n2 : Nat} {z1 z2 : List Int} (h : TwoRows w base r1 n1 z1 r2 n2 z2) (o : Obj) : TwoRows (w.alloc o) base r1 n1 z1 r2 n2 z2 := ⟨h.one.alloc o, h.two.alloc o, h.apart⟩
theorem TwoRows.nil (w : World) (base : Nat) : TwoRows w base (.slice none 0 0) 0 [] (.slice none 0 0) 0 [] := ⟨World.ownsRow_nil _ _ _ _, World.ownsRow_nil _ _ _ _, fun q hq => by simp [Value.ownBlock] at hq⟩
theorem TwoRows.slices {w : World} {base : Nat} {r1 r2 : Value} {n1 n2 : Nat} {z1 z2 : List Int} (h : TwoRows w base r1 n1 z1 r2 n2 z2) : ∃ A1 c1 A2 c2, r1 = .slice A1 n1 c1 ∧ r2 = .slice A2 n2 c2 := by
  obtain ⟨A1, c1, h1, _, _⟩ := own_slice h.one
  obtain ⟨A2, c2, h2, _, _⟩ := own_slice h.two
  exact ⟨A1, c1, A2, c2, h1, h2⟩
theorem TwoRows.bookIn {w : World} {base : Nat} {A1 A2 : Option Addr} {c1 c2 n1 n2 : Nat} {z1 z2 : List Int} (h : TwoRows w base (.slice A1 n1 c1) n1 z1 (.slice A2 n2 c2) n2 z2) : BookIn w w.heap.size A1 n1 A2 n2 z1 z2 := ⟨Lst.of_own h.one, Lst.of_own h.two⟩
/-- both rows bear their marks -/
def MarkedTwo (w : World) (r1 : Value) (n1 : Nat) (r2 : Value) (n2 : Nat) : Prop := MarkedFrom 1 w r1 n1 ∧ MarkedFrom (n1 * 4 + 1) w r2 n2
theorem MarkedTwo.below {w w' : World} {r1 r2 : Value} {n1 n2 : Nat} (h : MarkedTwo w r1 n1 r2 n2) (hb : Below w.heap.size w w') : MarkedTwo w' r1 n1 r2 n2 := ⟨h.1.below hb, h.2.below hb⟩
set_option maxHeartbeats 1600000 in
set_option maxRecDepth 100000 in
theorem markBook_own (base : Nat) (A1 A2 : Option Addr) (c1 c2 n1 n2 : Nat) (z1 z2 : List Int) (w : World) (h : TwoRows w base (.slice A1 n1 c1) n1 z1 (.slice A2 n2 c2) n2 z2) (h1 : n1 ≤ 1048576) (h2 : n2 ≤ 1048576) :
    Calls Try.prog 39 #[.agg #[.slice A1 n1 c1, .slice A2 n2 c2], .int .i64 1] w fun e w' => e = .returned (.int .i64 ((n2 : Int) * 4 + ((n1 : Int) * 4 + 1))) ∧ MarkedTwo w' (.slice A1 n1 c1) n1 (.slice A2 n2 c2) n2 ∧ (∀ B D, Below B D w → B ≤ base → B ≤ w.heap.size → Below B D w') ∧ ∀ i, i < w.heap.size → some i ≠ (Value.slice A1 n1 c1).ownBlock → some i ≠ (Value.slice A2 n2 c2).ownBlock → w'.heap[i]? = w.heap[i]? := by
  have ha := h.alloc (.cells #[.slice A1 n1 c1, .slice A2 n2 c2] 26)
  have k0 : (w.alloc (.cells #[.slice A1 n1 c1, .slice A2 n2 c2] 26)).heap[w.heap.size]? = some (.cells #[.slice A1 n1 c1, .slice A2 n2 c2] 26 (0, 0)) := heap_alloc_new w _
  go_enter Try.func39, Try.ntmps39
  go_wp2_with fail
  refine (markOrderS_anyFrom base 1 _ n1 _ _ ha.one h1 (by omega)).mono ?_
  rintro e w1 ⟨rfl, hM1, hg1⟩
  have hne : some w.heap.size ≠ (Value.slice A1 n1 c1).ownBlock := fun e => by have := (h.one.lt _ e.symm).2; omega
  have k1 := (hg1.block w.heap.size (by simp) hne).trans k0
  have x0 := cell_of_row w1 w.heap.size 0 _ _ (0, 0) k1
  have x1 := cell_of_row w1 w.heap.size 1 _ _ (0, 0) k1
  simp at x0 x1
  have hr2 := own_apart ha.two hg1 (fun q hq e => h.apart q e hq)
  clear k0 k1
  go_wp2_with fail
  have hm2 := markOrderS_anyFrom base (n1 * 4 + 1) _ n2 _ w1 hr2 h2 (by omega)
  rw [show ((n1 * 4 + 1 : Nat) : Int) = (n1 : Int) * 4 + 1 from by omega] at hm2
  refine hm2.mono ?_
  rintro e w2 ⟨rfl, hM2, hg2⟩
  clear x0 x1 hm2
  have hM1' : MarkedFrom 1 w2 (.slice A1 n1 c1) n1 := hM1.apart hg2 (fun q hq e => h.apart q hq e)
  go_wp2_with fail
  go_ret
  have hs1 : w.heap.size ≤ w1.heap.size := by have := hg1.size; simp at this; omega
  refine ⟨rfl, ⟨hM1', hM2⟩, fun B D hb hB hBw => ?_, fun i hi ha hb => (hg2.block i (by omega) hb).trans ((hg1.block i (by simp; omega) ha).trans (Below.heap_alloc w _ i hi))⟩
  exact ((hb.alloc hBw _).grown hg1 (Nat.le_trans hBw (by simp)) (fun q hq => Nat.le_trans hB (h.one.lt q hq).1)).grown hg2 (Nat.le_trans hBw hs1) (fun q hq => Nat.le_trans hB (h.two.lt q hq).1)
set_option maxHeartbeats 1600000 in
set_option maxRecDepth 100000 in
theorem heldBook_own (A1 A2 : Option Addr) (c1 c2 n1 n2 : Nat) (w : World) (h : MarkedTwo w (.slice A1 n1 c1) n1 (.slice A2 n2 c2) n2) (h1 : n1 ≤ 1048576) (h2 : n2 ≤ 1048576) :
    Calls Try.prog 41 #[.agg #[.slice A1 n1 c1, .slice A2 n2 c2], .int .i64 1] w fun e w' => e = .returned (.int .i64 ((n2 : Int) * 4 + ((n1 : Int) * 4 + 1))) ∧ Below w.heap.size w w' := by
  have hb0 : Below w.heap.size w (w.alloc (.cells #[.slice A1 n1 c1, .slice A2 n2 c2] 26)) := (Below.refl _ _).alloc (Nat.le_refl _) _
  have ha := h.below hb0
  have k0 : (w.alloc (.cells #[.slice A1 n1 c1, .slice A2 n2 c2] 26)).heap[w.heap.size]? = some (.cells #[.slice A1 n1 c1, .slice A2 n2 c2] 26 (0, 0)) := heap_alloc_new w _
  go_enter Try.func41, Try.ntmps41
  go_wp2_with fail
  refine (heldOrderS_anyFrom 1 _ n1 _ ha.1 h1 (by omega)).mono ?_
  rintro e w1 ⟨rfl, rfl⟩
  have x0 := cell_of_row _ w.heap.size 0 _ _ (0, 0) k0
  have x1 := cell_of_row _ w.heap.size 1 _ _ (0, 0) k0
  simp at x0 x1
  have t0 : decide ((n1 : Int) * 4 + 1 < 0) = false := decide_eq_false (by omega)
  clear k0
  go_wp2_with fail
  have hm2 := heldOrderS_anyFrom (n1 * 4 + 1) _ n2 _ ha.2 h2 (by omega)
  rw [show ((n1 * 4 + 1 : Nat) : Int) = (n1 : Int) * 4 + 1 from by omega] at hm2
  refine hm2.mono ?_
  rintro e w2 ⟨rfl, rfl⟩
  have t1 : decide ((n2 : Int) * 4 + ((n1 : Int) * 4 + 1) < 0) = false := decide_eq_false (by omega)
  clear x0 x1 hm2
  go_wp2_with fail
  go_ret
  exact ⟨rfl, hb0⟩
end Go.Proofs.Ytnldfbcelakimaa
