/-
  Drawn trades.
-/
import Derived.Test.YtnldfbcelakimaaDraw
import Derived.Test.YtnldfbcelakimaaOwn
namespace Go.Proofs.Ytnldfbcelakimaa
open Go.RowKit Wire

theorem nums_set (zs : List Int) (j : Nat) (x : Int) : nums (zs.set j x) = (nums zs).set j (.int .i64 x) := by simp [nums, List.map_set]
/-- drawn rows of a call's own -/
def DrawnRows (w : World) (g : Nat) (A : Option Addr) (len cap : Nat) (T : TypeId) (sz most : Nat) (e : Ending) (w' : World) : Prop :=
  ∃ (v : Value) (n : Nat) (zs : List Int) (p : Nat), n ≤ most ∧ e = .returned v ∧ w'.ownsRow w.heap.size T sz v n (nums zs) ∧ RdAt w' g A len cap p ∧ w.grownBy w' (some g)
theorem only_below {a w w1 : World} {row : Option Nat} (h : a.grownBy w row) (hb : Below w.heap.size w w1) : a.grownBy w1 row :=
  ⟨hb.os.trans h.os, hb.tape.trans h.tape, hb.output.trans h.output, Nat.le_trans h.size hb.size, fun k hk hne => (hb.block k (Nat.lt_of_lt_of_le hk h.size)).trans (h.block k hk hne)⟩
theorem RdAt.below {w w1 : World} {g : Nat} {A : Option Addr} {len cap p : Nat} (h : RdAt w g A len cap p) (hb : Below w.heap.size w w1) : RdAt w1 g A len cap p := ⟨h.1, (hb.block g h.lt).trans h.2⟩
end Go.Proofs.Ytnldfbcelakimaa
