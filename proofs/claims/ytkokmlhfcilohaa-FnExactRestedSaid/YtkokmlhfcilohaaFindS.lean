/-
  Finding an order in a book: the specification's.
-/
import Derived.Test.YtkokmlhfcilohaaFind
namespace Go.Proofs.Ytkokmlhfcilohaa
open Go.RowKit Wire

theorem spec_l2ListO (O1 : Option Addr) (n c : Nat) (O2 : Option Addr) (m d : Nat) (side : Int) (w : World) :
    Calls Try.prog 42 #[.agg #[.slice O1 n c, .slice O2 m d], .int .i64 side] w fun e w' => e = .returned (if side = 1 then .slice O1 n c else .slice O2 m d) ∧ Below w.heap.size w w' := by
  by_cases h : side = 1
  · subst h
    rw [if_pos rfl]
    go_enter Try.func42, Try.ntmps42
    go_wp2_with fail
    go_ret
    exact ⟨rfl, by go_grown⟩
  · rw [if_neg h]
    have t : (side == 1) = false := beq_eq_false_iff_ne.2 h
    go_enter Try.func42, Try.ntmps42
    go_wp2_with fail
    go_ret
    exact ⟨rfl, by go_grown⟩
theorem spec_l2List (a1 : Addr) (n c : Nat) (a2 : Addr) (m d : Nat) (side : Int) (w : World) :
    Calls Try.prog 42 #[.agg #[.slice (some a1) n c, .slice (some a2) m d], .int .i64 side] w fun e w' => e = .returned (if side = 1 then .slice (some a1) n c else .slice (some a2) m d) ∧ Below w.heap.size w w' := spec_l2ListO (some a1) n c (some a2) m d side w
end Go.Proofs.Ytkokmlhfcilohaa
