/-
  What reading a text as a command, or as a record, comes to, as a function.
-/
import Derived.Test.YthmoddohkchhfaaLawRead
import Derived.Test.YthmoddohkchhfaaFrames
namespace Go.Proofs.Ythmoddohkchhfaa
open Go.RowKit Wire

/-- the numbers that reading a text as a command comes to -/
def rdCmd (t : ByteArray) : Nat → Int := if t.size = 15 ∧ cmdB (fld t 0 1 : Nat) (fld t 1 1 : Nat) (fld t 2 1 : Nat) (fld t 3 4 : Nat) (fld t 7 1 : Nat) (fld t 8 3 : Nat) (fld t 11 3 : Nat) (fld t 14 1 : Nat) = true then eight8 (fld t 0 1 : Nat) (fld t 1 1 : Nat) (fld t 2 1 : Nat) (fld t 3 4 : Nat) (fld t 7 1 : Nat) (fld t 8 3 : Nat) (fld t 11 3 : Nat) (fld t 14 1 : Nat) else eight8 0 0 0 0 0 0 0 0
theorem impl_rdCmd (t : ByteArray) (w : World) (hm : t.size ≤ maxLen) :
    Calls Try.prog 20 #[.string t] w fun e w' => e = .returned (.agg #[.int .i64 (rdCmd t 0), .int .i64 (rdCmd t 1), .int .i64 (rdCmd t 2), .int .i64 (rdCmd t 3), .int .i64 (rdCmd t 4), .int .i64 (rdCmd t 5), .int .i64 (rdCmd t 6), .int .i64 (rdCmd t 7)]) ∧ Below w.heap.size w w' := by
  by_cases h : t.size = 15 ∧ cmdB (fld t 0 1 : Nat) (fld t 1 1 : Nat) (fld t 2 1 : Nat) (fld t 3 4 : Nat) (fld t 7 1 : Nat) (fld t 8 3 : Nat) (fld t 11 3 : Nat) (fld t 14 1 : Nat) = true
  · unfold rdCmd
    rw [if_pos h]
    exact impl_ReadCmd_yes t w h.1 h.2
  · unfold rdCmd
    rw [if_neg h]
    exact impl_ReadCmd_no t w h hm
theorem spec_rdCmd (t : ByteArray) (w : World) (hm : t.size ≤ maxLen) :
    Calls Try.prog 66 #[.string t] w fun e w' => e = .returned (.agg #[.int .i64 (rdCmd t 0), .int .i64 (rdCmd t 1), .int .i64 (rdCmd t 2), .int .i64 (rdCmd t 3), .int .i64 (rdCmd t 4), .int .i64 (rdCmd t 5), .int .i64 (rdCmd t 6), .int .i64 (rdCmd t 7)]) ∧ Below w.heap.size w w' := by
  by_cases h : t.size = 15 ∧ cmdB (fld t 0 1 : Nat) (fld t 1 1 : Nat) (fld t 2 1 : Nat) (fld t 3 4 : Nat) (fld t 7 1 : Nat) (fld t 8 3 : Nat) (fld t 11 3 : Nat) (fld t 14 1 : Nat) = true
  · unfold rdCmd
    rw [if_pos h]
    exact spec_Cmd_yes t w h.1 h.2
  · unfold rdCmd
    rw [if_neg h]
    exact l1Cmd_no t w h hm
end Go.Proofs.Ythmoddohkchhfaa
