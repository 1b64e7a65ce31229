/-
  What reading a text as a command, or as a record, comes to, as a function.
-/
import Derived.Test.YtlaklbagcgbioaaLawRead
import Derived.Test.YtlaklbagcgbioaaFrames
namespace Go.Proofs.Ytlaklbagcgbioaa
open Go.RowKit Wire

/-- the numbers that reading a text as a command comes to -/
def rdCmd (t : ByteArray) : Nat → Int := if t.size = 15 ∧ cmdB (fld t 0 1 : Nat) (fld t 1 1 : Nat) (fld t 2 1 : Nat) (fld t 3 4 : Nat) (fld t 7 1 : Nat) (fld t 8 3 : Nat) (fld t 11 3 : Nat) (fld t 14 1 : Nat) = true then eight8 (fld t 0 1 : Nat) (fld t 1 1 : Nat) (fld t 2 1 : Nat) (fld t 3 4 : Nat) (fld t 7 1 : Nat) (fld t 8 3 : Nat) (fld t 11 3 : Nat) (fld t 14 1 : Nat) else eight8 0 0 0 0 0 0 0 0
theorem impl_rdCmd (t : ByteArray) (w : World) (hm : t.size ≤ maxLen) :
    Calls Try.prog 32 #[.string t] w fun e w' => e = .returned (.agg #[.int .i64 (rdCmd t 0), .int .i64 (rdCmd t 1), .int .i64 (rdCmd t 2), .int .i64 (rdCmd t 3), .int .i64 (rdCmd t 4), .int .i64 (rdCmd t 5), .int .i64 (rdCmd t 6), .int .i64 (rdCmd t 7)]) ∧ Below w.heap.size w w' := by
  by_cases h : t.size = 15 ∧ cmdB (fld t 0 1 : Nat) (fld t 1 1 : Nat) (fld t 2 1 : Nat) (fld t 3 4 : Nat) (fld t 7 1 : Nat) (fld t 8 3 : Nat) (fld t 11 3 : Nat) (fld t 14 1 : Nat) = true
  · unfold rdCmd
    rw [if_pos h]
    exact impl_ReadCmd_yes t w h.1 h.2
  · unfold rdCmd
    rw [if_neg h]
    exact impl_ReadCmd_no t w h hm
theorem spec_rdCmd (t : ByteArray) (w : World) (hm : t.size ≤ maxLen) :
    Calls Try.prog 90 #[.string t] w fun e w' => e = .returned (.agg #[.int .i64 (rdCmd t 0), .int .i64 (rdCmd t 1), .int .i64 (rdCmd t 2), .int .i64 (rdCmd t 3), .int .i64 (rdCmd t 4), .int .i64 (rdCmd t 5), .int .i64 (rdCmd t 6), .int .i64 (rdCmd t 7)]) ∧ Below w.heap.size w w' := by
  by_cases h : t.size = 15 ∧ cmdB (fld t 0 1 : Nat) (fld t 1 1 : Nat) (fld t 2 1 : Nat) (fld t 3 4 : Nat) (fld t 7 1 : Nat) (fld t 8 3 : Nat) (fld t 11 3 : Nat) (fld t 14 1 : Nat) = true
  · unfold rdCmd
    rw [if_pos h]
    exact spec_Cmd_yes t w h.1 h.2
  · unfold rdCmd
    rw [if_neg h]
    exact l1Cmd_no t w h hm
/-- is a text a record's? -/
def isRec (t : ByteArray) : Bool := decide (t.size = 21) && recB (fld t 0 4 : Nat) (fld t 4 1 : Nat) (fld t 5 1 : Nat) (fld t 6 1 : Nat) (fld t 7 4 : Nat) (fld t 11 4 : Nat) (fld t 15 3 : Nat) (fld t 18 3 : Nat)
/-- the numbers that reading a text as a record comes to -/
def rdRec (t : ByteArray) : Nat → Int := if isRec t = true then eight8 (fld t 0 4 : Nat) (fld t 4 1 : Nat) (fld t 5 1 : Nat) (fld t 6 1 : Nat) (fld t 7 4 : Nat) (fld t 11 4 : Nat) (fld t 15 3 : Nat) (fld t 18 3 : Nat) else eight8 0 0 0 0 0 0 0 0
theorem isRec_iff (t : ByteArray) : isRec t = true ↔ (t.size = 21 ∧ recB (fld t 0 4 : Nat) (fld t 4 1 : Nat) (fld t 5 1 : Nat) (fld t 6 1 : Nat) (fld t 7 4 : Nat) (fld t 11 4 : Nat) (fld t 15 3 : Nat) (fld t 18 3 : Nat) = true) := by
  unfold isRec
  rw [Bool.and_eq_true, decide_eq_true_eq]
theorem impl_rdRec (t : ByteArray) (w : World) (hm : t.size ≤ maxLen) :
    Calls Try.prog 45 #[.string t] w fun e w' => e = .returned (.tuple #[.agg #[.int .i64 (rdRec t 0), .int .i64 (rdRec t 1), .int .i64 (rdRec t 2), .int .i64 (rdRec t 3), .int .i64 (rdRec t 4), .int .i64 (rdRec t 5), .int .i64 (rdRec t 6), .int .i64 (rdRec t 7)], .bool (isRec t)]) ∧ Below w.heap.size w w' := by
  rcases Bool.eq_false_or_eq_true (isRec t) with h | h
  · unfold rdRec
    rw [if_pos h, h]
    exact impl_ReadRec_yes t w ((isRec_iff t).1 h).1 ((isRec_iff t).1 h).2
  · unfold rdRec
    rw [if_neg (by simp [h]), h]
    exact impl_ReadRec_no t w (fun k => by have := (isRec_iff t).2 k; rw [h] at this; cases this) hm
theorem spec_rdRec (t : ByteArray) (w : World) (hm : t.size ≤ maxLen) :
    Calls Try.prog 46 #[.string t] w fun e w' => e = .returned (.tuple #[.agg #[.int .i64 (rdRec t 0), .int .i64 (rdRec t 1), .int .i64 (rdRec t 2), .int .i64 (rdRec t 3), .int .i64 (rdRec t 4), .int .i64 (rdRec t 5), .int .i64 (rdRec t 6), .int .i64 (rdRec t 7)], .bool (isRec t)]) ∧ Below w.heap.size w w' := by
  rcases Bool.eq_false_or_eq_true (isRec t) with h | h
  · unfold rdRec
    rw [if_pos h, h]
    exact spec_Rec_yes t w ((isRec_iff t).1 h).1 ((isRec_iff t).1 h).2
  · unfold rdRec
    rw [if_neg (by simp [h]), h]
    exact spec_Rec_no t w (fun k => by have := (isRec_iff t).2 k; rw [h] at this; cases this) hm
end Go.Proofs.Ytlaklbagcgbioaa
