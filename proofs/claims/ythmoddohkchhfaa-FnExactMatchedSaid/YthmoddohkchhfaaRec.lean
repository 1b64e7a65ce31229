/-
  Records: when one is right, its bytes, in both programs; the laws that hand over one command or one record.
-/
import Derived.Test.YthmoddohkchhfaaBytes
namespace Go.Proofs.Ythmoddohkchhfaa
open Go.RowKit Wire

def recB (a b c d e f g h : Int) : Bool := inB 0 a 1000000000 && (inB 1 b 5 && (inB 0 c 255 && (inB 0 d 255 && (inB 0 e 1000000000 && (inB 0 f 1000000000 && (inB 0 g 1000000 && (inB 0 h 1000000)))))))
def recL (a b c d e f g h : Nat) : List UInt8 := be 4 a ++ be 1 b ++ be 1 c ++ be 1 d ++ be 4 e ++ be 4 f ++ be 3 g ++ be 3 h
theorem recL_eq (a b c d e f g h : Nat) : (⟨(be 4 a).toArray⟩ : ByteArray) ++ ⟨(be 1 b).toArray⟩ ++ ⟨(be 1 c).toArray⟩ ++ ⟨(be 1 d).toArray⟩ ++ ⟨(be 4 e).toArray⟩ ++ ⟨(be 4 f).toArray⟩ ++ ⟨(be 3 g).toArray⟩ ++ ⟨(be 3 h).toArray⟩ = ⟨(recL a b c d e f g h).toArray⟩ := by
  simp only [ByteArray.mk_append_mk, recL]
theorem rec_fits {a b c d e f g h : Int} (k : recB a b c d e f g h = true) : (0 ≤ a ∧ a ≤ 1000000000) ∧ (0 ≤ b ∧ b ≤ 5) ∧ (0 ≤ c ∧ c ≤ 255) ∧ (0 ≤ d ∧ d ≤ 255) ∧ (0 ≤ e ∧ e ≤ 1000000000) ∧ (0 ≤ f ∧ f ≤ 1000000000) ∧ (0 ≤ g ∧ g ≤ 1000000) ∧ (0 ≤ h ∧ h ≤ 1000000) := by
  simp [recB, inB] at k
  omega
/-- what both RecBytes return -/
def recBytesB (a b c d e f g h : Int) : ByteArray := if recB a b c d e f g h = true then ⟨(recL a.toNat b.toNat c.toNat d.toNat e.toNat f.toNat g.toNat h.toNat).toArray⟩ else ⟨#[]⟩
set_option maxHeartbeats 800000 in
set_option maxRecDepth 100000 in
theorem impl_RecOk (a b c d e f g h : Int) (w : World) :
    Calls Try.prog 163 #[.agg #[.int .i64 a, .int .i64 b, .int .i64 c, .int .i64 d, .int .i64 e, .int .i64 f, .int .i64 g, .int .i64 h]] w fun x w' => x = .returned (.bool (recB a b c d e f g h)) ∧ Below w.heap.size w w' := by
  go_enter Try.func163, Try.ntmps163
  go_wp2_with (go_at_call 61; refine (within_any _ _ _ _).mono ?_; rintro e w' ⟨rfl, rfl⟩)
  all_goals
    go_ret
    refine ⟨ret_bool ?_, (Below.refl _ _).alloc (Nat.le_refl _) _⟩
    simp [recB, *]
set_option maxRecDepth 100000 in
set_option maxHeartbeats 400000 in
theorem law_CmdBytes (a b c d e f g h : Int) (w : World) :
    Calls Try.prog 4 #[.agg #[.int .i64 a, .int .i64 b, .int .i64 c, .int .i64 d, .int .i64 e, .int .i64 f, .int .i64 g, .int .i64 h]] w fun x w' => x = .returned (.bool true) ∧ Below w.heap.size w w' := by
  go_enter Try.func4, Try.ntmps4
  go_wp2_with fail
  refine (toCmd_any _ _ _ _ _ _ _ _ _).mono ?_
  rintro x w1 ⟨rfl, hb1⟩
  go_wp2_with fail
  refine (spec_CmdBytes _ _ _ _ _ _ _ _ _).mono ?_
  rintro x w2 ⟨rfl, hb2⟩
  have hb1 := hb1.trans (hb2.mono hb1.size)
  clear hb2
  have c0 := box_cell hb1 0
  have c1 := box_cell hb1 1
  have c2 := box_cell hb1 2
  have c3 := box_cell hb1 3
  have c4 := box_cell hb1 4
  have c5 := box_cell hb1 5
  have c6 := box_cell hb1 6
  have c7 := box_cell hb1 7
  simp at c0 c1 c2 c3 c4 c5 c6 c7
  go_wp2_with fail
  refine (toCmd_any _ _ _ _ _ _ _ _ _).mono ?_
  rintro x w3 ⟨rfl, hb3⟩
  go_wp2_with fail
  refine (impl_CmdBytes _ _ _ _ _ _ _ _ _).mono ?_
  rintro x w4 ⟨rfl, hb4⟩
  go_wp2_with fail
  go_ret
  exact ⟨by first | rfl | simp, below_later (below_alloc hb1) (below_later hb3 hb4)⟩
end Go.Proofs.Ythmoddohkchhfaa
