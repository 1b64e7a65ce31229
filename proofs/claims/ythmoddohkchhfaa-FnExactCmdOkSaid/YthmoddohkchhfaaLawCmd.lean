/-
  The law on right commands, walked through its two functions.
-/
import Derived.Test.YthmoddohkchhfaaBytes
namespace Go.Proofs.Ythmoddohkchhfaa
open Go.RowKit Wire

set_option maxRecDepth 100000 in
set_option maxHeartbeats 400000 in
theorem law_CmdOk (a b c d e f g h : Int) (w : World) :
    Calls Try.prog 3 #[.agg #[.int .i64 a, .int .i64 b, .int .i64 c, .int .i64 d, .int .i64 e, .int .i64 f, .int .i64 g, .int .i64 h]] w
      fun x w' => x = .returned (.bool true) ∧ Below w.heap.size w w' := by
  go_enter Try.func3, Try.ntmps3
  go_wp2_with fail
  refine (toCmd_any _ _ _ _ _ _ _ _ _).mono ?_
  rintro x w1 ⟨rfl, hb1⟩
  go_wp2_with fail
  refine (spec_CmdOk _ _ _ _ _ _ _ _ _).mono ?_
  rintro x w2 ⟨rfl, hb2⟩
  have hb := hb1.trans (hb2.mono hb1.size)
  clear hb1 hb2
  have c0 := box_cell hb 0
  have c1 := box_cell hb 1
  have c2 := box_cell hb 2
  have c3 := box_cell hb 3
  have c4 := box_cell hb 4
  have c5 := box_cell hb 5
  have c6 := box_cell hb 6
  have c7 := box_cell hb 7
  simp at c0 c1 c2 c3 c4 c5 c6 c7
  go_wp2_with fail
  refine (toCmd_any _ _ _ _ _ _ _ _ _).mono ?_
  rintro x w3 ⟨rfl, hb3⟩
  go_wp2_with fail
  refine (impl_CmdOk _ _ _ _ _ _ _ _ _).mono ?_
  rintro x w4 ⟨rfl, hb4⟩
  go_wp2_with fail
  go_ret
  exact ⟨by first | rfl | simp, (below_alloc hb).trans ((hb3.trans (hb4.mono hb3.size)).mono (below_alloc hb).size)⟩
end Go.Proofs.Ythmoddohkchhfaa
