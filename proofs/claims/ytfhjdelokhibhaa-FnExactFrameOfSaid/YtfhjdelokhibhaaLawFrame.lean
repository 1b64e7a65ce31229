/-
  The exact law of FrameOf.
-/
import Derived.Test.YtfhjdelokhibhaaFrameI
namespace Go.Proofs.Ytfhjdelokhibhaa
open Go.RowKit Wire

set_option maxHeartbeats 400000 in
set_option maxRecDepth 100000 in
theorem law_FrameOf (s : ByteArray) (w : World) (hs : s.size ≤ maxLen) :
    Calls Try.prog 9 #[.string s] w fun x w' => x = .returned (.bool true) ∧ Below w.heap.size w w' := by
  have HS := Lib.hid (fun w => spec_FrameOf s w hs)
  have HI := Lib.hid (fun w => impl_FrameOf s w hs)
  unfold maxLen at hs
  by_cases hl : s.size ≤ 1048576
  · go_enter Try.func9, Try.ntmps9
    go_wp2_with fail
    refine (HS.out _).mono ?_
    rintro e w1 ⟨rfl, hb1⟩
    go_wp2_with fail
    refine (HI.out _).mono ?_
    rintro e w2 ⟨rfl, hb2⟩
    generalize frameB s = f
    go_wp2_with fail
    go_ret
    exact ⟨rfl, hb1.trans (hb2.mono hb1.size)⟩
  · go_enter Try.func9, Try.ntmps9
    go_wp2_with fail
    go_ret
    exact ⟨rfl, Below.refl _ _⟩
end Go.Proofs.Ytfhjdelokhibhaa
