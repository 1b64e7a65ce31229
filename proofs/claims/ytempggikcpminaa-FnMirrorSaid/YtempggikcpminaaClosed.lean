/-
  Facts of the whole program that every law's proof asks for, shown once.
-/
import Derived.Test.YtempggikcpminaaRows
import Derived.JoinedOf
import Derived.KernelRfl
namespace Go.Proofs.Ytempggikcpminaa.Closed
open Go
set_option maxHeartbeats 16000000 in
theorem lifts0 : Try.prog.liftsFinal = false := by kernel_rfl
set_option maxHeartbeats 16000000 in
theorem mayEnter0 : Try.prog.mayEnter = true := by kernel_rfl
theorem laidOut0 : laidOutB Try.prog = true := by kernel_rfl
theorem mapsRowed0 : mapsRowed Try.prog = true := by kernel_rfl
theorem stopsHeard0 : Try.prog.stopsHeard = true := by kernel_rfl
end Go.Proofs.Ytempggikcpminaa.Closed
