/-
  Facts of the whole program that every law's proof asks for, shown once.
-/
import Derived.Test.YtidcpijiklpfkaaDoorRows
import Derived.JoinedOf
import Derived.KernelRfl
namespace Go.Proofs.YtidcpijiklpfkaaDoor.Closed
open Go
set_option maxHeartbeats 16000000 in
theorem lifts0 : Tryd.prog.liftsFinal = false := by kernel_rfl
set_option maxHeartbeats 16000000 in
theorem mayEnter0 : Tryd.prog.mayEnter = true := by kernel_rfl
theorem laidOut0 : laidOutB Tryd.prog = true := by kernel_rfl
theorem mapsRowed0 : mapsRowed Tryd.prog = true := by kernel_rfl
theorem stopsHeard0 : Tryd.prog.stopsHeard = true := by kernel_rfl
end Go.Proofs.YtidcpijiklpfkaaDoor.Closed
