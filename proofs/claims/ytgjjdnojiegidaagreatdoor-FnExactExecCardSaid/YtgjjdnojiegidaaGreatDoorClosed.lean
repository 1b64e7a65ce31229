/-
 Facts of the whole program that every law's proof asks for, shown once.
-/
import Derived.Test.YtgjjdnojiegidaaGreatDoorRows
import Derived.JoinedOf
import Derived.KernelRfl
namespace Go.Proofs.YtgjjdnojiegidaaGreatDoor.Closed
open Go
set_option maxHeartbeats 16000000
theorem lifts0 : Tryz.prog.liftsFinal = false := by kernel_rfl
theorem mayEnter0 : Tryz.prog.mayEnter = true := by kernel_rfl
theorem laidOut0 : laidOutB Tryz.prog = true := by kernel_rfl
theorem mapsRowed0 : mapsRowed Tryz.prog = true := by kernel_rfl
theorem stopsHeard0 : Tryz.prog.stopsHeard = true := by kernel_rfl
end Go.Proofs.YtgjjdnojiegidaaGreatDoor.Closed
