/-
  Reading one command or one record (one of the two), in the specification's program, and the laws on it.
-/
import Derived.Test.YthmoddohkchhfaaRead
import Derived.Deep.DeepCutAuto
namespace Go.Proofs.Ythmoddohkchhfaa
open Go.RowKit Wire

end Go.Proofs.Ythmoddohkchhfaa
