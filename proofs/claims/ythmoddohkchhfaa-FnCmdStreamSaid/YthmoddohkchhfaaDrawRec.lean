/-
  A drawn record, whatever it is.
-/
import Derived.Test.YthmoddohkchhfaaMid
import Derived.Deep.Cut
import Derived.Deep.CutBlock
import Derived.Deep.DeepCutAuto
namespace Go.Proofs.Ythmoddohkchhfaa
open Go.RowKit Wire

end Go.Proofs.Ythmoddohkchhfaa
