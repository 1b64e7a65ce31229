/-
  The program's search for an order among pointers: the closure of Taken, slices.IndexFunc at this type.
-/
import Derived.Test.YthmoddohkchhfaaOpened
namespace Go.Proofs.Ythmoddohkchhfaa
open Go.RowKit Wire

end Go.Proofs.Ythmoddohkchhfaa
