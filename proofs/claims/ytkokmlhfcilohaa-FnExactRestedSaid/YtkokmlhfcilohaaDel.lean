/-
  The program's search for an order among pointers: the closure of Taken, slices.IndexFunc at this type.
-/
import Derived.Test.YtkokmlhfcilohaaOpened
namespace Go.Proofs.Ytkokmlhfcilohaa
open Go.RowKit Wire

end Go.Proofs.Ytkokmlhfcilohaa
