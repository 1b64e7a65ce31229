/-
  The program's search for an order among pointers: the closure of Taken, slices.IndexFunc at this type.
-/
import Derived.Test.YtdjmejjponlfoaaOpened
namespace Go.Proofs.Ytdjmejjponlfoaa
open Go.RowKit Wire

end Go.Proofs.Ytdjmejjponlfoaa
