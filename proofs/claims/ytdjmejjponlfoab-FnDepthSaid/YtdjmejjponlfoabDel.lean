/-
  The program's search for an order among pointers: the closure of Taken, slices.IndexFunc at this type.
-/
import Derived.Test.YtdjmejjponlfoabOpened
namespace Go.Proofs.Ytdjmejjponlfoab
open Go.RowKit Wire

end Go.Proofs.Ytdjmejjponlfoab
