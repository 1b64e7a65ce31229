/-
  The program's search for an order among pointers: the closure of Taken, slices.IndexFunc at this type.
-/
import Derived.Test.YtempggikcpminaaOpened
namespace Go.Proofs.Ytempggikcpminaa
open Go.RowKit Wire

end Go.Proofs.Ytempggikcpminaa
