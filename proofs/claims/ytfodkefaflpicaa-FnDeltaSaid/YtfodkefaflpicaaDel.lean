/-
  The program's search for an order among pointers: the closure of Taken, slices.IndexFunc at this type.
-/
import Derived.Test.YtfodkefaflpicaaOpened
namespace Go.Proofs.Ytfodkefaflpicaa
open Go.RowKit Wire

end Go.Proofs.Ytfodkefaflpicaa
