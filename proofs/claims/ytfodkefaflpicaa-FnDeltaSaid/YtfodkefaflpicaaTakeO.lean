/-
  The document's book without an order, where a side may be nil.
-/
import Derived.Test.YtfodkefaflpicaaTake
namespace Go.Proofs.Ytfodkefaflpicaa
open Go.RowKit Wire

end Go.Proofs.Ytfodkefaflpicaa
