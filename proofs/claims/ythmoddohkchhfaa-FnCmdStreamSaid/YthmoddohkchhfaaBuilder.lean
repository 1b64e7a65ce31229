/-
  The library's string builder at this program: a text is written on, and read.
-/
import Derived.Test.YthmoddohkchhfaaKit
import Derived.Shelf.Strings.Builder1
import Derived.Lib.OthersKept
namespace Go.Proofs.Ythmoddohkchhfaa
open Go.RowKit Go.Shelf

end Go.Proofs.Ythmoddohkchhfaa
