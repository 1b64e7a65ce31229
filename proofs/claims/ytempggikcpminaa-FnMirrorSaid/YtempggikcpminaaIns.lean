/-
  slices.Insert at the pointers of a side: one pointer put in at a place.
-/
import Derived.Test.YtempggikcpminaaBookW
import Derived.Shelf.Spec.SlicesInsertGrow
import Derived.Lib.LazyBuf
namespace Go.Proofs.Ytempggikcpminaa
open Go.RowKit Go.Lib

end Go.Proofs.Ytempggikcpminaa
