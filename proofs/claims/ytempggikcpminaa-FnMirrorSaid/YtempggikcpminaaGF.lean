/-
  Filled, MtF.
-/
import Derived.Test.YtempggikcpminaaGI
import Derived.Test.YtempggikcpminaaGM
namespace Go.Proofs.Ytempggikcpminaa
open Go.RowKit Wire

/-- record k fills the order -/
def fillAt (zs : List Int) (id : Int) (k : Nat) : Bool := (num zs (k * 8 + 1) == 3) && ((num zs (k * 8 + 4) == id) || (num zs (k * 8 + 5) == id))
/-- what the first k records fill -/
def sumTo (zs : List Int) (id : Int) : Nat → Int
  | 0 => 0
  | k + 1 => sumTo zs id k + if fillAt zs id k = true then num zs (k * 8 + 7) else 0
end Go.Proofs.Ytempggikcpminaa

namespace Go.Proofs.Ytempggikcpminaa
open Go.RowKit Go.Shelf Wire

end Go.Proofs.Ytempggikcpminaa
