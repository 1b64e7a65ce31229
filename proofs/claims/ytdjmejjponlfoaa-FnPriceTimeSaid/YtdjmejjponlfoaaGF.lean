/-
  Filled, MtF, MtC.
-/
import Derived.Test.YtdjmejjponlfoaaGI
import Derived.Test.YtdjmejjponlfoaaGM
namespace Go.Proofs.Ytdjmejjponlfoaa
open Go.RowKit Wire

/-- record k fills the order -/
def fillAt (zs : List Int) (id : Int) (k : Nat) : Bool := (num zs (k * 8 + 1) == 3) && ((num zs (k * 8 + 4) == id) || (num zs (k * 8 + 5) == id))
/-- what the first k records fill -/
def sumTo (zs : List Int) (id : Int) : Nat → Int
  | 0 => 0
  | k + 1 => sumTo zs id k + if fillAt zs id k = true then num zs (k * 8 + 7) else 0
end Go.Proofs.Ytdjmejjponlfoaa

namespace Go.Proofs.Ytdjmejjponlfoaa
open Go.RowKit Go.Shelf Wire

theorem fnum_lt {L M : List Int} {i : Nat} (h : i < L.length) : num (L ++ M) i = num L i := by
  unfold num
  rw [List.getD_eq_getElem?_getD, List.getD_eq_getElem?_getD, List.getElem?_append_left h]
theorem fnum_ge {L M : List Int} {j i : Nat} (h : L.length = j) : num (L ++ M) (j + i) = num M i := by
  subst h
  unfold num
  rw [List.getD_eq_getElem?_getD, List.getD_eq_getElem?_getD, List.getElem?_append_right (by omega)]
  congr 2
  omega
end Go.Proofs.Ytdjmejjponlfoaa

namespace Go.Proofs.Ytdjmejjponlfoaa
open Go.RowKit Wire

end Go.Proofs.Ytdjmejjponlfoaa
