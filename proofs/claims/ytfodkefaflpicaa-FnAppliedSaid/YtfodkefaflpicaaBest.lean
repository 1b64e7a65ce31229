/-
  Best, the program's and the document's.
-/
import Derived.Test.YtfodkefaflpicaaSides
namespace Go.Proofs.Ytfodkefaflpicaa
open Go.RowKit Wire

def bestB (bk : Bool) (side : Int) (n m : Nat) : Bool := decide (sideN bk side n m ≠ 0)
def bestP (bk : Bool) (side : Int) (za zb : List Int) (n m : Nat) : Int := if sideN bk side n m = 0 then 0 else num (sideZ bk side za zb) 2
theorem sideN_le {bk : Bool} {side : Int} {n m M : Nat} (hn : n ≤ M) (hm : m ≤ M) : sideN bk side n m ≤ M := by
  unfold sideN
  split
  · exact hn
  · split
    · exact hm
    · omega
end Go.Proofs.Ytfodkefaflpicaa
