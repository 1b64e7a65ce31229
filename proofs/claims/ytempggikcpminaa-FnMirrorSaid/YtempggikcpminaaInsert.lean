/-
  An order put into its side of the opened book.
-/
import Derived.Test.YtempggikcpminaaIns
import Derived.Test.YtempggikcpminaaCross
import Derived.Test.YtempggikcpminaaDrop
namespace Go.Proofs.Ytempggikcpminaa
open Go.RowKit Wire

/-- the rows with an order put in at place i -/
def insZ (zs : List Int) (i : Nat) (o : List Int) : List Int := zs.take (i * 4) ++ o ++ zs.drop (i * 4)
/-- an order's place: behind all that are not worse -/
def restI (side p : Int) (zs : List Int) (n : Nat) : Nat := lead (fun k => !betB side p (price zs k)) n
end Go.Proofs.Ytempggikcpminaa
