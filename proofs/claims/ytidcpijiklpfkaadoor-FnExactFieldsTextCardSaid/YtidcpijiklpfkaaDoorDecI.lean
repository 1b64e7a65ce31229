/-
  The program's decimal numbers: strconv.FormatInt at base 10 (its table is laid).
-/
import Derived.Test.YtidcpijiklpfkaaDoorRows
import Derived.Test.YtidcpijiklpfkaaDoorOwn
import Derived.Test.YtidcpijiklpfkaaDoorNum
import Derived.Shelf.Strconv.Itoa4
import Derived.Shelf.Lay
import Derived.Ground.NamesProg
namespace Go.Proofs.YtidcpijiklpfkaaDoor
open Go.RowKit Wire Go.Shelf

shelf_lay LaysM.n173 Nm 173 at Tryd as Tryd.lays173
theorem dec_grow (w : World) (k : Nat) (os : Array Obj) : Below w.heap.size w (Sort.grow (w.drewN k) os) :=
  ⟨rfl, rfl, rfl, by simp [Sort.grow, World.drewN], fun j hj => by simp [Sort.grow, World.drewN, Array.getElem?_append_left, hj]⟩
theorem impl_decimal (n : Int) (w : World) (h0 : 0 ≤ n) (h1 : n ≤ 9223372036854775807) (htab : Lib.TabIs Tryd.prog w "internal/strconv.uint64pow10" .u64 Lib.pow10Tab) :
    Calls Tryd.prog 50 #[.int .i64 n] w fun e w' => e = .returned (.string ⟨(Lib.itoa n).toArray⟩) ∧ Below w.heap.size w w' := by
  go_enter Tryd.func50, Tryd.ntmps50
  go_wp2_with fail
  refine (Any.strconv_FormatInt_10 Tryd.lays173 n (by omega) h1 w htab).mono ?_
  rintro e w1 ⟨rfl, k, os, rfl⟩
  go_wp2_with fail
  go_ret
  exact ⟨rfl, dec_grow w k os⟩
end Go.Proofs.YtidcpijiklpfkaaDoor
