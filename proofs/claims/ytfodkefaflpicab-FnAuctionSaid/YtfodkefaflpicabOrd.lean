/-
  Slices of orders, and books, as the laws hand them on, compare them, mark them.
-/
import Derived.Test.YtfodkefaflpicabKit
import Derived.Test.YtfodkefaflpicabOwn
import Derived.Test.YtfodkefaflpicabMark
import Derived.Handy
import Derived.Deep.RegionHeld3
namespace Go.Proofs.Ytfodkefaflpicab
open Go.RowKit Wire

theorem ord_later {w w1 w2 : World} (h1 : Below w.heap.size w w1) (h2 : Below w1.heap.size w1 w2) : Below w.heap.size w w2 := h1.trans (h2.mono h1.size)
theorem ord_info : (Try.prog.info? 33).map (fun i => (i.zero, i.size, i.bytes)) = some (some (.agg #[.int .i64 0, .int .i64 0, .int .i64 0, .int .i64 0]), 4, 32) := by kernel_rfl
theorem zero4 : ∀ j, j < (#[.int .i64 0, .int .i64 0, .int .i64 0, .int .i64 0] : Array Value).size → (#[.int .i64 0, .int .i64 0, .int .i64 0, .int .i64 0] : Array Value)[j]? = some (.int .i64 0) := by
  intro j hj
  simp at hj
  rcases (show j = 0 ∨ j = 1 ∨ j = 2 ∨ j = 3 from by omega) with rfl | rfl | rfl | rfl <;> rfl
/-- a book: two slices of orders -/
def BookV (A : Option Addr) (n c : Nat) (B : Option Addr) (m d : Nat) : Value := .agg #[.slice A n c, .slice B m d]
/-- the two sides' rows, in blocks below X -/
def BookIn (w : World) (X : Nat) (A : Option Addr) (n : Nat) (B : Option Addr) (m : Nat) (za zb : List Int) : Prop := Lst w X 4 A n za ∧ Lst w X 4 B m zb
theorem BookIn.later {w w' : World} {A B : Option Addr} {n m : Nat} {za zb : List Int} (h : BookIn w w.heap.size A n B m za zb) (hb : Below w.heap.size w w') : BookIn w' w'.heap.size A n B m za zb := ⟨h.1.later hb, h.2.later hb⟩
end Go.Proofs.Ytfodkefaflpicab
