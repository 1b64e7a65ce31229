/-
  Drawn structs of eight numbers: what holds in the middle of a draw.
-/
import Derived.Test.YthmoddohkchhfaaDraw
import Derived.Test.YthmoddohkchhfaaList
namespace Go.Proofs.Ythmoddohkchhfaa
open Go.RowKit Wire

/-- n int64 lie in block G -/
def Ns (w : World) (G : Nat) (T : TypeId) (n : Nat) : Prop := ∃ f : Nat → Int, (∀ j, I64 (f j)) ∧ w.rowIs G T n (numAt f)
theorem i64_small {n : Int} (h0 : -1000000000000 ≤ n) (h1 : n ≤ 1000000000000) : I64 n := ⟨by omega, by omega⟩
theorem i64_wrap (x : Int) : I64 (IntKind.i64.wrap x) := by rw [IntKind.wrap_i64]; unfold I64; omega
section
variable {w w' : World} {G n : Nat} {T : TypeId}
theorem Ns.set (h : Ns w G T n) (i : Nat) {v : Int} (hv : I64 v) : Ns (w.setCell ⟨G, i, none⟩ (.int .i64 v)) G T n := by
  obtain ⟨f, hf, hr⟩ := h
  refine ⟨fun j => if j = i then v else f j, fun j => ?_, (hr.set i _).congr fun j _ => ?_⟩
  · show I64 (if j = i then v else f j)
    split
    · exact hv
    · exact hf j
  · show (if j = i then Value.int .i64 v else numAt f j) = Value.int .i64 (if j = i then v else f j)
    split <;> rfl
theorem Ns.far (h : Ns w G T n) {a : Addr} (ha : G ≠ a.block) (v : Value) : Ns (w.setCell a v) G T n := by
  obtain ⟨f, hf, hr⟩ := h
  exact ⟨f, hf, hr.setOther ha v⟩
theorem Ns.alloc (h : Ns w G T n) (o : Obj) : Ns (w.alloc o) G T n := by
  obtain ⟨f, hf, hr⟩ := h
  exact ⟨f, hf, hr.alloc o⟩
theorem Ns.drewN (h : Ns w G T n) (k : Nat) : Ns (w.drewN k) G T n := h
theorem Ns.lt (h : Ns w G T n) : G < w.heap.size := by
  obtain ⟨f, hf, hr⟩ := h
  exact hr.lt
theorem Ns.grown (h : Ns w G T n) {row : Option Nat} (hg : w.grownBy w' row) (hne : some G ≠ row) : Ns w' G T n := by
  have hl := h.lt
  obtain ⟨f, hf, hr⟩ := h
  exact ⟨f, hf, hr.of_block (hg.block G hl hne)⟩
theorem Ns.new (w : World) (T : TypeId) (f : Nat → Int) (hf : ∀ j, I64 (f j)) (c : Array Value) (hc : ∀ j, j < c.size → c[j]? = some (.int .i64 (f j))) : Ns (w.alloc (.cells c T)) w.heap.size T c.size :=
  ⟨f, hf, World.rowIs_alloc w c T _ hc⟩
end
theorem RdAt.setCell {w : World} {g : Nat} {A : Option Addr} {len cap p : Nat} (h : RdAt w g A len cap p) {a : Addr} (ha : g ≠ a.block) (v : Value) : RdAt (w.setCell a v) g A len cap p :=
  ⟨h.1, (Below.heap_setCell w a v g ha).trans h.2⟩
theorem RdAt.drewN {w : World} {g : Nat} {A : Option Addr} {len cap p : Nat} (h : RdAt w g A len cap p) (k : Nat) : RdAt (w.drewN k) g A len cap p := h
/-- eight numbers, cell by cell -/
def eight (a b c d e f g h : Int) : Nat → Int
  | 0 => a | 1 => b | 2 => c | 3 => d | 4 => e | 5 => f | 6 => g | _ => h
theorem eight_i64 {a b c d e f g h : Int} (h0 : I64 a) (h1 : I64 b) (h2 : I64 c) (h3 : I64 d) (h4 : I64 e) (h5 : I64 f) (h6 : I64 g) (h7 : I64 h) : ∀ j, I64 (eight a b c d e f g h j)
  | 0 => h0 | 1 => h1 | 2 => h2 | 3 => h3 | 4 => h4 | 5 => h5 | 6 => h6 | _ + 7 => h7
theorem eight_at (a b c d e f g h : Int) : ∀ j, j < (#[.int .i64 a, .int .i64 b, .int .i64 c, .int .i64 d, .int .i64 e, .int .i64 f, .int .i64 g, .int .i64 h] : Array Value).size →
    (#[.int .i64 a, .int .i64 b, .int .i64 c, .int .i64 d, .int .i64 e, .int .i64 f, .int .i64 g, .int .i64 h] : Array Value)[j]? = some (.int .i64 (eight a b c d e f g h j)) := by
  intro j hj
  simp at hj
  rcases (show j = 0 ∨ j = 1 ∨ j = 2 ∨ j = 3 ∨ j = 4 ∨ j = 5 ∨ j = 6 ∨ j = 7 from by omega) with rfl | rfl | rfl | rfl | rfl | rfl | rfl | rfl <;> rfl
/-- a drawn struct of eight int64 -/
def Drawn8 (w : World) (g : Nat) (A : Option Addr) (len cap : Nat) (e : Ending) (w' : World) : Prop :=
  ∃ (f : Nat → Int) (p : Nat), (∀ j, I64 (f j)) ∧ e = .returned (.agg #[.int .i64 (f 0), .int .i64 (f 1), .int .i64 (f 2), .int .i64 (f 3), .int .i64 (f 4), .int .i64 (f 5), .int .i64 (f 6), .int .i64 (f 7)]) ∧ RdAt w' g A len cap p ∧ w.grownBy w' (some g)
/-- in the middle of a draw: the struct, the result's place, the reader -/
def Mid (w : World) (g : Nat) (A : Option Addr) (len cap : Nat) (T : TypeId) (G1 G2 : Nat) (wx : World) : Prop :=
  ∃ q : Nat, RdAt wx g A len cap q ∧ Ns wx G1 T 8 ∧ Ns wx G2 T 8 ∧ w.grownBy wx (some g)
theorem Mid.set {w : World} {g : Nat} {A : Option Addr} {len cap : Nat} {T : TypeId} {G1 G2 : Nat} {wx : World} (h : Mid w g A len cap T G1 G2 wx) (h1 : G1 ≠ G2) (h2 : g ≠ G2) (h3 : w.heap.size ≤ G2) (i : Nat) {v : Int} (hv : I64 v) : Mid w g A len cap T G1 G2 (wx.setCell ⟨G2, i, none⟩ (.int .i64 v)) := by
  obtain ⟨q, a, b, c, d⟩ := h
  exact ⟨q, a.setCell h2 _, b.far h1 _, c.set i hv, only_setCell d (.inr h3) _⟩
theorem Mid.step {w : World} {g : Nat} {A : Option Addr} {len cap q : Nat} {T : TypeId} {G1 G2 : Nat} {wx wy : World} (h : Mid w g A len cap T G1 G2 wx) (h1 : G1 ≠ g) (h2 : G2 ≠ g) (hr : RdAt wy g A len cap q) (hg : wx.grownBy wy (some g)) : Mid w g A len cap T G1 G2 wy := by
  obtain ⟨_, _, b, c, d⟩ := h
  exact ⟨q, hr, b.grown hg (by simpa using h1), c.grown hg (by simpa using h2), only_trans d hg⟩
theorem Mid.drewN {w : World} {g : Nat} {A : Option Addr} {len cap : Nat} {T : TypeId} {G1 G2 : Nat} {wx : World} (h : Mid w g A len cap T G1 G2 wx) (k : Nat) : Mid w g A len cap T G1 G2 (wx.drewN k) := by
  obtain ⟨q, a, b, c, d⟩ := h
  exact ⟨q, a, b, c, only_drewN d k⟩
end Go.Proofs.Ythmoddohkchhfaa
