/-
  Eight numbers in a block, carried on.
-/
import Derived.Test.YthmoddohkchhfaaDrawMore
namespace Go.Proofs.Ythmoddohkchhfaa
open Go.RowKit Wire

theorem Eight.below {w w' : World} {g : Nat} {a b c d e f h i : Int} (k : Eight w g a b c d e f h i) (hb : Below w.heap.size w w') : Eight w' g a b c d e f h i := by
  have hg : g < w.heap.size := World.block_lt_of_cell? _ _ k.1
  obtain ⟨k0, k1, k2, k3, k4, k5, k6, k7⟩ := k
  exact ⟨(hb.cell (p := ⟨g, 0, none⟩) hg).trans k0, (hb.cell (p := ⟨g, 1, none⟩) hg).trans k1, (hb.cell (p := ⟨g, 2, none⟩) hg).trans k2, (hb.cell (p := ⟨g, 3, none⟩) hg).trans k3, (hb.cell (p := ⟨g, 4, none⟩) hg).trans k4, (hb.cell (p := ⟨g, 5, none⟩) hg).trans k5, (hb.cell (p := ⟨g, 6, none⟩) hg).trans k6, (hb.cell (p := ⟨g, 7, none⟩) hg).trans k7⟩
theorem Eight.alloc {w : World} {g : Nat} {a b c d e f h i : Int} (k : Eight w g a b c d e f h i) (o : Obj) : Eight (w.alloc o) g a b c d e f h i := k.below ((Below.refl _ _).alloc (Nat.le_refl _) o)
theorem Eight.new (w : World) (T : TypeId) (a b c d e f h i : Int) : Eight (w.alloc (.cells #[.int .i64 a, .int .i64 b, .int .i64 c, .int .i64 d, .int .i64 e, .int .i64 f, .int .i64 h, .int .i64 i] T)) w.heap.size a b c d e f h i := by
  refine ⟨?_, ?_, ?_, ?_, ?_, ?_, ?_, ?_⟩ <;> exact (World.cell?_alloc_mark w _ _ _ _).trans (by simp)
theorem Eight.box {w w' : World} {T : TypeId} {a b c d e f h i : Int} (hb : Below (w.alloc (.cells #[.int .i64 a, .int .i64 b, .int .i64 c, .int .i64 d, .int .i64 e, .int .i64 f, .int .i64 h, .int .i64 i] T)).heap.size (w.alloc (.cells #[.int .i64 a, .int .i64 b, .int .i64 c, .int .i64 d, .int .i64 e, .int .i64 f, .int .i64 h, .int .i64 i] T)) w') : Eight w' w.heap.size a b c d e f h i := (Eight.new w T a b c d e f h i).below hb
end Go.Proofs.Ythmoddohkchhfaa
