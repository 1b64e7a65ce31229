/-
  The sums of an order, in both programs.
-/
import Derived.Test.YteikflfchkmbnaaFilled
namespace Go.Proofs.Yteikflfchkmbnaa
open Go.RowKit Wire

/-- record k adds to a sum: of the book, of the kind, of the order -/
def ackB (z1 z2 z4 sym id : Int) : Bool := (z2 == sym) && ((z4 == id) && (z1 == 1))
def canB (z1 z2 z4 sym id : Int) : Bool := (z2 == sym) && ((z4 == id) && (z1 == 4))
def filB (z1 z2 z4 z5 sym id : Int) : Bool := (z2 == sym) && fillB z1 z4 z5 id
/-- what the first k records bear where a test holds -/
def sumIf (zs : List Int) (p : Nat → Bool) : Nat → Int
  | 0 => 0
  | k + 1 => sumIf zs p k + if p k = true then num zs (k * 8 + 7) else 0
def ackAt (zs : List Int) (sym id : Int) (k : Nat) : Bool := ackB (num zs (k * 8 + 1)) (num zs (k * 8 + 2)) (num zs (k * 8 + 4)) sym id
def canAt (zs : List Int) (sym id : Int) (k : Nat) : Bool := canB (num zs (k * 8 + 1)) (num zs (k * 8 + 2)) (num zs (k * 8 + 4)) sym id
def filAt (zs : List Int) (sym id : Int) (k : Nat) : Bool := filB (num zs (k * 8 + 1)) (num zs (k * 8 + 2)) (num zs (k * 8 + 4)) (num zs (k * 8 + 5)) sym id
theorem sumIf_le {zs : List Int} {p : Nat → Bool} : ∀ k, okTo zs k = true → 0 ≤ sumIf zs p k ∧ sumIf zs p k ≤ 1000000 * k
  | 0, _ => by simp [sumIf]
  | k + 1, h => by
    simp only [okTo, Bool.and_eq_true] at h
    have h1 := sumIf_le (p := p) k h.1
    have h2 := okAt_qty h.2
    simp only [sumIf]
    split <;> omega
/-- the three sums -/
def sumsV (zs : List Int) (n : Nat) (sym id : Int) : Value := if okTo zs n = true then .agg #[.int .i64 (sumIf zs (ackAt zs sym id) n), .int .i64 (sumIf zs (filAt zs sym id) n), .int .i64 (sumIf zs (canAt zs sym id) n)] else .agg #[.int .i64 0, .int .i64 0, .int .i64 0]
theorem sumsV_no {zs : List Int} {n k : Nat} {sym id : Int} (h : okAt zs k = false) (hk : k < n) : sumsV zs n sym id = .agg #[.int .i64 0, .int .i64 0, .int .i64 0] := by
  simp [sumsV, okTo_no h n hk]
/-- a sum, raised where a test holds -/
def plusIf (a : Int) (b : Bool) (z : Int) : Int := if b = true then a + z else a
theorem heap_put3 {w : World} {S j : Nat} {a b c u : Value} {T : TypeId} (h : w.heap[S]? = some (.cells #[a, b, c] T (0, 0))) : (w.setCell ⟨S, j, none⟩ u).heap[S]? = some (.cells (#[a, b, c].setIfInBounds j u) T (0, 0)) := by
  simp [World.setCell, Array.getElem?_modify, h]
theorem cell3 {w : World} {S : Nat} {a b c : Value} {T : TypeId} (h : w.heap[S]? = some (.cells #[a, b, c] T (0, 0))) : w.cell? ⟨S, 0, none⟩ = some a ∧ w.cell? ⟨S, 1, none⟩ = some b ∧ w.cell? ⟨S, 2, none⟩ = some c ∧ w.frozen? ⟨S, 0, none⟩ = false ∧ w.frozen? ⟨S, 1, none⟩ = false ∧ w.frozen? ⟨S, 2, none⟩ = false := by
  refine ⟨?_, ?_, ?_, ?_, ?_, ?_⟩ <;> simp [World.cell?, World.frozen?, h]
theorem put_grown (w : World) (g i : Nat) (u : Value) : w.grownBy (w.setCell ⟨g, i, none⟩ u) (some g) :=
  ⟨rfl, rfl, rfl, by simp [World.setCell], fun k _ hne => Below.heap_setCell w ⟨g, i, none⟩ u k (fun e => hne (by rw [e]))⟩
theorem add_grown {w : World} {S j : Nat} {u : Value} (o : Obj) : w.grownBy (((w.alloc o).setCell ⟨S, j, none⟩ u).drew) (some S) :=
  have h : w.grownBy (w.alloc o) (some S) := ⟨(World.grownBy_alloc w o none).os, (World.grownBy_alloc w o none).tape, (World.grownBy_alloc w o none).output, (World.grownBy_alloc w o none).size, fun k hk _ => (World.grownBy_alloc w o none).block k hk (by simp)⟩
  have k := h.trans (put_grown _ S j u)
  ⟨k.os, k.tape, k.output, k.size, k.block⟩
theorem below_grown {w w' : World} {S : Nat} (h : Below w.heap.size w w') : w.grownBy w' (some S) := ⟨h.os, h.tape, h.output, h.size, fun k hk _ => h.block k hk⟩
theorem sum_step (zs : List Int) (p : Nat → Bool) (k : Nat) : sumIf zs p (k + 1) = plusIf (sumIf zs p k) (p k) (num zs (k * 8 + 7)) := by
  rw [sumIf]
  unfold plusIf
  split <;> simp
end Go.Proofs.Yteikflfchkmbnaa
