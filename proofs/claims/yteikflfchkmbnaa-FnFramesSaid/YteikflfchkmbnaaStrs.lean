/-
  Slices of texts that a call owns; the marks that a law writes into them, and looks for later.
-/
import Derived.Test.YteikflfchkmbnaaOwn
import Derived.Test.YteikflfchkmbnaaMark
import Derived.Test.YteikflfchkmbnaaNum
import Derived.Deep.Cut
import Derived.Deep.RegionHeld3
namespace Go.Proofs.Yteikflfchkmbnaa
open Go.RowKit Wire

/-- these texts lie in the cells of a slice, in a block below B -/
def SRow (w : World) (B : Nat) (A : Option Addr) (n : Nat) (l : List ByteArray) : Prop :=
  0 < n → ∃ b, b < B ∧ A = some ⟨b, 0, none⟩ ∧ ∀ j, j < n → w.cell? ⟨b, j, none⟩ = some (.string (l.getD j ⟨#[]⟩))
theorem SRow.below {w w' : World} {B B' : Nat} {A : Option Addr} {n : Nat} {l : List ByteArray} (h : SRow w B A n l) (hB : B ≤ B') (hb : Below B' w w') : SRow w' B A n l := fun hn => by
  obtain ⟨b, h1, h2, h3⟩ := h hn
  exact ⟨b, h1, h2, fun j hj => (hb.cell (p := ⟨b, j, none⟩) (Nat.lt_of_lt_of_le h1 hB)).trans (h3 j hj)⟩
theorem SRow.more {w : World} {B B' : Nat} {A : Option Addr} {n : Nat} {l : List ByteArray} (h : SRow w B A n l) (hB : B ≤ B') : SRow w B' A n l := fun hn => by
  obtain ⟨b, h1, h2, h3⟩ := h hn
  exact ⟨b, Nat.lt_of_lt_of_le h1 hB, h2, h3⟩
theorem SRow.grown {w w' : World} {B : Nat} {r : Option Nat} {A : Option Addr} {n : Nat} {l : List ByteArray} (h : SRow w B A n l) (hg : w.grownBy w' r) (hB : B ≤ w.heap.size) (hr : ∀ q, r = some q → B ≤ q) : SRow w' B A n l := fun hn => by
  obtain ⟨b, h1, h2, h3⟩ := h hn
  have hb := hg.block b (by omega) (fun e => by have := hr b e.symm; omega)
  exact ⟨b, h1, h2, fun j hj => (World.cell?_of_block (w := w) (a := ⟨b, j, none⟩) hb).trans (h3 j hj)⟩
def stl (l : List ByteArray) : List Value := l.map Value.string
theorem SRow.of_own {w : World} {base n c : Nat} {e : TypeId} {A : Option Addr} {l : List ByteArray} (h : w.ownsRow base e 1 (.slice A n c) n (stl l)) : SRow w w.heap.size A n l := fun hn => by
  obtain ⟨g, cap, hv, hb, hlt⟩ := h.form hn
  injection hv with hA _ _
  subst hA
  refine ⟨g, hlt, rfl, fun j hj => ?_⟩
  have hl : l.length = n := by simpa [stl] using h.1
  rw [h.cellAt j (by omega)]
  have hj2 : j < l.length := by omega
  simp [stl, List.getD_eq_getElem?_getD, List.getElem?_eq_getElem hj2]
theorem grown_below {w w1 w2 : World} {r : Option Nat} (h : w.grownBy w1 r) (hb : Below w1.heap.size w1 w2) : w.grownBy w2 r :=
  ⟨hb.os.trans h.os, hb.tape.trans h.tape, hb.output.trans h.output, Nat.le_trans h.size hb.size, fun k hk hne => (hb.block k (Nat.lt_of_lt_of_le hk h.size)).trans (h.block k hk hne)⟩
/-- the digits of a number, ahead of others -/
def mlp : Nat → Nat → List UInt8 → List UInt8
  | 0, _, l => l
  | f + 1, k, l => if k = 0 then l else mlp f (k / 10) (UInt8.ofNat (48 + k % 10) :: l)
/-- the text of a mark -/
def mtx (k : Nat) : ByteArray := ⟨(109 :: mlp k k []).toArray⟩
theorem mlp_more : ∀ (f k : Nat) (l : List UInt8), k ≤ f → mlp (f + 1) k l = mlp f k l
  | 0, k, l, h => by
    obtain rfl : k = 0 := by omega
    rfl
  | f + 1, k, l, h => by
    show (if k = 0 then l else mlp (f + 1) (k / 10) (UInt8.ofNat (48 + k % 10) :: l)) = (if k = 0 then l else mlp f (k / 10) (UInt8.ofNat (48 + k % 10) :: l))
    by_cases hk : k = 0
    · rw [if_pos hk, if_pos hk]
    · rw [if_neg hk, if_neg hk, mlp_more f (k / 10) _ (by omega)]
theorem mlp_step {k : Nat} (f : Nat) (l : List UInt8) (hk : k ≠ 0) (hf : k ≤ f) : mlp f k l = mlp f (k / 10) (UInt8.ofNat (48 + k % 10) :: l) := by
  obtain ⟨f, rfl⟩ : ∃ g, f = g + 1 := ⟨f - 1, by omega⟩
  rw [mlp_more f (k / 10) _ (by omega), mlp, if_neg hk]
theorem conv_one (w : World) (b : UInt8) :
    Sem.run Try.prog (convert 22 9 (.slice (some ⟨w.heap.size, 0, none⟩) 1 1)) (w.alloc (.cells #[.int .u8 b.toNat] 5)) = .ok (.string ⟨#[b]⟩) (w.alloc (.cells #[.int .u8 b.toNat] 5)) := by
  have h := run_convert_bytes_back (P := Try.prog) (w.alloc (.cells #[.int .u8 b.toNat] 5)) 22 9 5 ⟨w.heap.size, 0, none⟩ 1 [b] Try.underlying22 Try.underlying5 Try.underlying9 ?_
  · exact h
  · intro j hj
    obtain rfl : j = 0 := by simp at hj; omega
    simp [Addr.add, go_sem]
theorem ba_cons (b : UInt8) (l : List UInt8) : (⟨#[b]⟩ : ByteArray) ++ ⟨l.toArray⟩ = ⟨(b :: l).toArray⟩ := by
  apply ByteArray.ext
  simp
/-- the marks 1 to N in the first N cells -/
def markS (f : Nat → Value) (N j : Nat) : Value := if j < N then .string (mtx (j + 1)) else f j
theorem rowIs_markS {w : World} {g m k : Nat} {t : TypeId} {f : Nat → Value} (h : w.rowIs g t m (markS f k)) : (w.setCell ⟨g, k, none⟩ (.string (mtx (k + 1)))).rowIs g t m (markS f (k + 1)) := by
  refine (h.set _ _).congr fun j _ => ?_
  simp only [markS]
  rcases Nat.lt_trichotomy j k with hj | rfl | hj
  · rw [if_neg (by omega), if_pos hj, if_pos (by omega)]
  · rw [if_pos rfl, if_pos (by omega)]
  · rw [if_neg (by omega), if_neg (by omega), if_neg (by omega)]
end Go.Proofs.Yteikflfchkmbnaa
