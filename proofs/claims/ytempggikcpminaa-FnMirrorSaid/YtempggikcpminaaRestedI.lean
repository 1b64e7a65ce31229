/-
  The program's Rested.
-/
import Derived.Test.YtempggikcpminaaInsert
import Derived.Test.YtempggikcpminaaGH
import Derived.Test.YtempggikcpminaaOpened
import Derived.Test.YtempggikcpminaaBookZ
namespace Go.Proofs.Ytempggikcpminaa
open Go.RowKit Wire

/-- the sides' rows with an order put into its side -/
def rest1 (side p : Int) (za : List Int) (n : Nat) (o : List Int) : List Int := if side = 1 then insZ za (restI side p za n) o else za
def rest2 (side p : Int) (zb : List Int) (m : Nat) (o : List Int) : List Int := if side = 1 then zb else insZ zb (restI side p zb m) o
def restN1 (side : Int) (n : Nat) : Nat := if side = 1 then n + 1 else n
def restN2 (side : Int) (m : Nat) : Nat := if side = 1 then m else m + 1
/-- an order may rest -/
def restOk (side oi oa op oq : Int) (za : List Int) (n : Nat) (zb : List Int) (m : Nat) : Bool :=
  bookB za n zb m && (sideOkB side && (ordI oi oa op oq && bookB (rest1 side op za n [oi, oa, op, oq]) (restN1 side n) (rest2 side op zb m [oi, oa, op, oq]) (restN2 side m)))
/-- as long as a test holds; else none -/
def onN (b : Bool) (n : Nat) : Nat := if b = true then n else 0
def onZ (b : Bool) (z : List Int) : List Int := if b = true then z else []
theorem onN_true (n : Nat) : onN true n = n := rfl
theorem onZ_true (z : List Int) : onZ true z = z := rfl
theorem onN_le {b : Bool} {n k : Nat} (h : n ≤ k) : onN b n ≤ k := by
  unfold onN
  split <;> omega
theorem book_small {za zb : List Int} {n m : Nat} (h : bookB za n zb m = true) : n ≤ 20 ∧ m ≤ 20 := by
  simp only [bookB, sideB, Bool.and_eq_true, decide_eq_true_eq] at h
  exact ⟨h.1.1, h.2.1.1⟩
theorem lead_le' (f : Nat → Bool) (n : Nat) : lead f n ≤ n := by
  induction n generalizing f with
  | zero => simp [lead]
  | succ n ih =>
    rw [lead]
    split
    · have := ih (fun j => f (j + 1)); omega
    · omega
theorem Opened.framed {w w' : World} {X S L : Nat} {T0 T1 T2 : TypeId} {F : Value} {side : Int} {zs : List Int} {n : Nat} {v : Value} {gs : Nat → Nat} (h : Opened w X S L T0 T1 T2 F side zs n v gs) (hf : ∀ q, q < w.heap.size → (q = S ∨ q = L ∨ v.ownBlock = some q) → w'.heap[q]? = w.heap[q]?) : Opened w' X S L T0 T1 T2 F side zs n v gs := by
  refine ⟨h.low, (hf S (heap_lt h.side) (.inl rfl)).trans h.side, (hf L (heap_lt h.list) (.inr (.inl rfl))).trans h.list, ⟨h.own.1, ?_⟩, h.far⟩
  rcases h.own.2 with h0 | ⟨g, cap, cur, hv, hX, hheap, hr⟩
  · exact .inl h0
  · exact .inr ⟨g, cap, cur, hv, hX, (hf g (heap_lt hheap) (.inr (.inr (by rw [hv]; rfl)))).trans hheap, hr⟩
theorem Copies.framed {w w' : World} {X S L : Nat} {T : TypeId} {zs : List Int} {n : Nat} {v : Value} {gs : Nat → Nat} (h : Copies w X S L T zs n v gs) (hf : ∀ k, k < n → ∀ g : Nat, g = gs k → w'.heap[gs k]? = w.heap[gs k]?) : Copies w' X S L T zs n v gs := fun k hk => by
  obtain ⟨h1, h2, h3, h4, h5⟩ := h k hk
  exact ⟨h1, h2, h3, h4, h5.of_block (hf k hk _ rfl)⟩
end Go.Proofs.Ytempggikcpminaa
