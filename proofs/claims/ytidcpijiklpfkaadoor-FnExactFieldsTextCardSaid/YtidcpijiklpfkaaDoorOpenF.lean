/-
  A slice of fields that came in, read as a list of tags and texts.
-/
import Derived.Test.YtidcpijiklpfkaaDoorOpen
import Derived.Test.YtidcpijiklpfkaaDoorFld
import Derived.ChangeArms
namespace Go.Proofs.YtidcpijiklpfkaaDoor
open Go.RowKit Wire
open Go.ChangeShapes Go.WideShapes Go.Deep

section
variable {H : Type} {enc : TypeId × Value → H} {P : Program} {w : World} {base : Nat} {spare : Nat → Bool} {held : Bool}
theorem flist_of {Q : Nat → Int × ByteArray → Prop} : ∀ L : Nat, (∀ q, q < L → ∃ z, Q q z) → ∃ fs : List (Int × ByteArray), fs.length = L ∧ ∀ q, q < L → Q q (fs.getD q (0, ⟨#[]⟩))
  | 0, _ => ⟨[], rfl, fun q hq => by omega⟩
  | L + 1, h => by
    obtain ⟨fs, hl, hq⟩ := flist_of L (fun q hq => h q (by omega))
    obtain ⟨z, hz⟩ := h L (by omega)
    refine ⟨fs ++ [z], by simp [hl], fun q hq' => ?_⟩
    rcases Nat.lt_or_ge q L with hlt | hge
    · have := hq q hlt
      rw [List.getD_eq_getElem?_getD, List.getElem?_append_left (by omega), ← List.getD_eq_getElem?_getD]
      exact this
    · obtain rfl : q = L := by omega
      rw [List.getD_eq_getElem?_getD, List.getElem?_append_right (by omega)]
      simp [hl]
      exact hz
theorem open_fields {t e : TypeId} {f0 f1 : Field} {fuel : Nat} {v : Value} {x : DataW H × List MemPlace} (ht : P.underlying t = some (.slice e)) (he : P.underlying e = some (.struct #[f0, f1]))
    (hone : oneCellFields P #[f0, f1] = true) (hC : P.cellsOf e = 2) (h0 : P.underlying f0.type = some (.int .i64)) (h1 : P.underlying f1.type = some .string) (h : DataW.trod enc P w base spare held fuel t [v] = some x) :
    ∃ (A : Option Addr) (n c : Nat) (fs : List (Int × ByteArray)), v = .slice A n c ∧ n ≤ maxLen ∧ Flds w w.heap.size A n fs ∧ ∀ k, k < n → (fV fs k).size ≤ maxLen := by
  rcases open_slice_fields ht he hone hC h with ⟨hcs, _⟩ | ⟨a, len, cap, m, D, Pl, hcs, hb, hl, hm, hmm, hx, hi⟩
  · injection hcs with hcs _
    subst hcs
    exact ⟨none, 0, 0, [], rfl, Nat.zero_le _, fun k hk => by omega, fun k hk => by omega⟩
  · injection hcs with hcs _
    subst hcs
    have hlm : len ≤ m := by rw [hmm]; split <;> omega
    have hcell : ∀ q, q < len → ∃ z : Int × ByteArray, w.cell? (a.add (q * 2)) = some (.int .i64 z.1) ∧ w.cell? (a.add (q * 2 + 1)) = some (.string z.2) ∧ z.2.size ≤ maxLen := by
      intro q hq
      obtain ⟨ys, n, _, _, hys, hyf⟩ := hi q (by omega)
      obtain ⟨v0, y0, hc0, _, hy0⟩ := hyf 0 f0 rfl
      obtain ⟨v1, y1, hc1, _, hy1⟩ := hyf 1 f1 rfl
      obtain ⟨z, e0, _, _⟩ := DataW.trod_int h0 hy0
      obtain ⟨s, e1, _, hs⟩ := DataW.trod_string h1 hy1
      simp only [List.cons.injEq, and_true] at e0 e1
      subst e0 e1
      exact ⟨(z, s), hc0, hc1, hs⟩
    obtain ⟨fs, hfl, hf⟩ := flist_of _ hcell
    refine ⟨_, len, cap, fs, rfl, by omega, fun k hk => ?_, fun k hk => (hf k hk).2.2⟩
    have hc0 := (hf 0 (by omega)).1
    have hs := spot_none (a := a) (by simpa using hc0)
    obtain ⟨b, o, spot⟩ := a
    subst hs
    have hadd : ∀ j, (⟨b, o, none⟩ : Addr).add j = ⟨b, o + j, none⟩ := fun j => by unfold Addr.add; split <;> simp_all
    refine ⟨b, o, rfl, ?_, ?_, ?_⟩
    · have := World.block_lt_of_cell? _ _ hc0
      simpa [Addr.add] using this
    · have := (hf k hk).1
      rwa [hadd] at this
    · have := (hf k hk).2.1
      rwa [hadd] at this
end
end Go.Proofs.YtidcpijiklpfkaaDoor
