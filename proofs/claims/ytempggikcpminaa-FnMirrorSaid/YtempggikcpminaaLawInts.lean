/-
  The law on drawn numbers and bytes.
-/
import Derived.Test.YtempggikcpminaaGD
namespace Go.Proofs.Ytempggikcpminaa
open Go.RowKit Wire

/-- what a law is told of a slice of integers that came in -/
def IsRow (k : IntKind) (w : World) (a : Option Addr) (len cap : Nat) (zs : List Int) : Prop :=
  (a = none ∧ len = 0 ∧ cap = 0 ∧ zs = []) ∨
  ∃ x, a = some x ∧ len ≤ cap ∧ cap ≤ maxLen ∧ zs.length = cap ∧ (∀ i, i < zs.length → w.cell? (x.add i) = some (.int k (zs.getD i 0))) ∧ ∀ n ∈ zs, (Lit.int k n).wf = true
theorem src_of_row {w : World} {a : Option Addr} {len cap : Nat} {zs : List Int} (h : IsRow .u8 w a len cap zs) : Src w w.heap.size a len := by
  intro i hi
  rcases h with ⟨rfl, rfl, _⟩ | ⟨x, rfl, hl, hm, hz, hc, hw⟩
  · omega
  · have hi2 : i < zs.length := by omega
    obtain ⟨b, o, spot⟩ := x
    have h1 := hc i hi2
    have hspot : spot = none := by
      have h2 := World.cell?_spot h1
      have h3 : ((⟨b, o, spot⟩ : Addr).add i).spot = spot ∨ i ≠ 0 := by
        unfold Addr.add
        split
        · exact .inl rfl
        · exact .inr (by assumption)
      rcases h3 with h3 | h3
      · rw [← h3, h2]
      · have h0 := hc 0 (by omega)
        have h4 := World.cell?_spot h0
        simpa [Addr.add] using h4
    subst hspot
    have hadd : (⟨b, o, none⟩ : Addr).add i = ⟨b, o + i, none⟩ := by unfold Addr.add; split <;> simp_all
    rw [hadd] at h1
    have hwf := hw (zs.getD i 0) (by rw [List.getD, List.getElem?_eq_getElem hi2]; exact List.getElem_mem hi2)
    generalize zs.getD i 0 = v at *
    simp [Lit.wf, IntKind.min, IntKind.max, IntKind.signed, IntKind.bits] at hwf
    exact ⟨b, o, v, rfl, World.block_lt_of_cell? _ _ h1, by omega, by omega, h1⟩
theorem row_len {w : World} {a : Option Addr} {len cap : Nat} {zs : List Int} {k : IntKind} (h : IsRow k w a len cap zs) : len ≤ 9223372036854775807 := by
  rcases h with ⟨_, rfl, _⟩ | ⟨x, _, hl, hm, _⟩
  · omega
  · unfold maxLen at hm; omega

end Go.Proofs.Ytempggikcpminaa
