/-
  The law on drawn numbers and bytes.
-/
import Derived.Test.YtfodkefaflpicabGD
namespace Go.Proofs.Ytfodkefaflpicab
open Go.RowKit Wire

theorem below_later' {w w1 w2 : World} (h1 : Below w.heap.size w w1) (h2 : Below w1.heap.size w1 w2) : Below w.heap.size w w2 := h1.trans (h2.mono h1.size)
/-- what a law is told of a slice of integers that came in -/
def IsRow (k : IntKind) (w : World) (a : Option Addr) (len cap : Nat) (zs : List Int) : Prop :=
  (a = none ∧ len = 0 ∧ cap = 0 ∧ zs = []) ∨
  ∃ x, a = some x ∧ len ≤ cap ∧ cap ≤ maxLen ∧ zs.length = cap ∧ (∀ i, i < zs.length → w.cell? (x.add i) = some (.int k (zs.getD i 0))) ∧ ∀ n ∈ zs, (Lit.int k n).wf = true
theorem src_of_row {w : World} {a : Option Addr} {len cap : Nat} {zs : List Int} (h : IsRow .u8 w a len cap zs) : Src w w.heap.size a len := by
  intro i hi
  rcases h with ⟨rfl, rfl, _⟩ | ⟨x, rfl, hl, hm, hz, hc, hw⟩
  · omega
  · have hi2 : i < zs.length := by omega
    obtain ⟨b, o, spot⟩ := x
    have h1 := hc i hi2
    have hspot : spot = none := by
      have h2 := World.cell?_spot h1
      have h3 : ((⟨b, o, spot⟩ : Addr).add i).spot = spot ∨ i ≠ 0 := by
        unfold Addr.add
        split
        · exact .inl rfl
        · exact .inr (by assumption)
      rcases h3 with h3 | h3
      · rw [← h3, h2]
      · have h0 := hc 0 (by omega)
        have h4 := World.cell?_spot h0
        simpa [Addr.add] using h4
    subst hspot
    have hadd : (⟨b, o, none⟩ : Addr).add i = ⟨b, o + i, none⟩ := by unfold Addr.add; split <;> simp_all
    rw [hadd] at h1
    have hwf := hw (zs.getD i 0) (by rw [List.getD, List.getElem?_eq_getElem hi2]; exact List.getElem_mem hi2)
    generalize zs.getD i 0 = v at *
    simp [Lit.wf, IntKind.min, IntKind.max, IntKind.signed, IntKind.bits] at hwf
    exact ⟨b, o, v, rfl, World.block_lt_of_cell? _ _ h1, by omega, by omega, h1⟩
theorem row_len {w : World} {a : Option Addr} {len cap : Nat} {zs : List Int} {k : IntKind} (h : IsRow k w a len cap zs) : len ≤ 9223372036854775807 := by
  rcases h with ⟨_, rfl, _⟩ | ⟨x, _, hl, hm, _⟩
  · omega
  · unfold maxLen at hm; omega

theorem put_get {n k : Int} (h : putB n k ≠ ⟨#[]⟩) : getI (putB n k) = n ∧ ((putB n k).size : Int) = k := by
  unfold putB at h ⊢
  split at h
  · rename_i hh
    obtain ⟨h1, h2, h3, h4⟩ := hh
    rw [if_pos ⟨h1, h2, h3, h4⟩]
    have hs : (⟨(be k.toNat n.toNat).toArray⟩ : ByteArray).size = k.toNat := by show (be k.toNat n.toNat).toArray.size = _; rw [List.size_toArray, be_length]
    obtain ⟨N, rfl⟩ := Int.eq_ofNat_of_zero_le h3
    obtain ⟨K, rfl⟩ := Int.eq_ofNat_of_zero_le (show 0 ≤ k by omega)
    simp only [Int.toNat_natCast] at hs h4 ⊢
    rw [pow_nat] at h4
    refine ⟨?_, by omega⟩
    rw [getI_yes (by omega) (by omega)]
    have hv := val_be K N (by omega)
    show ((val (be K N).toArray.toList : Nat) : Int) = _
    rw [List.toList_toArray, hv]
  · exact absurd rfl h
theorem get_put {t : ByteArray} (h : 0 ≤ getI t) : putB (getI t) (t.size : Int) = t := by
  unfold getI at h ⊢
  split at h
  · rename_i hh
    rw [if_pos hh]
    have hv := val_lt t.data.toList
    have hl : t.data.toList.length = t.size := by rw [Array.length_toList]; rfl
    rw [putB_yes (by omega) (by omega) (by omega) (by rw [Int.toNat_natCast, pow_nat]; rw [hl] at hv; omega)]
    rw [Int.toNat_natCast, Int.toNat_natCast]
    have := be_val t.data.toList
    rw [hl] at this
    rw [this]
  · omega
theorem getI_max (t : ByteArray) : getI t ≤ 9223372036854775807 := by
  unfold getI
  split
  · rename_i hh
    have hv := val_lt t.data.toList
    have hl : t.data.toList.length ≤ 7 := by rw [Array.length_toList]; exact hh.2
    have := Nat.lt_of_lt_of_le hv (Nat.pow_le_pow_right (by omega) hl)
    omega
  · omega

end Go.Proofs.Ytfodkefaflpicab
