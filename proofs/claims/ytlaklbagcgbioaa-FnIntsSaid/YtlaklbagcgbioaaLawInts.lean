/-
  The law on drawn numbers and bytes.
-/
import Derived.Test.YtlaklbagcgbioaaDraw
namespace Go.Proofs.Ytlaklbagcgbioaa
open Go.RowKit Wire

theorem below_later' {w w1 w2 : World} (h1 : Below w.heap.size w w1) (h2 : Below w1.heap.size w1 w2) : Below w.heap.size w w2 := h1.trans (h2.mono h1.size)
/-- what a law is told of a slice of integers that came in -/
def IsRow (k : IntKind) (w : World) (a : Option Addr) (len cap : Nat) (zs : List Int) : Prop :=
  (a = none ∧ len = 0 ∧ cap = 0 ∧ zs = []) ∨
  ∃ x, a = some x ∧ len ≤ cap ∧ cap ≤ maxLen ∧ zs.length = cap ∧ (∀ i, i < zs.length → w.cell? (x.add i) = some (.int k (zs.getD i 0))) ∧ ∀ n ∈ zs, (Lit.int k n).wf = true
theorem src_of_row {w : World} {a : Option Addr} {len cap : Nat} {zs : List Int} (h : IsRow .u8 w a len cap zs) : Src w w.heap.size a len := by
  intro i hi
  rcases h with ⟨rfl, rfl, _⟩ | ⟨x, rfl, hl, hm, hz, hc, hw⟩
  · omega
  · have hi2 : i < zs.length := by omega
    obtain ⟨b, o, spot⟩ := x
    have h1 := hc i hi2
    have hspot : spot = none := by
      have h2 := World.cell?_spot h1
      have h3 : ((⟨b, o, spot⟩ : Addr).add i).spot = spot ∨ i ≠ 0 := by
        unfold Addr.add
        split
        · exact .inl rfl
        · exact .inr (by assumption)
      rcases h3 with h3 | h3
      · rw [← h3, h2]
      · have h0 := hc 0 (by omega)
        have h4 := World.cell?_spot h0
        simpa [Addr.add] using h4
    subst hspot
    have hadd : (⟨b, o, none⟩ : Addr).add i = ⟨b, o + i, none⟩ := by unfold Addr.add; split <;> simp_all
    rw [hadd] at h1
    have hwf := hw (zs.getD i 0) (by rw [List.getD, List.getElem?_eq_getElem hi2]; exact List.getElem_mem hi2)
    generalize zs.getD i 0 = v at *
    simp [Lit.wf, IntKind.min, IntKind.max, IntKind.signed, IntKind.bits] at hwf
    exact ⟨b, o, v, rfl, World.block_lt_of_cell? _ _ h1, by omega, by omega, h1⟩
theorem row_len {w : World} {a : Option Addr} {len cap : Nat} {zs : List Int} {k : IntKind} (h : IsRow k w a len cap zs) : len ≤ 9223372036854775807 := by
  rcases h with ⟨_, rfl, _⟩ | ⟨x, _, hl, hm, _⟩
  · omega
  · unfold maxLen at hm; omega

theorem put_get {n k : Int} (h : putB n k ≠ ⟨#[]⟩) : getI (putB n k) = n ∧ ((putB n k).size : Int) = k := by
  unfold putB at h ⊢
  split at h
  · rename_i hh
    obtain ⟨h1, h2, h3, h4⟩ := hh
    rw [if_pos ⟨h1, h2, h3, h4⟩]
    have hs : (⟨(be k.toNat n.toNat).toArray⟩ : ByteArray).size = k.toNat := by show (be k.toNat n.toNat).toArray.size = _; rw [List.size_toArray, be_length]
    obtain ⟨N, rfl⟩ := Int.eq_ofNat_of_zero_le h3
    obtain ⟨K, rfl⟩ := Int.eq_ofNat_of_zero_le (show 0 ≤ k by omega)
    simp only [Int.toNat_natCast] at hs h4 ⊢
    rw [pow_nat] at h4
    refine ⟨?_, by omega⟩
    rw [getI_yes (by omega) (by omega)]
    have hv := val_be K N (by omega)
    show ((val (be K N).toArray.toList : Nat) : Int) = _
    rw [List.toList_toArray, hv]
  · exact absurd rfl h
theorem get_put {t : ByteArray} (h : 0 ≤ getI t) : putB (getI t) (t.size : Int) = t := by
  unfold getI at h ⊢
  split at h
  · rename_i hh
    rw [if_pos hh]
    have hv := val_lt t.data.toList
    have hl : t.data.toList.length = t.size := by rw [Array.length_toList]; rfl
    rw [putB_yes (by omega) (by omega) (by omega) (by rw [Int.toNat_natCast, pow_nat]; rw [hl] at hv; omega)]
    rw [Int.toNat_natCast, Int.toNat_natCast]
    have := be_val t.data.toList
    rw [hl] at this
    rw [this]
  · omega
theorem getI_max (t : ByteArray) : getI t ≤ 9223372036854775807 := by
  unfold getI
  split
  · rename_i hh
    have hv := val_lt t.data.toList
    have hl : t.data.toList.length ≤ 7 := by rw [Array.length_toList]; exact hh.2
    have := Nat.lt_of_lt_of_le hv (Nat.pow_le_pow_right (by omega) hl)
    omega
  · omega

set_option maxHeartbeats 1600000 in
set_option maxRecDepth 100000 in
theorem law_Ints (A : Option Addr) (len cap : Nat) (zs : List Int) (w : World) (hrow : IsRow .u8 w A len cap zs) :
    Calls Try.prog 3 #[.slice A len cap] w fun e w' => e = .returned (.bool true) ∧ Below w.heap.size w w' := by
  have hs := src_of_row hrow
  have hl := row_len hrow
  clear hrow
  by_cases hbig : 1048576 < len
  · go_enter Try.func3, Try.ntmps3
    go_wp2
    go_ret
    exact ⟨rfl, Below.refl _ _⟩
  · go_enter Try.func3, Try.ntmps3
    go_wp2_with (go_at_call 21; go_in)
    refine (DrawPutInt_any A len cap _ hs hl).mono ?_
    rintro e w1 ⟨n, k, hn, hk, rfl, hb1⟩
    have hn2 := hn.2
    go_wp2_with fail
    refine (impl_PutInt _ _ _ hn2).mono ?_
    rintro e w2 ⟨rfl, hb2⟩
    have hb2 := below_later' hb1 hb2
    have hs2 : Src w2 w2.heap.size A len := fun i hi => by
      obtain ⟨b, o, m, h1, h2, h3, h4, h5⟩ := hs i hi
      exact ⟨b, o, m, h1, Nat.lt_of_lt_of_le h2 hb2.size, h3, h4, (hb2.cell (p := ⟨b, o + i, none⟩) h2).trans h5⟩
    go_wp2_with fail
    refine (DrawGetInt_any A len cap _ hs2 hl).mono ?_
    rintro e w3 ⟨t, ht, rfl, hb3⟩
    have hb3 := below_later' hb2 hb3
    have htm : t.size ≤ maxLen := by unfold maxLen; omega
    clear hs hs2 hb1 hb2
    go_wp2_with fail
    refine (impl_GetInt _ _ htm).mono ?_
    rintro e w' ⟨rfl, rfl⟩
    go_wp2_with fail
    refine (spec_PutInt _ _ _).mono ?_
    rintro e w4 ⟨rfl, hb4⟩
    have hb4 := below_later' hb3 hb4
    go_wp2_with fail
    refine (spec_GetInt _ _ htm).mono ?_
    rintro e w' ⟨rfl, rfl⟩
    go_wp2_with fail
    · have hM : 0 ≤ getI t := by assumption
      have c := impl_PutInt (getI t) (t.size : Int) w4 (getI_max t)
      rw [get_put hM] at c
      refine c.mono ?_
      rintro e w5 ⟨rfl, hb5⟩
      go_wp2_with fail
      go_ret
      exact ⟨by first | rfl | simp, below_later' hb4 hb5⟩
    · go_ret
      exact ⟨rfl, hb4⟩
    · have hE : ¬ (putB n k).toList = [] := by assumption
      obtain ⟨q1, q2⟩ := put_get (n := n) (k := k) (fun e => hE (by rw [e, ByteArray.toList_eq]))
      have q3 : (((putB n k).size : Int) == k) = true := by rw [q2]; simp
      have c := impl_GetInt (putB n k) w4 (by have := hk.2; unfold maxLen; omega)
      rw [q1] at c
      clear q1 q2
      refine c.mono ?_
      rintro e w' ⟨rfl, rfl⟩
      go_wp2_with fail
      · have hM : 0 ≤ getI t := by assumption
        have c := impl_PutInt (getI t) (t.size : Int) w4 (getI_max t)
        rw [get_put hM] at c
        refine c.mono ?_
        rintro e w5 ⟨rfl, hb5⟩
        go_wp2_with fail
        go_ret
        exact ⟨by first | rfl | simp, below_later' hb4 hb5⟩
      · go_ret
        exact ⟨rfl, hb4⟩
end Go.Proofs.Ytlaklbagcgbioaa
