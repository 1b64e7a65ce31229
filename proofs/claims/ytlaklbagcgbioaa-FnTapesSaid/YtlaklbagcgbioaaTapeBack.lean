/-
  The bytes of records, read piece by piece, are the records; the pieces of a text, written, are the text.
-/
import Derived.Test.YtlaklbagcgbioaaRd
import Derived.Test.YtlaklbagcgbioaaTape
import Derived.Test.YtlaklbagcgbioaaLawFilledD
namespace Go.Proofs.Ytlaklbagcgbioaa
open Go.RowKit Wire

theorem frame_list (s : ByteArray) (sz k : Nat) : (frame s sz k).data.toList = (s.data.toList.drop (sz * k)).take sz := by
  unfold frame
  rw [ByteArray.data_extract, Array.toList_extract, List.extract_eq_take_drop]
  have hs : s.data.toList.length = s.size := by rw [Array.length_toList]; rfl
  rcases Nat.le_total (sz * k + sz) s.size with h | h
  · rw [Nat.min_eq_left h]
    congr 1
    omega
  · rw [Nat.min_eq_right h, List.take_of_length_le (by rw [List.length_drop]; omega), List.take_of_length_le (by rw [List.length_drop]; omega)]
theorem isRec_recAt {zs : List Int} {k : Nat} (h : okAt zs k = true) : isRec (recAt zs k) = true := by
  rw [isRec_iff]
  refine ⟨recAt_len h, ?_⟩
  obtain ⟨e0, e1, e2, e3, e4, e5, e6, e7⟩ := recBytesB_flds (num zs (k * 8)) (num zs (k * 8 + 1)) (num zs (k * 8 + 2)) (num zs (k * 8 + 3)) (num zs (k * 8 + 4)) (num zs (k * 8 + 5)) (num zs (k * 8 + 6)) (num zs (k * 8 + 7)) h
  unfold recAt
  rw [e0, e1, e2, e3, e4, e5, e6, e7]
  exact h
theorem rdRec_recAt {zs : List Int} {k : Nat} (h : okAt zs k = true) (j : Nat) (hj : j < 8) : rdRec (recAt zs k) j = num zs (k * 8 + j) := by
  unfold rdRec
  rw [if_pos (isRec_recAt h)]
  obtain ⟨e0, e1, e2, e3, e4, e5, e6, e7⟩ := recBytesB_flds (num zs (k * 8)) (num zs (k * 8 + 1)) (num zs (k * 8 + 2)) (num zs (k * 8 + 3)) (num zs (k * 8 + 4)) (num zs (k * 8 + 5)) (num zs (k * 8 + 6)) (num zs (k * 8 + 7)) h
  unfold recAt
  rw [e0, e1, e2, e3, e4, e5, e6, e7]
  rcases (show j = 0 ∨ j = 1 ∨ j = 2 ∨ j = 3 ∨ j = 4 ∨ j = 5 ∨ j = 6 ∨ j = 7 from by omega) with rfl | rfl | rfl | rfl | rfl | rfl | rfl | rfl <;> rfl
theorem tapeL_part {zs : List Int} : ∀ n k, k < n → ∃ r, tapeL zs n = tapeL zs k ++ ((recAt zs k).data.toList ++ r)
  | 0, k, h => absurd h (Nat.not_lt_zero k)
  | n + 1, k, h => by
    rcases Nat.lt_or_ge k n with hk | hk
    · obtain ⟨r, hr⟩ := tapeL_part n k hk
      exact ⟨r ++ (recAt zs n).data.toList, by rw [tapeL, hr]; simp only [List.append_assoc]⟩
    · obtain rfl : k = n := by omega
      exact ⟨[], by rw [tapeL, List.append_nil]⟩
theorem frame_tape {zs : List Int} {n k : Nat} (h : okTo zs n = true) (hk : k < n) : frame ⟨(tapeL zs n).toArray⟩ 21 k = recAt zs k := by
  apply ByteArray.ext
  apply Array.ext'
  rw [frame_list]
  show ((tapeL zs n).drop (21 * k)).take 21 = _
  obtain ⟨r, hr⟩ := tapeL_part (zs := zs) n k hk
  have hat := okTo_at n k h hk
  have hko : okTo zs k = true := okTo_of k fun j hj => okTo_at n j h (by omega)
  have hl := recAt_len hat
  have hl2 : (recAt zs k).data.toList.length = 21 := by rw [Array.length_toList]; exact hl
  rw [hr, ← tapeL_len k hko, List.drop_left, List.take_left' hl2]
theorem tape_rel {zs : List Int} {n : Nat} (h : okTo zs n = true) (hn : n ≤ 1000) : TapeRel isRec ⟨(tapeL zs n).toArray⟩ n (-1) := by
  have hs : (⟨(tapeL zs n).toArray⟩ : ByteArray).size = 21 * n := by
    show (tapeL zs n).toArray.size = 21 * n
    rw [List.size_toArray, tapeL_len n h]
  refine .inl ⟨rfl, by omega, by omega, hn, fun j hj => ?_⟩
  rw [frame_tape h hj]
  exact isRec_recAt (okTo_at n j h hj)
theorem tape_rows {zs : List Int} {n : Nat} (h : okTo zs n = true) (hz : zs.length = n * 8) : rowsOf rdRec ⟨(tapeL zs n).toArray⟩ 21 n = zs := by
  apply List.ext_getElem
  · rw [rowsOf_length, hz]
  · intro q h1 h2
    have key : num (rowsOf rdRec ⟨(tapeL zs n).toArray⟩ 21 n) q = num zs q := by
      have hk : q / 8 < n := by omega
      have hj : q % 8 < 8 := Nat.mod_lt _ (by omega)
      have := rowsOf_num rdRec ⟨(tapeL zs n).toArray⟩ 21 n (q / 8) (q % 8) hk hj
      rw [Nat.div_add_mod'] at this
      rw [this, frame_tape h hk, rdRec_recAt (okTo_at n _ h hk) _ hj, Nat.div_add_mod']
    unfold num at key
    rw [List.getD_eq_getElem?_getD, List.getD_eq_getElem?_getD, List.getElem?_eq_getElem h1, List.getElem?_eq_getElem h2] at key
    exact key
theorem recAt_rows {t : ByteArray} {n k : Nat} (hk : k < n) (h : isRec (frame t 21 k) = true) : recAt (rowsOf rdRec t 21 n) k = frame t 21 k ∧ okAt (rowsOf rdRec t 21 n) k = true := by
  have e := fun j hj => rowsOf_num rdRec t 21 n k j hk hj
  have e0 := e 0 (by omega)
  rw [Nat.add_zero] at e0
  obtain ⟨h1, h2⟩ := (isRec_iff _).1 h
  have hr : ∀ j, rdRec (frame t 21 k) j = eight8 (fld (frame t 21 k) 0 4 : Nat) (fld (frame t 21 k) 4 1 : Nat) (fld (frame t 21 k) 5 1 : Nat) (fld (frame t 21 k) 6 1 : Nat) (fld (frame t 21 k) 7 4 : Nat) (fld (frame t 21 k) 11 4 : Nat) (fld (frame t 21 k) 15 3 : Nat) (fld (frame t 21 k) 18 3 : Nat) j := fun j => by
    unfold rdRec
    rw [if_pos h]
  unfold recAt okAt
  rw [e0, e 1 (by omega), e 2 (by omega), e 3 (by omega), e 4 (by omega), e 5 (by omega), e 6 (by omega), e 7 (by omega)]
  simp only [hr]
  exact ⟨recB_back _ h1 h2, h2⟩
theorem tape_back {t : ByteArray} {n : Nat} (hall : ∀ j, j < n → isRec (frame t 21 j) = true) (hn : n ≤ 1000) (h1 : t.size ≤ 21 * n) (h2 : 21 * n ≤ t.size + 20) : tapeB (rowsOf rdRec t 21 n) n = t := by
  have hlen : t.size = 21 * n := by
    rcases Nat.eq_zero_or_pos n with h0 | h0
    · omega
    · have h3 := ((isRec_iff _).1 (hall (n - 1) (by omega))).1
      rw [frame_size] at h3
      omega
  have hok : okTo (rowsOf rdRec t 21 n) n = true := okTo_of n fun j hj => (recAt_rows hj (hall j hj)).2
  rw [tapeB_yes hok hn]
  have hl : t.data.toList.length = 21 * n := by rw [Array.length_toList]; exact hlen
  have key : ∀ k, k ≤ n → tapeL (rowsOf rdRec t 21 n) k = t.data.toList.take (21 * k) := by
    intro k
    induction k with
    | zero => intro _; simp [tapeL]
    | succ k ih =>
      intro hk
      rw [tapeL, ih (by omega), (recAt_rows (by omega) (hall k (by omega))).1, frame_list, Nat.mul_add, Nat.mul_one, List.take_add]
  apply ByteArray.ext
  apply Array.ext'
  show tapeL (rowsOf rdRec t 21 n) n = t.data.toList
  rw [key n (Nat.le_refl _), List.take_of_length_le (by omega)]
end Go.Proofs.Ytlaklbagcgbioaa
