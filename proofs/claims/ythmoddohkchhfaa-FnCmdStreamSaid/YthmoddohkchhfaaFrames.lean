/-
  Pieces of a text, and what reading them one by one comes to.
-/
import Derived.Test.YthmoddohkchhfaaList
namespace Go.Proofs.Ythmoddohkchhfaa
open Go.RowKit Wire

/-- eight numbers, cell by cell -/
def eight8 (a b c d e f g h : Int) : Nat → Int
  | 0 => a | 1 => b | 2 => c | 3 => d | 4 => e | 5 => f | 6 => g | _ => h
/-- piece number k of a text, sz bytes a piece, the last one perhaps shorter -/
def frame (s : ByteArray) (sz k : Nat) : ByteArray := s.extract (sz * k) (min (sz * k + sz) s.size)
/-- the rows of the first n pieces -/
def rowsOf (F : ByteArray → Nat → Int) (s : ByteArray) (sz : Nat) : Nat → List Int
  | 0 => []
  | n + 1 => rowsOf F s sz n ++ [F (frame s sz n) 0, F (frame s sz n) 1, F (frame s sz n) 2, F (frame s sz n) 3, F (frame s sz n) 4, F (frame s sz n) 5, F (frame s sz n) 6, F (frame s sz n) 7]
theorem rowsOf_length (F : ByteArray → Nat → Int) (s : ByteArray) (sz : Nat) : ∀ n, (rowsOf F s sz n).length = n * 8
  | 0 => rfl
  | n + 1 => by
    rw [rowsOf, List.length_append, rowsOf_length F s sz n]
    simp only [List.length_cons, List.length_nil]
    omega
theorem num_left {a b : List Int} {j : Nat} (h : j < a.length) : num (a ++ b) j = num a j := by
  unfold num; rw [List.getD_eq_getElem?_getD, List.getD_eq_getElem?_getD, List.getElem?_append_left h]
theorem num_right {a b : List Int} {j m : Nat} (h : a.length = m) : num (a ++ b) (m + j) = num b j := by
  unfold num; rw [List.getD_eq_getElem?_getD, List.getD_eq_getElem?_getD, List.getElem?_append_right (by omega)]
  congr 2; omega
theorem rowsOf_num (F : ByteArray → Nat → Int) (s : ByteArray) (sz : Nat) : ∀ n k j, k < n → j < 8 → num (rowsOf F s sz n) (k * 8 + j) = F (frame s sz k) j
  | 0, k, j, h, _ => absurd h (Nat.not_lt_zero k)
  | n + 1, k, j, h, hj => by
    have hl := rowsOf_length F s sz n
    rcases Nat.lt_or_ge k n with hk | hk
    · rw [rowsOf, num_left (by omega)]
      exact rowsOf_num F s sz n k j hk hj
    · obtain rfl : k = n := by omega
      rw [rowsOf, num_right hl]
      rcases (show j = 0 ∨ j = 1 ∨ j = 2 ∨ j = 3 ∨ j = 4 ∨ j = 5 ∨ j = 6 ∨ j = 7 from by omega) with rfl | rfl | rfl | rfl | rfl | rfl | rfl | rfl <;> rfl
theorem frame_size (s : ByteArray) (sz k : Nat) : (frame s sz k).size = min (sz * k + sz) s.size - sz * k := by
  unfold frame
  rw [ByteArray.size_extract]
  omega
theorem ext_all (s : ByteArray) : s.extract 0 s.size = s := by simp
/-- the first n bytes of a text, piece by piece -/
theorem frame_front (s : ByteArray) (sz m k : Nat) (h : sz * k + sz ≤ m ∨ s.size ≤ m) : frame (s.extract 0 m) sz k = frame s sz k := by
  unfold frame
  rw [ByteArray.extract_extract, ByteArray.size_extract]
  congr 1 <;> omega
theorem rest_front (s : ByteArray) (sz k : Nat) : (s.extract (sz * k) s.size).extract 0 (min (s.extract (sz * k) s.size).size sz) = frame s sz k := by
  unfold frame
  rw [ByteArray.extract_extract, ByteArray.size_extract]
  congr 1 <;> omega
theorem ext_nil {s : ByteArray} {a b : Nat} (h : s.size ≤ a) : s.extract a b = ⟨#[]⟩ := by
  apply ByteArray.ext
  have h1 : (s.extract a b).size = 0 := by rw [ByteArray.size_extract]; omega
  exact Array.eq_empty_of_size_eq_zero h1
theorem rest_next (s : ByteArray) (sz k m : Nat) (hm : m = min (s.extract (sz * k) s.size).size sz) : (s.extract (sz * k) s.size).extract m (s.extract (sz * k) s.size).size = s.extract (sz * (k + 1)) s.size := by
  subst hm
  rw [ByteArray.extract_extract, ByteArray.size_extract, Nat.mul_add, Nat.mul_one, Nat.min_self]
  by_cases h : sz * k + sz ≤ s.size
  · congr 1 <;> omega
  · rw [ext_nil (a := sz * k + sz) (by omega), ext_nil (by omega)]
end Go.Proofs.Ythmoddohkchhfaa
