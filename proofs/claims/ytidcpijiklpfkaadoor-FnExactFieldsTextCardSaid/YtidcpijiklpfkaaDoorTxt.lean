/-
  The text of a field, and the sum of a text's bytes, in both programs.
-/
import Derived.Test.YtidcpijiklpfkaaDoorDec
import Derived.Test.YtidcpijiklpfkaaDoorTab
import Derived.Lib.ItoaLen
import Derived.Shelf.Strings.Repeat
namespace Go.Proofs.YtidcpijiklpfkaaDoor
open Go.RowKit Wire Go.Shelf

/-- a field's text -/
def fldTx (t : Int) (v : ByteArray) : List UInt8 := Lib.itoa t ++ 61 :: (v.data.toList ++ [1])
/-- the sum of the first k bytes -/
def sumTo (s : ByteArray) : Nat → Nat
  | 0 => 0
  | k + 1 => sumTo s k + (if h : k < s.size then s[k].toNat else 0)
theorem sumTo_step {s : ByteArray} {k : Nat} (h : k < s.size) : sumTo s (k + 1) = sumTo s k + s[k].toNat := by rw [sumTo, dif_pos h]
set_option maxRecDepth 100000 in
theorem sumTo_le (s : ByteArray) : ∀ k, sumTo s k ≤ k * 255
  | 0 => by simp [sumTo]
  | k + 1 => by
    have := sumTo_le s k
    rw [sumTo]
    split
    · rename_i h
      have hu := s[k].toNat_lt
      omega
    · omega
theorem itoa_dec {n : Int} (h : 0 ≤ n) : Lib.itoa n = Lib.decDigits n.toNat := by rw [Lib.itoa, if_neg (by omega)]
theorem fld_bytes (l : List UInt8) (v : ByteArray) : (((⟨l.toArray⟩ : ByteArray) ++ ⟨#[61]⟩) ++ v) ++ ⟨#[1]⟩ = ⟨(l ++ 61 :: (v.data.toList ++ [1])).toArray⟩ := by
  apply ByteArray.ext
  simp
set_option maxHeartbeats 400000 in
theorem impl_fieldText (t : Int) (v : ByteArray) (w : World) (h0 : 0 ≤ t) (h1 : t ≤ 9223372036854775807) (hv : v.size ≤ 1000000) (htab : Lib.TabIs Tryd.prog w "internal/strconv.uint64pow10" .u64 Lib.pow10Tab) :
    Calls Tryd.prog 38 #[.int .i64 t, .string v] w fun e w' => e = .returned (.string ⟨(fldTx t v).toArray⟩) ∧ Below w.heap.size w w' := by
  have hlen := Lib.itoa_length_le t (by omega) h1
  have HB : Hid ((((⟨(Lib.itoa t).toArray⟩ : ByteArray) ++ ⟨#[61]⟩) ++ v) ++ ⟨#[1]⟩ = ⟨(fldTx t v).toArray⟩) := Lib.hid (fld_bytes (Lib.itoa t) v)
  go_enter Tryd.func38, Tryd.ntmps38
  go_wp2_with fail
  refine (impl_decimal t w h0 h1 htab).mono ?_
  rintro e w1 ⟨rfl, hb1⟩
  generalize Lib.itoa t = l at *
  go_wp2_with fail
  go_ret
  exact ⟨by rw [← HB.out]; rfl, hb1⟩
set_option maxHeartbeats 400000 in
theorem spec_l13Sum (s : ByteArray) (w : World) (hs : s.size ≤ 1000000) :
    Calls Tryd.prog 66 #[.string s] w fun e w' => e = .returned (.int .i64 ((sumTo s s.size % 256 : Nat) : Int)) ∧ w = w' := by
  go_enter Tryd.func66, Tryd.ntmps66
  go_wp2_with fail
  go_loop [3, 4] (fun nv i => ∃ (k t : Nat), k ≤ s.size ∧ i = .int .i64 (k : Int) ∧ nv = .int .i64 (t : Int) ∧ Hid (t = sumTo s k) ∧ t ≤ k * 255) (fun _ i => s.size - (intOf i).toNat)
  case atStart => exact ⟨0, 0, Nat.zero_le _, rfl, rfl, rfl, by omega⟩
  case round =>
    obtain ⟨k, t, hk, rfl, rfl, ht, ht2⟩ := hrel
    by_cases hlt : k < s.size
    · have hu := s[k].toNat_lt
      have H : Hid (t + s[k].toNat = sumTo s (k + 1)) := Lib.hid (by rw [sumTo_step hlt, ht.out])
      clear ht
      go_wp2_with fail
      go_round
      case rel => exact ⟨k + 1, t + s[k].toNat, by omega, by go_num, by go_num, H.out, by omega⟩
      case measure => simp [intOf]; omega
    · obtain rfl : k = s.size := by omega
      go_wp2_with fail
      go_ret
      exact ⟨ret_int (by rw [← ht.out]; first | done | omega), rfl⟩
end Go.Proofs.YtidcpijiklpfkaaDoor
