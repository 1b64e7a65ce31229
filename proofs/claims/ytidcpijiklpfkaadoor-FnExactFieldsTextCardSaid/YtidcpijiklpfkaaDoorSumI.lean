/-
  The program's sum of a text, in three digits (strings.Repeat lays).
-/
import Derived.Test.YtidcpijiklpfkaaDoorTxt
namespace Go.Proofs.YtidcpijiklpfkaaDoor
open Go.RowKit Wire Go.Shelf

shelf_lay Lays.n105 Nm 105 at Tryd as Tryd.lays105
theorem repX : Builder.Extra Tryd.prog Tryd.lays105_ren where
  sizeBuilder := by kernel_rfl
  liesBuilder := by kernel_rfl
  t5 := Tryd.lays105.t5
  a5 := Tryd.lays105.a5
  z5 := Tryd.lays105.z5
  v5 := Tryd.lays105.v5
  infoByte := by kernel_rfl
  cellsByte := by kernel_rfl
  sizeByte := by kernel_rfl
  neB5 := by decide
/-- a sum in three digits -/
def s3L (d : Nat) : List UInt8 := Lib.repeatL [48] (3 - (Lib.decDigits d).length) ++ Lib.decDigits d
theorem dec_len3 {d : Nat} (h : d < 256) : 1 ≤ (Lib.decDigits d).length ∧ (Lib.decDigits d).length ≤ 3 := by
  by_cases h1 : d < 10
  · rw [Lib.decDigits, dif_pos h1]; simp
  · by_cases h2 : d < 100
    · rw [Lib.decDigits, dif_neg h1, Lib.decDigits, dif_pos (by omega)]; simp
    · rw [Lib.decDigits, dif_neg h1, Lib.decDigits, dif_neg (by omega), Lib.decDigits, dif_pos (by omega)]; simp
theorem s3L_eq {d : Nat} (h : d < 256) : s3L d = Lib.decDigits (d / 100) ++ (Lib.decDigits (d / 10 % 10) ++ Lib.decDigits (d % 10)) := by
  have e1 : ∀ x, x < 10 → Lib.decDigits x = [UInt8.ofNat (48 + x)] := fun x hx => by rw [Lib.decDigits, dif_pos hx]
  unfold s3L
  by_cases h1 : d < 10
  · rw [e1 d h1, show d / 100 = 0 by omega, show d / 10 % 10 = 0 by omega, show d % 10 = d by omega, e1 0 (by omega), e1 d h1]
    rfl
  · by_cases h2 : d < 100
    · have : Lib.decDigits d = [UInt8.ofNat (48 + d / 10), UInt8.ofNat (48 + d % 10)] := by
        rw [Lib.decDigits, dif_neg h1, e1 (d / 10) (by omega)]; rfl
      rw [this, show d / 100 = 0 by omega, show d / 10 % 10 = d / 10 by omega, e1 0 (by omega), e1 (d / 10) (by omega), e1 (d % 10) (by omega)]
      rfl
    · have : Lib.decDigits d = [UInt8.ofNat (48 + d / 100), UInt8.ofNat (48 + d / 10 % 10), UInt8.ofNat (48 + d % 10)] := by
        rw [Lib.decDigits, dif_neg h1, Lib.decDigits, dif_neg (by omega), show d / 10 / 10 = d / 100 by omega, e1 (d / 100) (by omega)]; rfl
      rw [this, e1 (d / 100) (by omega), e1 (d / 10 % 10) (by omega), e1 (d % 10) (by omega)]
      rfl
set_option maxHeartbeats 800000 in
set_option maxRecDepth 100000 in
theorem impl_sumOf (s : ByteArray) (w : World) (hs : s.size ≤ 1000000) (htab : Lib.TabIs Tryd.prog w "internal/strconv.uint64pow10" .u64 Lib.pow10Tab) :
    Calls Tryd.prog 39 #[.string s] w fun e w' => e = .returned (.string ⟨(s3L (sumTo s s.size % 256)).toArray⟩) ∧ Below w.heap.size w w' := by
  go_enter Tryd.func39, Tryd.ntmps39
  go_wp2_with fail
  go_loop [3, 8] (fun nv i => ∃ (k t : Nat), k ≤ s.size ∧ i = .int .i64 (k : Int) ∧ nv = .int .u8 (t : Int) ∧ Hid (t = sumTo s k % 256) ∧ t < 256) (fun _ i => s.size - (intOf i).toNat)
  case atStart => exact ⟨0, 0, Nat.zero_le _, rfl, rfl, rfl, by omega⟩
  case round =>
    obtain ⟨k, t, hk, rfl, rfl, ht, ht2⟩ := hrel
    by_cases hlt : k < s.size
    · have hu := s[k].toNat_lt
      have H : Hid ((t + s[k].toNat) % 256 = sumTo s (k + 1) % 256) := Lib.hid (by rw [sumTo_step hlt, ht.out]; omega)
      clear ht
      go_wp2_with fail
      go_round
      case rel => exact ⟨k + 1, (t + s[k].toNat) % 256, by omega, by go_num, by simp, H.out, by omega⟩
      case measure => simp [intOf]; omega
    · obtain rfl : k = s.size := by omega
      have hit : Lib.itoa (t : Int) = Lib.decDigits t := by rw [itoa_dec (by omega), Int.toNat_natCast]
      have hl := dec_len3 ht2
      obtain ⟨l, hl0⟩ : ∃ l, Lib.decDigits t = l := ⟨_, rfl⟩
      have HS : Hid (s3L (sumTo s s.size % 256) = Lib.repeatL [48] (3 - l.length) ++ l) := Lib.hid (by rw [← ht.out, s3L, hl0])
      rw [hl0] at hl hit
      clear ht hl0
      go_wp2_with fail
      refine (impl_decimal (t : Int) w (by omega) (by omega) htab).mono ?_
      rw [hit]
      rintro e w1 ⟨rfl, hb1⟩
      clear hit
      have hsub : (3 : Int) - (l.length : Int) = ((3 - l.length : Nat) : Int) := by omega
      have hrl : (Lib.repeatL [48] (3 - l.length)).length ≤ 3 := by rw [Lib.repeatL_length]; simp
      have hcat : (⟨(Lib.repeatL [48] (3 - l.length)).toArray⟩ : ByteArray) ++ ⟨l.toArray⟩ = ⟨(Lib.repeatL [48] (3 - l.length) ++ l).toArray⟩ := by
        apply ByteArray.ext
        simp
      have HC := Lib.hid hcat
      clear hcat
      go_wp2_with fail
      refine (Any.strings_Repeat Tryd.lays105 repX ⟨#[48]⟩ (3 - l.length) w1 (by omega) (by show 1 * (3 - l.length) ≤ _; omega)).mono ?_
      rw [show (⟨#[48]⟩ : ByteArray).data.toList = [48] from rfl]
      rintro e w2 ⟨rfl, hb2⟩
      have hb3 := below_later hb1 hb2
      generalize hr : Lib.repeatL [48] (3 - l.length) = r at *
      go_wp2_with fail
      go_ret
      exact ⟨by rw [HS.out, ← HC.out]; rfl, hb3⟩
end Go.Proofs.YtidcpijiklpfkaaDoor
