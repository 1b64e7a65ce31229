/-
  The checksum of some bytes, as both programs reckon it: bit by bit, with 32 bits.
-/
import Derived.Test.YteikflfchkmbnaaNum
namespace Go.Proofs.Yteikflfchkmbnaa
open Go.RowKit Wire

def crcBit (c : Nat) : Nat := if c % 2 = 1 then c / 2 ^^^ 3988292384 else c / 2
def crcBits : Nat → Nat → Nat
  | 0, c => c
  | k + 1, c => crcBit (crcBits k c)
def crcStep (c : Nat) (b : Nat) : Nat := crcBits 8 (c ^^^ b)
def crcOf (l : List UInt8) : Nat := l.foldl (fun c b => crcStep c b.toNat) 4294967295
/-- the checksum -/
def crcN (s : ByteArray) : Nat := crcOf s.data.toList ^^^ 4294967295
theorem crcBit_lt {c : Nat} (h : c < 4294967296) : crcBit c < 4294967296 := by
  unfold crcBit
  split
  · exact Nat.xor_lt_two_pow (n := 32) (by omega) (by omega)
  · omega
theorem crcBits_lt : ∀ (k : Nat) {c : Nat}, c < 4294967296 → crcBits k c < 4294967296
  | 0, _, h => h
  | k + 1, _, h => crcBit_lt (crcBits_lt k h)
theorem crcStep_lt {c b : Nat} (h : c < 4294967296) (hb : b < 256) : crcStep c b < 4294967296 :=
  crcBits_lt 8 (Nat.xor_lt_two_pow (n := 32) (by omega) (by omega))
theorem crcOf_snoc (l : List UInt8) (b : UInt8) : crcOf (l ++ [b]) = crcStep (crcOf l) b.toNat := by simp [crcOf]
theorem crcOf_lt (l : List UInt8) : crcOf l < 4294967296 := by
  have : ∀ (l : List UInt8) (c : Nat), c < 4294967296 → l.foldl (fun c b => crcStep c b.toNat) c < 4294967296 := by
    intro l
    induction l with
    | nil => intro c h; exact h
    | cons b l ih => intro c h; exact ih _ (crcStep_lt h b.toNat_lt)
  exact this l _ (by omega)
theorem crcN_lt (s : ByteArray) : crcN s < 4294967296 := Nat.xor_lt_two_pow (n := 32) (crcOf_lt _) (by omega)
theorem crcOf_take (s : ByteArray) (k : Nat) (h : k < s.size) : crcOf (s.data.toList.take (k + 1)) = crcStep (crcOf (s.data.toList.take k)) s[k].toNat := by
  rw [take_snoc s k h, crcOf_snoc]
theorem crcBit_even {q c0 j : Nat} (hq : Hid (q = crcBits j c0)) (h : q % 2 = 0) : q / 2 ^^^ 0 = crcBits (j + 1) c0 := by
  show _ = crcBit (crcBits j c0)
  rw [← hq.out, crcBit, if_neg (by omega), Nat.xor_zero]
theorem crcBit_odd {q c0 j : Nat} (hq : Hid (q = crcBits j c0)) (h : q % 2 = 1) : q / 2 ^^^ 3988292384 = crcBits (j + 1) c0 := by
  show _ = crcBit (crcBits j c0)
  rw [← hq.out, crcBit, if_pos h]
theorem ofInt_u32 (a : Nat) (ha : a < 4294967296) : (BitVec.ofInt 32 (a : Int)).toNat = a := by
  rw [BitVec.ofInt_natCast, BitVec.toNat_ofNat]; exact Nat.mod_eq_of_lt (by omega)
theorem wrap_u32 (a : Nat) (ha : a < 2 ^ 32) : IntKind.u32.wrap (a : Int) = (a : Int) := by
  rw [IntKind.wrap_u32]; omega
theorem xor_u32 (a b : Nat) (ha : a < 4294967296) (hb : b < 4294967296) : bits .xor .u32 (a : Int) (b : Int) = ((a ^^^ b : Nat) : Int) := by
  have hx : a ^^^ b < 2 ^ 32 := Nat.xor_lt_two_pow (by omega) (by omega)
  show IntKind.u32.wrap ((BitVec.ofInt 32 (a : Int) ^^^ BitVec.ofInt 32 (b : Int)).toNat : Int) = _
  rw [BitVec.toNat_xor, ofInt_u32 a ha, ofInt_u32 b hb]
  exact wrap_u32 _ hx
theorem not_u32 (a : Nat) (ha : a < 4294967296) : bits .xor .u32 IntKind.u32.max (a : Int) = ((a ^^^ 4294967295 : Nat) : Int) := by
  rw [Nat.xor_comm]; exact xor_u32 4294967295 a (by omega) ha
theorem and_u32 (a : Nat) (ha : a < 4294967296) : bits .and .u32 (a : Int) 1 = ((a % 2 : Nat) : Int) := by
  show IntKind.u32.wrap ((BitVec.ofInt 32 (a : Int) &&& BitVec.ofInt 32 ((1 : Nat) : Int)).toNat : Int) = _
  rw [BitVec.toNat_and, ofInt_u32 a ha, ofInt_u32 1 (by omega), Nat.and_one_is_mod]
  exact wrap_u32 _ (by omega)
/-- four bytes of a number, the lowest first -/
def le4 (n : Nat) : List UInt8 := [UInt8.ofNat (n % 256), UInt8.ofNat (n / 256 % 256), UInt8.ofNat (n / 65536 % 256), UInt8.ofNat (n / 16777216 % 256)]
set_option maxHeartbeats 400000 in
set_option maxRecDepth 100000 in
theorem impl_checksum (s : ByteArray) (w : World) (hs : s.size ≤ maxLen) :
    Calls Try.prog 75 #[.string s] w fun e w' => e = .returned (.int .u32 (crcN s : Nat)) ∧ w = w' := by
  unfold maxLen at hs
  go_enter Try.func75, Try.ntmps75
  go_wp2
  go_loop [3, 7] (fun n i => ∃ k v : Nat, k ≤ s.size ∧ i = .int .i64 k ∧ Hid (v = crcOf (s.data.toList.take k)) ∧ v < 4294967296 ∧ n = .int .u32 v) (fun _ i => s.size - (intOf i).toNat)
  case atStart => exact ⟨0, 4294967295, Nat.zero_le _, rfl, rfl, by omega, rfl⟩
  case round =>
    obtain ⟨k, v, hk, rfl, hv, hlv, rfl⟩ := hrel
    by_cases hlt : k < s.size
    · have hu := s[k].toNat_lt
      have hx := xor_u32 v s[k].toNat hlv (by omega)
      go_wp2
      obtain ⟨c0, hc0⟩ : ∃ c0, v ^^^ s[k].toNat = c0 := ⟨_, rfl⟩
      rw [hc0]
      have hl0 : c0 < 4294967296 := by rw [← hc0]; exact Nat.xor_lt_two_pow (n := 32) (by omega) (by omega)
      have hc0 := Lib.hid hc0
      clear hx
      go_loop [3, 16] (fun n i => ∃ j q : Nat, j ≤ 8 ∧ i = .int .i64 j ∧ Hid (q = crcBits j c0) ∧ q < 4294967296 ∧ n = .int .u32 q) (fun _ i => 8 - (intOf i).toNat)
      case atStart => exact ⟨0, c0, Nat.zero_le _, rfl, rfl, hl0, rfl⟩
      case round =>
        obtain ⟨j, q, hj, rfl, hq, hlq, rfl⟩ := hrel
        by_cases hj8 : j < 8
        · have ha := and_u32 q hlq
          have hx0 := xor_u32 (q / 2) 0 (by omega) (by omega)
          have hx1 := xor_u32 (q / 2) 3988292384 (by omega) (by omega)
          rw [Int.natCast_ediv] at hx0 hx1
          have hl2 : crcBits (j + 1) c0 < 4294967296 := crcBits_lt _ hl0
          have e0 := fun h => crcBit_even hq h
          have e1 := fun h => crcBit_odd hq h
          rcases Nat.mod_two_eq_zero_or_one q with h2 | h2
          · rw [h2] at ha
            rw [e0 h2] at hx0
            have hx0 := Lib.hid hx0
            clear hx1 e0 e1
            go_wp2
            go_round
            case rel => exact ⟨j + 1, crcBits (j + 1) c0, by omega, by go_num, rfl, hl2, by rw [← hx0.out]; rfl⟩
            case measure => simp [intOf]; omega
          · rw [h2] at ha
            rw [e1 h2] at hx1
            have hx1 := Lib.hid hx1
            clear hx0 e0 e1
            go_wp2
            go_round
            case rel => exact ⟨j + 1, crcBits (j + 1) c0, by omega, by go_num, rfl, hl2, by rw [← hx1.out]; rfl⟩
            case measure => simp [intOf]; omega
        · have e : q = crcOf (s.data.toList.take (k + 1)) := by
            have : j = 8 := by omega
            subst this
            rw [crcOf_take s k hlt, ← hv.out, hq.out, ← hc0.out]; rfl
          have E := Lib.hid e
          clear e
          go_wp2
          go_round
          case rel => exact ⟨k + 1, q, by omega, by go_num, E, hlq, rfl⟩
          case measure => simp [intOf]; omega
    · have e : v = crcOf s.data.toList := by rw [hv.out, List.take_of_length_le (by simp; omega)]
      have E := Lib.hid e
      clear e
      go_wp2
      go_ret
      exact ⟨by rw [crcN, ← E.out, ← not_u32 v hlv]; rfl, rfl⟩

theorem conv_bytes4 (w : World) (a b c d : UInt8) :
    Sem.run Try.prog (convert 22 9 (.slice (some ⟨w.heap.size, 0, none⟩) 4 4)) (w.alloc (.cells #[.int .u8 a.toNat, .int .u8 b.toNat, .int .u8 c.toNat, .int .u8 d.toNat] 5)) =
      .ok (.string ⟨#[a, b, c, d]⟩) (w.alloc (.cells #[.int .u8 a.toNat, .int .u8 b.toNat, .int .u8 c.toNat, .int .u8 d.toNat] 5)) := by
  have h := run_convert_bytes_back (P := Try.prog) (w.alloc (.cells #[.int .u8 a.toNat, .int .u8 b.toNat, .int .u8 c.toNat, .int .u8 d.toNat] 5)) 22 9 5 ⟨w.heap.size, 0, none⟩ 4 [a, b, c, d] Try.underlying22 Try.underlying5 Try.underlying9 ?_
  · exact h
  · intro j hj
    have : j = 0 ∨ j = 1 ∨ j = 2 ∨ j = 3 := by simp at hj; omega
    rcases this with rfl | rfl | rfl | rfl <;> simp [Addr.add, go_sem]
theorem u8_of (n : Nat) : (((UInt8.ofNat (n % 256)).toNat : Nat) : Int) = (n : Int) % 256 := by simp
theorem conv4 (w : World) (n : Nat) :
    Sem.run Try.prog (convert 22 9 (.slice (some ⟨w.heap.size, 0, none⟩) 4 4)) (w.alloc (.cells #[.int .u8 ((n : Int) % 256), .int .u8 ((n : Int) / 256 % 256), .int .u8 ((n : Int) / 65536 % 256), .int .u8 ((n : Int) / 16777216 % 256)] 5)) =
      .ok (.string ⟨(le4 n).toArray⟩) (w.alloc (.cells #[.int .u8 ((n : Int) % 256), .int .u8 ((n : Int) / 256 % 256), .int .u8 ((n : Int) / 65536 % 256), .int .u8 ((n : Int) / 16777216 % 256)] 5)) := by
  have h := conv_bytes4 w (UInt8.ofNat (n % 256)) (UInt8.ofNat (n / 256 % 256)) (UInt8.ofNat (n / 65536 % 256)) (UInt8.ofNat (n / 16777216 % 256))
  simp only [u8_of, Int.natCast_ediv] at h
  exact h

set_option maxHeartbeats 400000 in
set_option maxRecDepth 100000 in
theorem l12Sum_any (s : ByteArray) (w : World) (hs : s.size ≤ maxLen) :
    Calls Try.prog 73 #[.string s] w fun e w' => e = .returned (.string ⟨(le4 (crcN s)).toArray⟩) ∧ Below w.heap.size w w' := by
  unfold maxLen at hs
  go_enter Try.func73, Try.ntmps73
  go_wp2
  go_loop [3, 4] (fun n i => ∃ k v : Nat, k ≤ s.size ∧ i = .int .i64 k ∧ Hid (v = crcOf (s.data.toList.take k)) ∧ v < 4294967296 ∧ n = .int .u32 v) (fun _ i => s.size - (intOf i).toNat)
  case atStart => exact ⟨0, 4294967295, Nat.zero_le _, rfl, rfl, by omega, rfl⟩
  case round =>
    obtain ⟨k, v, hk, rfl, hv, hlv, rfl⟩ := hrel
    by_cases hlt : k < s.size
    · have hu := s[k].toNat_lt
      have hx := xor_u32 v s[k].toNat hlv (by omega)
      go_wp2
      obtain ⟨c0, hc0⟩ : ∃ c0, v ^^^ s[k].toNat = c0 := ⟨_, rfl⟩
      rw [hc0]
      have hl0 : c0 < 4294967296 := by rw [← hc0]; exact Nat.xor_lt_two_pow (n := 32) (by omega) (by omega)
      have hc0 := Lib.hid hc0
      clear hx
      go_loop [3, 5] (fun n i => ∃ j q : Nat, j ≤ 8 ∧ i = .int .i64 j ∧ Hid (q = crcBits j c0) ∧ q < 4294967296 ∧ n = .int .u32 q) (fun _ i => 8 - (intOf i).toNat)
      case atStart => exact ⟨0, c0, Nat.zero_le _, rfl, rfl, hl0, rfl⟩
      case round =>
        obtain ⟨j, q, hj, rfl, hq, hlq, rfl⟩ := hrel
        by_cases hj8 : j < 8
        · have ha := and_u32 q hlq
          have hx0 := xor_u32 (q / 2) 0 (by omega) (by omega)
          have hx1 := xor_u32 (q / 2) 3988292384 (by omega) (by omega)
          rw [Int.natCast_ediv] at hx0 hx1
          have hl2 : crcBits (j + 1) c0 < 4294967296 := crcBits_lt _ hl0
          have e0 := fun h => crcBit_even hq h
          have e1 := fun h => crcBit_odd hq h
          rcases Nat.mod_two_eq_zero_or_one q with h2 | h2
          · rw [h2] at ha; have hm : ((q : Int) % 2) = 0 := by omega
            have e0 := Lib.hid (e0 h2)
            rw [Nat.xor_zero] at e0
            clear hx0 hx1 e1
            go_wp2
            go_round
            case rel => exact ⟨j + 1, crcBits (j + 1) c0, by omega, by go_num, rfl, hl2, by rw [← e0.out]; rfl⟩
            case measure => simp [intOf]; omega
          · rw [h2] at ha; have hm : ((q : Int) % 2) = 1 := by omega
            rw [e1 h2] at hx1
            have hx1 := Lib.hid hx1
            clear hx0 e0 e1
            go_wp2
            go_round
            case rel => exact ⟨j + 1, crcBits (j + 1) c0, by omega, by go_num, rfl, hl2, by rw [← hx1.out]; rfl⟩
            case measure => simp [intOf]; omega
        · have e : q = crcOf (s.data.toList.take (k + 1)) := by
            have : j = 8 := by omega
            subst this
            rw [crcOf_take s k hlt, ← hv.out, hq.out, ← hc0.out]; rfl
          have E := Lib.hid e
          clear e
          go_wp2
          go_round
          case rel => exact ⟨k + 1, q, by omega, by go_num, E, hlq, rfl⟩
          case measure => simp [intOf]; omega
    · have e : v = crcOf s.data.toList := by rw [hv.out, List.take_of_length_le (by simp; omega)]
      have E := Lib.hid e
      clear e
      have hxm := not_u32 v hlv
      have hcv := conv4 w (v ^^^ 4294967295)
      go_wp2
      go_ret
      exact ⟨by rw [crcN, ← E.out]; rfl, (Below.refl _ _).alloc (Nat.le_refl _) _⟩
