/-
  The two programs' functions on numbers and their bytes, each with what it returns.
-/
import Derived.Test.YtempggikcpminaaKit
namespace Go.Proofs.Ytempggikcpminaa
open Go.RowKit Wire

def inB (lo n hi : Int) : Bool := decide (lo ≤ n) && decide (n ≤ hi)
theorem inB_yes {lo n hi : Int} (h1 : lo ≤ n) (h2 : n ≤ hi) : inB lo n hi = true := by simp [inB, h1, h2]
theorem inB_no {lo n hi : Int} (h : ¬ (lo ≤ n ∧ n ≤ hi)) : inB lo n hi = false := by
  unfold inB
  by_cases h1 : lo ≤ n
  · have h2 : ¬ n ≤ hi := fun k => h ⟨h1, k⟩
    simp [h2]
  · simp [h1]

theorem within_any (n lo hi : Int) (w : World) :
    Calls Try.prog 36 #[.int .i64 n, .int .i64 lo, .int .i64 hi] w fun e w' => e = .returned (.bool (inB lo n hi)) ∧ w = w' := by
  by_cases h1 : lo ≤ n <;> by_cases h2 : n ≤ hi
  all_goals
    go_enter Try.func36, Try.ntmps36
    go_wp2
    go_ret
    exact ⟨by simp [inB, h1, h2], rfl⟩
theorem l1In_any (n lo hi : Int) (w : World) :
    Calls Try.prog 84 #[.int .i64 n, .int .i64 lo, .int .i64 hi] w fun e w' => e = .returned (.bool (inB lo n hi)) ∧ w = w' := by
  by_cases h1 : lo ≤ n <;> by_cases h2 : n ≤ hi
  all_goals
    go_enter Try.func84, Try.ntmps84
    go_wp2
    go_ret
    exact ⟨by simp [inB, h1, h2], rfl⟩

/-- the cells of some bytes -/
def bcells (l : List UInt8) : List Value := l.map fun b => .int .u8 (b.toNat : Int)
theorem bcells_length (l : List UInt8) : (bcells l).length = l.length := by simp [bcells]
theorem u8_info : (Try.prog.info? 5).map (fun i => (i.zero, i.size, i.bytes)) = some (some (.int .u8 0), 1, 1) := by kernel_rfl


theorem div_step {q m k N : Nat} (h : Hid (q = N / 256 ^ (k - (m + 1)))) (hm : m + 1 ≤ k) : Hid (q / 256 = N / 256 ^ (k - m)) := by
  have h := h.out
  obtain ⟨j, hj⟩ : ∃ j, k - (m + 1) = j := ⟨_, rfl⟩
  have : k - m = j + 1 := by omega
  rw [hj] at h
  show _ = _
  rw [this, h, Nat.div_div_eq_div_mul, Nat.pow_succ]
theorem own_cell {w : World} {base : Nat} {e : TypeId} {g n cap : Nat} {xs : List Value} (h : w.ownsRow base e 1 (.slice (some ⟨g, 0, none⟩) n cap) n xs) (j : Nat) (hj : j < n) : ∃ u, w.cell? ⟨g, j, none⟩ = some u := by
  have hl : xs.length = n := by simpa using h.1
  exact ⟨xs[j]'(by omega), by rw [h.cellAt j (by omega), List.getElem?_eq_getElem]⟩
theorem own_bytes {w : World} {base : Nat} {e : TypeId} {g n cap : Nat} {l : List UInt8} (h : w.ownsRow base e 1 (.slice (some ⟨g, 0, none⟩) n cap) n (bcells l)) :
    ∀ j (hj : j < l.length), w.cell? ((⟨g, 0, none⟩ : Addr).add j) = some (.int .u8 (l[j].toNat : Int)) :=
  fun j hj => h.cells (g := g) rfl j _ (by simp [bcells, hj])
theorem bset_be (m k N : Nat) (hm : m < k) :
    (bcells (List.replicate (m + 1) 0 ++ be (k - (m + 1)) N)).set m (.int .u8 ((UInt8.ofNat (N / 256 ^ (k - (m + 1)) % 256)).toNat : Int)) = bcells (List.replicate m 0 ++ be (k - m) N) := by
  obtain ⟨j, hj⟩ : ∃ j, k - m = j + 1 := ⟨k - m - 1, by omega⟩
  have hj' : k - (m + 1) = j := by omega
  rw [hj, hj', be_front, List.replicate_succ']
  simp [bcells]

/-- what both PutInt return -/
def putB (n k : Int) : ByteArray := if 1 ≤ k ∧ k ≤ 7 ∧ 0 ≤ n ∧ n < 256 ^ k.toNat then ⟨(be k.toNat n.toNat).toArray⟩ else ⟨#[]⟩
theorem putB_yes {n k : Int} (h1 : 1 ≤ k) (h2 : k ≤ 7) (h3 : 0 ≤ n) (h4 : n < 256 ^ k.toNat) : putB n k = ⟨(be k.toNat n.toNat).toArray⟩ := by
  unfold putB; rw [if_pos ⟨h1, h2, h3, h4⟩]
theorem putB_no {n k : Int} (h : ¬ (1 ≤ k ∧ k ≤ 7 ∧ 0 ≤ n ∧ n < 256 ^ k.toNat)) : putB n k = ⟨#[]⟩ := by
  unfold putB; rw [if_neg h]

theorem wrap_hi (j : Nat) (h1 : 1 ≤ j) (h7 : j ≤ 7) : wrap64 (wrap64 (2 ^ (8 * j)) - 1) = 256 ^ j - 1 := by
  have : j = 1 ∨ j = 2 ∨ j = 3 ∨ j = 4 ∨ j = 5 ∨ j = 6 ∨ j = 7 := by omega
  rcases this with rfl | rfl | rfl | rfl | rfl | rfl | rfl <;> decide +kernel
theorem pow_nat (k : Nat) : (256 : Int) ^ k = ((256 ^ k : Nat) : Int) := by simp
theorem pow_8 (K : Nat) : (2 : Int) ^ (8 * K) = ((256 ^ K : Nat) : Int) := by
  rw [Int.pow_mul]; simp
theorem shr_no {M K : Nat} (h : M < 256 ^ K) : ((M : Int) / 2 ^ (8 * K) != 0) = false := by
  rw [pow_8]
  have : (M : Int) / ((256 ^ K : Nat) : Int) = 0 := Int.ediv_eq_zero_of_lt (by omega) (by omega)
  rw [this]; rfl
theorem shr_yes {M K : Nat} (h : ¬ M < 256 ^ K) : ((M : Int) / 2 ^ (8 * K) != 0) = true := by
  rw [pow_8, ← Int.natCast_ediv]
  have h0 : 0 < M / 256 ^ K := Nat.div_pos (by omega) (Nat.pow_pos (by omega))
  rw [bne_iff_ne]
  omega

/-- what both GetInt return -/
def getI (s : ByteArray) : Int := if 1 ≤ s.size ∧ s.size ≤ 7 then (val s.data.toList : Int) else -1
theorem getI_yes {s : ByteArray} (h1 : 1 ≤ s.size) (h2 : s.size ≤ 7) : getI s = (val s.data.toList : Int) := by
  unfold getI; rw [if_pos ⟨h1, h2⟩]
theorem getI_no {s : ByteArray} (h : ¬ (1 ≤ s.size ∧ s.size ≤ 7)) : getI s = -1 := by
  unfold getI; rw [if_neg h]
theorem take_snoc (s : ByteArray) (k : Nat) (h : k < s.size) : s.data.toList.take (k + 1) = s.data.toList.take k ++ [s[k]] := by
  rw [List.take_succ_eq_append_getElem (by simpa using h)]; rfl
theorem val_take (s : ByteArray) (k : Nat) (h : k < s.size) : val (s.data.toList.take (k + 1)) = 256 * val (s.data.toList.take k) + s[k].toNat := by
  rw [take_snoc s k h, val_snoc]
theorem val_take_lt (s : ByteArray) (k : Nat) (h : k ≤ 6) : val (s.data.toList.take k) < 281474976710656 := by
  have h1 := val_lt (s.data.toList.take k)
  have h2 : (s.data.toList.take k).length ≤ 6 := by rw [List.length_take]; omega
  exact Nat.lt_of_lt_of_le h1 (Nat.le_trans (Nat.pow_le_pow_right (by omega) h2) (by decide))

theorem ofInt_i64 (a : Nat) (ha : a < 9223372036854775808) : (BitVec.ofInt 64 (a : Int)).toNat = a := by
  rw [BitVec.ofInt_natCast, BitVec.toNat_ofNat]; exact Nat.mod_eq_of_lt (by omega)
theorem or_byte (v b : Nat) (hv : v < 281474976710656) (hb : b < 256) : bits .or .i64 (v * 256 : Int) (b : Int) = ((256 * v + b : Nat) : Int) := by
  have e : ((v : Int) * 256) = ((2 ^ 8 * v : Nat) : Int) := by omega
  have hx : 2 ^ 8 * v ||| b < 2 ^ 63 := Nat.or_lt_two_pow (by omega) (by omega)
  rw [e]
  show IntKind.i64.wrap ((BitVec.ofInt 64 ((2 ^ 8 * v : Nat) : Int) ||| BitVec.ofInt 64 (b : Int)).toNat : Int) = _
  rw [BitVec.toNat_or, ofInt_i64 _ (by omega), ofInt_i64 b (by omega), IntKind.wrap_i64]
  have h2 := Nat.two_pow_add_eq_or_of_lt (i := 8) (by omega : b < 2 ^ 8) v
  omega

end Go.Proofs.Ytempggikcpminaa
