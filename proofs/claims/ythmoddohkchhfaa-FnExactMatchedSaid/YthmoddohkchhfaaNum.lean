/-
  The two programs' functions on numbers and their bytes, each with what it returns.
-/
import Derived.Test.YthmoddohkchhfaaKit
namespace Go.Proofs.Ythmoddohkchhfaa
open Go.RowKit Wire

def inB (lo n hi : Int) : Bool := decide (lo ≤ n) && decide (n ≤ hi)
theorem inB_yes {lo n hi : Int} (h1 : lo ≤ n) (h2 : n ≤ hi) : inB lo n hi = true := by simp [inB, h1, h2]
theorem inB_no {lo n hi : Int} (h : ¬ (lo ≤ n ∧ n ≤ hi)) : inB lo n hi = false := by
  unfold inB
  by_cases h1 : lo ≤ n
  · have h2 : ¬ n ≤ hi := fun k => h ⟨h1, k⟩
    simp [h2]
  · simp [h1]

theorem within_any (n lo hi : Int) (w : World) :
    Calls Try.prog 61 #[.int .i64 n, .int .i64 lo, .int .i64 hi] w fun e w' => e = .returned (.bool (inB lo n hi)) ∧ w = w' := by
  by_cases h1 : lo ≤ n <;> by_cases h2 : n ≤ hi
  all_goals
    go_enter Try.func61, Try.ntmps61
    go_wp2
    go_ret
    exact ⟨by simp [inB, h1, h2], rfl⟩
theorem l1In_any (n lo hi : Int) (w : World) :
    Calls Try.prog 58 #[.int .i64 n, .int .i64 lo, .int .i64 hi] w fun e w' => e = .returned (.bool (inB lo n hi)) ∧ w = w' := by
  by_cases h1 : lo ≤ n <;> by_cases h2 : n ≤ hi
  all_goals
    go_enter Try.func58, Try.ntmps58
    go_wp2
    go_ret
    exact ⟨by simp [inB, h1, h2], rfl⟩

/-- the cells of some bytes -/
def bcells (l : List UInt8) : List Value := l.map fun b => .int .u8 (b.toNat : Int)
theorem bcells_length (l : List UInt8) : (bcells l).length = l.length := by simp [bcells]
theorem u8_info : (Try.prog.info? 5).map (fun i => (i.zero, i.size, i.bytes)) = some (some (.int .u8 0), 1, 1) := by kernel_rfl


theorem div_step {q m k N : Nat} (h : Hid (q = N / 256 ^ (k - (m + 1)))) (hm : m + 1 ≤ k) : Hid (q / 256 = N / 256 ^ (k - m)) := by
  have h := h.out
  obtain ⟨j, hj⟩ : ∃ j, k - (m + 1) = j := ⟨_, rfl⟩
  have : k - m = j + 1 := by omega
  rw [hj] at h
  show _ = _
  rw [this, h, Nat.div_div_eq_div_mul, Nat.pow_succ]
theorem own_cell {w : World} {base : Nat} {e : TypeId} {g n cap : Nat} {xs : List Value} (h : w.ownsRow base e 1 (.slice (some ⟨g, 0, none⟩) n cap) n xs) (j : Nat) (hj : j < n) : ∃ u, w.cell? ⟨g, j, none⟩ = some u := by
  have hl : xs.length = n := by simpa using h.1
  exact ⟨xs[j]'(by omega), by rw [h.cellAt j (by omega), List.getElem?_eq_getElem]⟩
theorem own_bytes {w : World} {base : Nat} {e : TypeId} {g n cap : Nat} {l : List UInt8} (h : w.ownsRow base e 1 (.slice (some ⟨g, 0, none⟩) n cap) n (bcells l)) :
    ∀ j (hj : j < l.length), w.cell? ((⟨g, 0, none⟩ : Addr).add j) = some (.int .u8 (l[j].toNat : Int)) :=
  fun j hj => h.cells (g := g) rfl j _ (by simp [bcells, hj])
theorem bset_be (m k N : Nat) (hm : m < k) :
    (bcells (List.replicate (m + 1) 0 ++ be (k - (m + 1)) N)).set m (.int .u8 ((UInt8.ofNat (N / 256 ^ (k - (m + 1)) % 256)).toNat : Int)) = bcells (List.replicate m 0 ++ be (k - m) N) := by
  obtain ⟨j, hj⟩ : ∃ j, k - m = j + 1 := ⟨k - m - 1, by omega⟩
  have hj' : k - (m + 1) = j := by omega
  rw [hj, hj', be_front, List.replicate_succ']
  simp [bcells]

set_option maxHeartbeats 400000 in
set_option maxRecDepth 100000 in
theorem l1Put_any (N k : Nat) (w : World) (hk : 1 ≤ k) (hk7 : k ≤ 7) (hN : N < 256 ^ k) :
    Calls Try.prog 112 #[.int .i64 (N : Int), .int .i64 (k : Int)] w fun e w' => e = .returned (.string ⟨(be k N).toArray⟩) ∧ Below w.heap.size w w' := by
  obtain ⟨i0, hi, hz0, hz1, hz2⟩ := info_parts u8_info
  have hN2 : N < 72057594037927936 := Nat.lt_of_lt_of_le hN (Nat.le_trans (Nat.pow_le_pow_right (by omega) hk7) (by omega))
  clear hN
  go_enter Try.func112, Try.ntmps112
  go_wp2_with (at_make; refine wpList_make_full _ rfl _ _ 36 rfl w.heap.size 5 i0 (.int .u8 0) 1 Try.underlying36 hi hz0 hz1 _ _ _ _ k rfl rfl rfl rfl ?b2 ?b3 (Nat.le_refl _) ?_)
  case b2 => rw [hz2]; omega
  case b3 => unfold maxLen; omega
  intro w1 hown1 hgrow1
  have hown1' : w1.ownsRow w.heap.size 5 1 (.slice (some ⟨w.heap.size, 0, none⟩) k k) k (bcells (List.replicate k 0 ++ be (k - k) N)) := by
    have e : bcells (List.replicate k 0 ++ be (k - k) N) = (madeCells #[.int .u8 0] k).toList := by
      rw [toList_madeCells_one]
      simp [bcells, be]
    rw [e]; simpa using hown1
  clear hown1
  go_wp2
  go_loopw [0, 6] (fun n i wr => ∃ m q : Nat, m ≤ k ∧ q ≤ N ∧ Hid (q = N / 256 ^ (k - m)) ∧ i = .int .i64 ((m : Int) - 1) ∧ n = .int .i64 (q : Int) ∧
      wr.ownsRow w.heap.size 5 1 (.slice (some ⟨w.heap.size, 0, none⟩) k k) k (bcells (List.replicate m 0 ++ be (k - m) N)) ∧ Below w.heap.size w wr)
    (fun _ i _ => (intOf i + 1).toNat)
  case atStart =>
    exact ⟨k, N, Nat.le_refl _, Nat.le_refl _, by simp [Hid], rfl, rfl, hown1', (Below.refl _ _).grown hgrow1 (Nat.le_refl _) (fun k h => by cases h)⟩
  case round =>
    obtain ⟨m, q, hm, hq, hqe, rfl, rfl, hown, hb⟩ := hrel
    rcases m with _ | m
    · have hcv := run_convert_bytes_back (P := Try.prog) wr 36 9 5 ⟨w.heap.size, 0, none⟩ k (be k N) Try.underlying36 Try.underlying5 Try.underlying9 (own_bytes (by simpa using hown))
      rw [be_length] at hcv
      clear hqe hown
      go_wp2
      go_ret
      exact ⟨rfl, hb⟩
    · have e1 : (((m + 1 : Nat) : Int) - 1) = (m : Int) := by omega
      rw [e1]
      obtain ⟨u, hu⟩ := own_cell hown m (by omega)
      have hf := hown.frozenAt m
      obtain ⟨hown', hgr⟩ := hown.stored m (.int .u8 ((UInt8.ofNat (N / 256 ^ (k - (m + 1)) % 256)).toNat : Int))
      rw [bset_be m k N (by omega)] at hown'
      have hq2 := hqe.out
      have ev : ((UInt8.ofNat (N / 256 ^ (k - (m + 1)) % 256)).toNat : Int) = (q : Int) % 256 := by rw [← hq2]; simp
      rw [ev] at hown' hgr
      clear ev hq2
      go_wp2
      go_roundw
      case rel => exact ⟨m, q / 256, by omega, Nat.le_trans (Nat.div_le_self _ _) hq, div_step hqe (by omega), rfl, by go_num, hown', hb.grown hgr hb.size (fun k h => by cases h; exact Nat.le_refl _)⟩
      case measure => simp [intOf]

/-- what both PutInt return -/
def putB (n k : Int) : ByteArray := if 1 ≤ k ∧ k ≤ 7 ∧ 0 ≤ n ∧ n < 256 ^ k.toNat then ⟨(be k.toNat n.toNat).toArray⟩ else ⟨#[]⟩
theorem putB_yes {n k : Int} (h1 : 1 ≤ k) (h2 : k ≤ 7) (h3 : 0 ≤ n) (h4 : n < 256 ^ k.toNat) : putB n k = ⟨(be k.toNat n.toNat).toArray⟩ := by
  unfold putB; rw [if_pos ⟨h1, h2, h3, h4⟩]
theorem putB_no {n k : Int} (h : ¬ (1 ≤ k ∧ k ≤ 7 ∧ 0 ≤ n ∧ n < 256 ^ k.toNat)) : putB n k = ⟨#[]⟩ := by
  unfold putB; rw [if_neg h]

theorem wrap_hi (j : Nat) (h1 : 1 ≤ j) (h7 : j ≤ 7) : wrap64 (wrap64 (2 ^ (8 * j)) - 1) = 256 ^ j - 1 := by
  have : j = 1 ∨ j = 2 ∨ j = 3 ∨ j = 4 ∨ j = 5 ∨ j = 6 ∨ j = 7 := by omega
  rcases this with rfl | rfl | rfl | rfl | rfl | rfl | rfl <;> decide +kernel
theorem pow_nat (k : Nat) : (256 : Int) ^ k = ((256 ^ k : Nat) : Int) := by simp
theorem pow_8 (K : Nat) : (2 : Int) ^ (8 * K) = ((256 ^ K : Nat) : Int) := by
  rw [Int.pow_mul]; simp
theorem shr_no {M K : Nat} (h : M < 256 ^ K) : ((M : Int) / 2 ^ (8 * K) != 0) = false := by
  rw [pow_8]
  have : (M : Int) / ((256 ^ K : Nat) : Int) = 0 := Int.ediv_eq_zero_of_lt (by omega) (by omega)
  rw [this]; rfl
theorem shr_yes {M K : Nat} (h : ¬ M < 256 ^ K) : ((M : Int) / 2 ^ (8 * K) != 0) = true := by
  rw [pow_8, ← Int.natCast_ediv]
  have h0 : 0 < M / 256 ^ K := Nat.div_pos (by omega) (Nat.pow_pos (by omega))
  rw [bne_iff_ne]
  omega

set_option maxHeartbeats 800000 in
set_option maxRecDepth 100000 in
theorem impl_PutInt (n k : Int) (w : World) (hn : n ≤ 9223372036854775807) :
    Calls Try.prog 65 #[.int .i64 n, .int .i64 k] w fun e w' => e = .returned (.string (putB n k)) ∧ Below w.heap.size w w' := by
  by_cases h1 : 1 ≤ k ∧ k ≤ 7
  · have c1 := inB_yes h1.1 h1.2
    by_cases h3 : n < 0
    · rw [putB_no (n := n) (k := k) (by omega)]
      go_enter Try.func65, Try.ntmps65
      go_wp2_with fail
      refine (within_any _ _ _ _).mono ?_
      rintro e w' ⟨rfl, rfl⟩
      go_wp2_with fail
      go_ret
      exact ⟨rfl, Below.refl _ _⟩
    · obtain ⟨K, rfl⟩ := Int.eq_ofNat_of_zero_le (show 0 ≤ k by omega)
      obtain ⟨N, rfl⟩ := Int.eq_ofNat_of_zero_le (show 0 ≤ n by omega)
      by_cases hN : N < 256 ^ K
      · have hs := shr_no hN
        rw [putB_yes (n := N) (k := K) (by omega) (by omega) (by omega) (by rw [Int.toNat_natCast, pow_nat]; omega), Int.toNat_natCast, Int.toNat_natCast]
        obtain ⟨i0, hi, hz0, hz1, hz2⟩ := info_parts u8_info
        have hk : 1 ≤ K := by omega
        have hk7 : K ≤ 7 := by omega
        have hN2 : N < 72057594037927936 := Nat.lt_of_lt_of_le hN (Nat.le_trans (Nat.pow_le_pow_right (by omega) hk7) (by omega))
        clear hN hn
        go_enter Try.func65, Try.ntmps65
        go_wp2_with fail
        refine (within_any _ _ _ _).mono ?_
        rintro e w' ⟨rfl, rfl⟩
        go_wp2_with (at_make; refine wpList_make_full _ rfl _ _ 36 rfl w.heap.size 5 i0 (.int .u8 0) 1 Try.underlying36 hi hz0 hz1 _ _ _ _ K rfl rfl rfl rfl ?b2 ?b3 (Nat.le_refl _) ?_)
        case b2 => rw [hz2]; omega
        case b3 => unfold maxLen; omega
        intro w1 hown1 hgrow1
        have hown1' : w1.ownsRow w.heap.size 5 1 (.slice (some ⟨w.heap.size, 0, none⟩) K K) K (bcells (List.replicate K 0 ++ be (K - K) N)) := by
          have e : bcells (List.replicate K 0 ++ be (K - K) N) = (madeCells #[.int .u8 0] K).toList := by
            rw [toList_madeCells_one]
            simp [bcells, be]
          rw [e]; simpa using hown1
        clear hown1
        go_wp2
        go_loopw [0, 6] (fun n i wr => ∃ m q : Nat, m ≤ K ∧ q ≤ N ∧ Hid (q = N / 256 ^ (K - m)) ∧ i = .int .i64 ((m : Int) - 1) ∧ n = .int .i64 (q : Int) ∧
            wr.ownsRow w.heap.size 5 1 (.slice (some ⟨w.heap.size, 0, none⟩) K K) K (bcells (List.replicate m 0 ++ be (K - m) N)) ∧ Below w.heap.size w wr)
          (fun _ i _ => (intOf i + 1).toNat)
        case atStart =>
          exact ⟨K, N, Nat.le_refl _, Nat.le_refl _, by simp [Hid], rfl, rfl, hown1', (Below.refl _ _).grown hgrow1 (Nat.le_refl _) (fun k h => by cases h)⟩
        case round =>
          obtain ⟨m, q, hm, hq, hqe, rfl, rfl, hown, hb⟩ := hrel
          rcases m with _ | m
          · have hcv := run_convert_bytes_back (P := Try.prog) wr 36 9 5 ⟨w.heap.size, 0, none⟩ K (be K N) Try.underlying36 Try.underlying5 Try.underlying9 (own_bytes (by simpa using hown))
            rw [be_length] at hcv
            clear hqe hown
            go_wp2
            go_ret
            exact ⟨rfl, hb⟩
          · have e1 : (((m + 1 : Nat) : Int) - 1) = (m : Int) := by omega
            rw [e1]
            obtain ⟨u, hu⟩ := own_cell hown m (by omega)
            have hf := hown.frozenAt m
            obtain ⟨hown', hgr⟩ := hown.stored m (.int .u8 ((UInt8.ofNat (N / 256 ^ (K - (m + 1)) % 256)).toNat : Int))
            rw [bset_be m K N (by omega)] at hown'
            have hq2 := hqe.out
            have ev : ((UInt8.ofNat (N / 256 ^ (K - (m + 1)) % 256)).toNat : Int) = (q : Int) % 256 := by rw [← hq2]; simp
            rw [ev] at hown' hgr
            clear ev hq2
            go_wp2
            go_roundw
            case rel => exact ⟨m, q / 256, by omega, Nat.le_trans (Nat.div_le_self _ _) hq, div_step hqe (by omega), rfl, by go_num, hown', hb.grown hgr hb.size (fun k h => by cases h; exact Nat.le_refl _)⟩
            case measure => simp [intOf]
      · have hs := shr_yes hN
        rw [putB_no (n := N) (k := K) (by rw [Int.toNat_natCast, pow_nat]; omega)]
        clear hN
        go_enter Try.func65, Try.ntmps65
        go_wp2_with fail
        refine (within_any _ _ _ _).mono ?_
        rintro e w' ⟨rfl, rfl⟩
        go_wp2_with fail
        go_ret
        exact ⟨rfl, Below.refl _ _⟩
  · have c1 := inB_no h1
    rw [putB_no (n := n) (k := k) (fun h => h1 ⟨h.1, h.2.1⟩)]
    go_enter Try.func65, Try.ntmps65
    go_wp2_with fail
    refine (within_any _ _ _ _).mono ?_
    rintro e w' ⟨rfl, rfl⟩
    go_wp2_with fail
    go_ret
    exact ⟨rfl, Below.refl _ _⟩

/-- what both GetInt return -/
def getI (s : ByteArray) : Int := if 1 ≤ s.size ∧ s.size ≤ 7 then (val s.data.toList : Int) else -1
theorem getI_yes {s : ByteArray} (h1 : 1 ≤ s.size) (h2 : s.size ≤ 7) : getI s = (val s.data.toList : Int) := by
  unfold getI; rw [if_pos ⟨h1, h2⟩]
theorem getI_no {s : ByteArray} (h : ¬ (1 ≤ s.size ∧ s.size ≤ 7)) : getI s = -1 := by
  unfold getI; rw [if_neg h]
theorem take_snoc (s : ByteArray) (k : Nat) (h : k < s.size) : s.data.toList.take (k + 1) = s.data.toList.take k ++ [s[k]] := by
  rw [List.take_succ_eq_append_getElem (by simpa using h)]; rfl
theorem val_take (s : ByteArray) (k : Nat) (h : k < s.size) : val (s.data.toList.take (k + 1)) = 256 * val (s.data.toList.take k) + s[k].toNat := by
  rw [take_snoc s k h, val_snoc]
theorem val_take_lt (s : ByteArray) (k : Nat) (h : k ≤ 6) : val (s.data.toList.take k) < 281474976710656 := by
  have h1 := val_lt (s.data.toList.take k)
  have h2 : (s.data.toList.take k).length ≤ 6 := by rw [List.length_take]; omega
  exact Nat.lt_of_lt_of_le h1 (Nat.le_trans (Nat.pow_le_pow_right (by omega) h2) (by decide))

set_option maxHeartbeats 400000 in
set_option maxRecDepth 100000 in
theorem l1Get_any (s : ByteArray) (w : World) (h7 : s.size ≤ 7) :
    Calls Try.prog 113 #[.string s] w fun e w' => e = .returned (.int .i64 (val s.data.toList : Nat)) ∧ w = w' := by
  go_enter Try.func113, Try.ntmps113
  go_wp2
  go_loop [3, 4] (fun n i => ∃ k v : Nat, k ≤ s.size ∧ i = .int .i64 k ∧ Hid (v = val (s.data.toList.take k)) ∧ n = .int .i64 v) (fun _ i => s.size - (intOf i).toNat)
  case atStart => exact ⟨0, 0, Nat.zero_le _, rfl, rfl, rfl⟩
  case round =>
    obtain ⟨k, v, hk, rfl, hv, rfl⟩ := hrel
    by_cases hlt : k < s.size
    · have hb := val_take_lt s k (by omega)
      rw [← hv.out] at hb
      have hu := s[k].toNat_lt
      have hn : Hid (256 * v + s[k].toNat = val (s.data.toList.take (k + 1))) := by have := val_take s k hlt; rw [← hv.out] at this; exact this.symm
      go_wp2
      go_round
      case rel => exact ⟨k + 1, 256 * v + s[k].toNat, by omega, by go_num, hn, by go_num⟩
      case measure => simp [intOf]; omega
    · have e : v = val s.data.toList := by rw [hv.out, List.take_of_length_le (by simp; omega)]
      have E := Lib.hid e
      clear e
      go_wp2
      go_ret
      exact ⟨by rw [E.out]; rfl, rfl⟩

theorem ofInt_i64 (a : Nat) (ha : a < 9223372036854775808) : (BitVec.ofInt 64 (a : Int)).toNat = a := by
  rw [BitVec.ofInt_natCast, BitVec.toNat_ofNat]; exact Nat.mod_eq_of_lt (by omega)
theorem or_byte (v b : Nat) (hv : v < 281474976710656) (hb : b < 256) : bits .or .i64 (v * 256 : Int) (b : Int) = ((256 * v + b : Nat) : Int) := by
  have e : ((v : Int) * 256) = ((2 ^ 8 * v : Nat) : Int) := by omega
  have hx : 2 ^ 8 * v ||| b < 2 ^ 63 := Nat.or_lt_two_pow (by omega) (by omega)
  rw [e]
  show IntKind.i64.wrap ((BitVec.ofInt 64 ((2 ^ 8 * v : Nat) : Int) ||| BitVec.ofInt 64 (b : Int)).toNat : Int) = _
  rw [BitVec.toNat_or, ofInt_i64 _ (by omega), ofInt_i64 b (by omega), IntKind.wrap_i64]
  have h2 := Nat.two_pow_add_eq_or_of_lt (i := 8) (by omega : b < 2 ^ 8) v
  omega

set_option maxHeartbeats 400000 in
set_option maxRecDepth 100000 in
theorem impl_GetInt (s : ByteArray) (w : World) (hs : s.size ≤ maxLen) :
    Calls Try.prog 157 #[.string s] w fun e w' => e = .returned (.int .i64 (getI s)) ∧ w = w' := by
  unfold maxLen at hs
  by_cases h : 1 ≤ s.size ∧ s.size ≤ 7
  · obtain ⟨h1, h7⟩ := h
    rw [getI_yes h1 h7]
    go_enter Try.func157, Try.ntmps157
    go_wp2
    go_loop [3, 15] (fun n i => ∃ k v : Nat, k ≤ s.size ∧ i = .int .i64 k ∧ Hid (v = val (s.data.toList.take k)) ∧ n = .int .i64 v) (fun _ i => s.size - (intOf i).toNat)
    case atStart => exact ⟨0, 0, Nat.zero_le _, rfl, rfl, rfl⟩
    case round =>
      obtain ⟨k, v, hk, rfl, hv, rfl⟩ := hrel
      by_cases hlt : k < s.size
      · have hb := val_take_lt s k (by omega)
        rw [← hv.out] at hb
        have hu := s[k].toNat_lt
        have hn : Hid (256 * v + s[k].toNat = val (s.data.toList.take (k + 1))) := by have := val_take s k hlt; rw [← hv.out] at this; exact this.symm
        have ho := or_byte v s[k].toNat hb hu
        go_wp2
        go_round
        case rel => exact ⟨k + 1, 256 * v + s[k].toNat, by omega, by go_num, hn, by go_num⟩
        case measure => simp [intOf]; omega
      · have e : v = val s.data.toList := by rw [hv.out, List.take_of_length_le (by simp; omega)]
        have E := Lib.hid e
        clear e
        go_wp2
        go_ret
        exact ⟨by rw [E.out]; rfl, rfl⟩
  · rw [getI_no h]
    by_cases h1 : s.size < 1
    all_goals
      go_enter Try.func157, Try.ntmps157
      go_wp2
      go_ret
      exact ⟨rfl, rfl⟩
end Go.Proofs.Ythmoddohkchhfaa
