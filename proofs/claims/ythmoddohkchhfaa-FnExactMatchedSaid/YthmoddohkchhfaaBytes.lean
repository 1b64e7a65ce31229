/-
  A command's frame and a record's bytes, in both programs.
-/
import Derived.Test.YthmoddohkchhfaaCmdS
import Derived.Test.YthmoddohkchhfaaOwn
import Derived.Handy
import Derived.Deep.RegionHeld3
namespace Go.Proofs.Ythmoddohkchhfaa
open Go.RowKit Wire

/-- eight cells of one block -/
def Eight (w : World) (g : Nat) (a b c d e f h i : Int) : Prop :=
  w.cell? ⟨g, 0, none⟩ = some (.int .i64 a) ∧ w.cell? ⟨g, 1, none⟩ = some (.int .i64 b) ∧ w.cell? ⟨g, 2, none⟩ = some (.int .i64 c) ∧ w.cell? ⟨g, 3, none⟩ = some (.int .i64 d) ∧
  w.cell? ⟨g, 4, none⟩ = some (.int .i64 e) ∧ w.cell? ⟨g, 5, none⟩ = some (.int .i64 f) ∧ w.cell? ⟨g, 6, none⟩ = some (.int .i64 h) ∧ w.cell? ⟨g, 7, none⟩ = some (.int .i64 i)

/-- the frame of a command of which all fields fit -/
def frameL (a b c d e f g h : Nat) : List UInt8 := be 1 a ++ be 1 b ++ be 1 c ++ be 4 d ++ be 1 e ++ be 3 f ++ be 3 g ++ be 1 h
theorem frameL_eq (a b c d e f g h : Nat) : (⟨(be 1 a).toArray⟩ : ByteArray) ++ ⟨(be 1 b).toArray⟩ ++ ⟨(be 1 c).toArray⟩ ++ ⟨(be 4 d).toArray⟩ ++ ⟨(be 1 e).toArray⟩ ++ ⟨(be 3 f).toArray⟩ ++ ⟨(be 3 g).toArray⟩ ++ ⟨(be 1 h).toArray⟩ = ⟨(frameL a b c d e f g h).toArray⟩ := by
  simp only [ByteArray.mk_append_mk, frameL]

theorem put_any (N : Nat) (k : Int) (w : World) (h1 : 1 ≤ k) (h7 : k ≤ 7) (hN : N < 256 ^ k.toNat) :
    Calls Try.prog 112 #[.int .i64 (N : Int), .int .i64 k] w fun e w' => e = .returned (.string ⟨(be k.toNat N).toArray⟩) ∧ Below w.heap.size w w' := by
  obtain ⟨K, rfl⟩ := Int.eq_ofNat_of_zero_le (show 0 ≤ k by omega)
  rw [Int.toNat_natCast] at hN ⊢
  exact l1Put_any N K w (by omega) (by omega) hN
set_option maxHeartbeats 4000000 in
set_option maxRecDepth 100000 in
theorem l1Bytes_any (a b c d e f g h : Nat) (w : World) (ha : a < 256) (hb : b < 256) (hc : c < 256) (hd : d < 4294967296) (he : e < 256) (hf : f < 16777216) (hg : g < 16777216) (hh : h < 256) :
    Calls Try.prog 64 #[.agg #[.int .i64 a, .int .i64 b, .int .i64 c, .int .i64 d, .int .i64 e, .int .i64 f, .int .i64 g, .int .i64 h]] w
      fun x w' => x = .returned (.string ⟨(frameL a b c d e f g h).toArray⟩) ∧ Below w.heap.size w w' := by
  have l1 := fun n => be_length 1 n
  have l3 := fun n => be_length 3 n
  have l4 := fun n => be_length 4 n
  go_enter Try.func64, Try.ntmps64
  go_wp2_with fail
  go_region_held3 (fun w' => Below w.heap.size w w' ∧ w'.cell? ⟨w.heap.size, 0, none⟩ = some (.int .i64 a) ∧ w'.cell? ⟨w.heap.size, 1, none⟩ = some (.int .i64 b) ∧ w'.cell? ⟨w.heap.size, 2, none⟩ = some (.int .i64 c) ∧ w'.cell? ⟨w.heap.size, 3, none⟩ = some (.int .i64 d) ∧ w'.cell? ⟨w.heap.size, 4, none⟩ = some (.int .i64 e) ∧ w'.cell? ⟨w.heap.size, 5, none⟩ = some (.int .i64 f) ∧ w'.cell? ⟨w.heap.size, 6, none⟩ = some (.int .i64 g) ∧ w'.cell? ⟨w.heap.size, 7, none⟩ = some (.int .i64 h))
    ((((try dsimp only); repeat' apply And.intro) <;> (first | assumption | (refine below_later ?_ (by assumption); first | assumption | (simp only [*]; done) | (go_grown; done)) | (refine cell_later (by assumption) ?_; first | assumption | (simp only [*]; done) | (simp [go_sem]; done)) | (go_grown; done) | (simp [go_sem]; done))))
    ((go_at_call 112; refine (put_any _ _ _ (by omega) (by omega) (by simp; omega)).mono ?_; rintro e w' ⟨rfl, hb⟩))
  go_wp2
  go_ret
  refine ⟨by rw [← frameL_eq]; rfl, ?_⟩
  first | assumption | (simp only [*]; done)
theorem iput_any (N : Nat) (k : Int) (w : World) (h1 : 1 ≤ k) (h7 : k ≤ 7) (hN : N < 256 ^ k.toNat) :
    Calls Try.prog 65 #[.int .i64 (N : Int), .int .i64 k] w fun e w' => e = .returned (.string ⟨(be k.toNat N).toArray⟩) ∧ Below w.heap.size w w' := by
  obtain ⟨K, rfl⟩ := Int.eq_ofNat_of_zero_le (show 0 ≤ k by omega)
  rw [Int.toNat_natCast] at hN ⊢
  have hN2 : N < 72057594037927936 := Nat.lt_of_lt_of_le hN (Nat.le_trans (Nat.pow_le_pow_right (by omega) (show K ≤ 7 by omega)) (by omega))
  have hp := impl_PutInt (N : Int) (K : Int) w (by omega)
  rw [putB_yes h1 h7 (by omega) (by rw [Int.toNat_natCast, pow_nat]; omega), Int.toNat_natCast, Int.toNat_natCast] at hp
  exact hp
theorem fld_bound {u : Bool} {n lo hi : Int} (h : cfB u n lo hi = true) (h0 : 0 ≤ lo) (h1 : 0 ≤ hi) : 0 ≤ n ∧ n ≤ hi := by
  cases u
  · simp [cfB] at h; omega
  · simp [cfB, inB] at h; omega
theorem cmd_fits {a b c d e f g h : Int} (k : cmdB a b c d e f g h = true) :
    (0 ≤ a ∧ a ≤ 10) ∧ (0 ≤ b ∧ b ≤ 3) ∧ (0 ≤ c ∧ c ≤ 100) ∧ (0 ≤ d ∧ d ≤ 1000000000) ∧ (0 ≤ e ∧ e ≤ 2) ∧ (0 ≤ f ∧ f ≤ 1000000) ∧ (0 ≤ g ∧ g ≤ 1000000) ∧ (0 ≤ h ∧ h ≤ 3) := by
  unfold cmdB at k
  simp only [Bool.and_eq_true] at k
  obtain ⟨k1, k2, k3, k4, k5, k6, k7, k8⟩ := k
  simp [inB] at k1 k2
  exact ⟨by omega, fld_bound k3 (by omega) (by omega), by omega, fld_bound k4 (by omega) (by omega), fld_bound k5 (by omega) (by omega), fld_bound k6 (by omega) (by omega), fld_bound k7 (by omega) (by omega), fld_bound k8 (by omega) (by omega)⟩
/-- what both CmdBytes return -/
def cmdBytesB (a b c d e f g h : Int) : ByteArray := if cmdB a b c d e f g h = true then ⟨(frameL a.toNat b.toNat c.toNat d.toNat e.toNat f.toNat g.toNat h.toNat).toArray⟩ else ⟨#[]⟩
set_option maxHeartbeats 1000000 in
set_option maxRecDepth 100000 in
theorem spec_CmdBytes (a b c d e f g h : Int) (w : World) :
    Calls Try.prog 17 #[.agg #[.int .i64 a, .int .i64 b, .int .i64 c, .int .i64 d, .int .i64 e, .int .i64 f, .int .i64 g, .int .i64 h]] w fun x w' => x = .returned (.string (cmdBytesB a b c d e f g h)) ∧ Below w.heap.size w w' := by
  by_cases k : cmdB a b c d e f g h = true
  · obtain ⟨ka, kb, kc, kd, ke, kf, kg, kh⟩ := cmd_fits k
    have hv : cmdBytesB a b c d e f g h = ⟨(frameL a.toNat b.toNat c.toNat d.toNat e.toNat f.toNat g.toNat h.toNat).toArray⟩ := by unfold cmdBytesB; rw [if_pos k]
    rw [hv]
    clear hv
    obtain ⟨a, rfl⟩ := Int.eq_ofNat_of_zero_le ka.1
    obtain ⟨b, rfl⟩ := Int.eq_ofNat_of_zero_le kb.1
    obtain ⟨c, rfl⟩ := Int.eq_ofNat_of_zero_le kc.1
    obtain ⟨d, rfl⟩ := Int.eq_ofNat_of_zero_le kd.1
    obtain ⟨e, rfl⟩ := Int.eq_ofNat_of_zero_le ke.1
    obtain ⟨f, rfl⟩ := Int.eq_ofNat_of_zero_le kf.1
    obtain ⟨g, rfl⟩ := Int.eq_ofNat_of_zero_le kg.1
    obtain ⟨h, rfl⟩ := Int.eq_ofNat_of_zero_le kh.1
    simp only [Int.toNat_natCast]
    go_enter Try.func17, Try.ntmps17
    go_wp2_with fail
    refine (spec_CmdOk _ _ _ _ _ _ _ _ _).mono ?_
    rintro x w1 ⟨rfl, hb1⟩
    have c0 := box_cell hb1 0
    have c1 := box_cell hb1 1
    have c2 := box_cell hb1 2
    have c3 := box_cell hb1 3
    have c4 := box_cell hb1 4
    have c5 := box_cell hb1 5
    have c6 := box_cell hb1 6
    have c7 := box_cell hb1 7
    simp at c0 c1 c2 c3 c4 c5 c6 c7
    go_wp2_with fail
    refine (l1Bytes_any _ _ _ _ _ _ _ _ _ (by omega) (by omega) (by omega) (by omega) (by omega) (by omega) (by omega) (by omega)).mono ?_
    rintro x w2 ⟨rfl, hb2⟩
    go_wp2_with fail
    go_ret
    exact ⟨rfl, below_later (below_alloc hb1) hb2⟩
  · have k : cmdB a b c d e f g h = false := by simpa using k
    have hv : cmdBytesB a b c d e f g h = ⟨#[]⟩ := by unfold cmdBytesB; rw [if_neg (by simp [k])]
    rw [hv]
    clear hv
    go_enter Try.func17, Try.ntmps17
    go_wp2_with fail
    refine (spec_CmdOk _ _ _ _ _ _ _ _ _).mono ?_
    rintro x w1 ⟨rfl, hb1⟩
    go_wp2_with fail
    go_ret
    exact ⟨rfl, below_alloc hb1⟩
set_option maxHeartbeats 4000000 in
set_option maxRecDepth 100000 in
theorem impl_CmdBytes (a b c d e f g h : Int) (w : World) :
    Calls Try.prog 18 #[.agg #[.int .i64 a, .int .i64 b, .int .i64 c, .int .i64 d, .int .i64 e, .int .i64 f, .int .i64 g, .int .i64 h]] w fun x w' => x = .returned (.string (cmdBytesB a b c d e f g h)) ∧ Below w.heap.size w w' := by
  by_cases k : cmdB a b c d e f g h = true
  · obtain ⟨ka, kb, kc, kd, ke, kf, kg, kh⟩ := cmd_fits k
    have hv : cmdBytesB a b c d e f g h = ⟨(frameL a.toNat b.toNat c.toNat d.toNat e.toNat f.toNat g.toNat h.toNat).toArray⟩ := by unfold cmdBytesB; rw [if_pos k]
    rw [hv]
    clear hv
    obtain ⟨a, rfl⟩ := Int.eq_ofNat_of_zero_le ka.1
    obtain ⟨b, rfl⟩ := Int.eq_ofNat_of_zero_le kb.1
    obtain ⟨c, rfl⟩ := Int.eq_ofNat_of_zero_le kc.1
    obtain ⟨d, rfl⟩ := Int.eq_ofNat_of_zero_le kd.1
    obtain ⟨e, rfl⟩ := Int.eq_ofNat_of_zero_le ke.1
    obtain ⟨f, rfl⟩ := Int.eq_ofNat_of_zero_le kf.1
    obtain ⟨g, rfl⟩ := Int.eq_ofNat_of_zero_le kg.1
    obtain ⟨h, rfl⟩ := Int.eq_ofNat_of_zero_le kh.1
    simp only [Int.toNat_natCast]
    have l1 := fun n => be_length 1 n
    have l3 := fun n => be_length 3 n
    have l4 := fun n => be_length 4 n
    go_enter Try.func18, Try.ntmps18
    go_wp2_with fail
    refine (impl_CmdOk _ _ _ _ _ _ _ _ _).mono ?_
    rintro x w1 ⟨rfl, hb1⟩
    have c0 := box_cell hb1 0
    have c1 := box_cell hb1 1
    have c2 := box_cell hb1 2
    have c3 := box_cell hb1 3
    have c4 := box_cell hb1 4
    have c5 := box_cell hb1 5
    have c6 := box_cell hb1 6
    have c7 := box_cell hb1 7
    simp at c0 c1 c2 c3 c4 c5 c6 c7
    have hw1 := below_alloc hb1
    clear hb1
    go_wp2_with fail
    go_region_held3 (fun w' => Below w.heap.size w w' ∧ w'.cell? ⟨w.heap.size, 0, none⟩ = some (.int .i64 a) ∧ w'.cell? ⟨w.heap.size, 1, none⟩ = some (.int .i64 b) ∧ w'.cell? ⟨w.heap.size, 2, none⟩ = some (.int .i64 c) ∧ w'.cell? ⟨w.heap.size, 3, none⟩ = some (.int .i64 d) ∧ w'.cell? ⟨w.heap.size, 4, none⟩ = some (.int .i64 e) ∧ w'.cell? ⟨w.heap.size, 5, none⟩ = some (.int .i64 f) ∧ w'.cell? ⟨w.heap.size, 6, none⟩ = some (.int .i64 g) ∧ w'.cell? ⟨w.heap.size, 7, none⟩ = some (.int .i64 h))
      ((((try dsimp only); repeat' apply And.intro) <;> (first | assumption | (refine below_later ?_ (by assumption); first | assumption | (simp only [*]; done) | (go_grown; done)) | (refine cell_later (by assumption) ?_; first | assumption | (simp only [*]; done) | (simp [go_sem]; done)) | (go_grown; done) | (simp [go_sem]; done))))
      ((go_at_call 65; refine (iput_any _ _ _ (by omega) (by omega) (by simp; omega)).mono ?_; rintro e w' ⟨rfl, hb⟩))
    go_wp2
    go_ret
    refine ⟨by rw [← frameL_eq]; rfl, ?_⟩
    first | assumption | (simp only [*]; done)
  · have k : cmdB a b c d e f g h = false := by simpa using k
    have hv : cmdBytesB a b c d e f g h = ⟨#[]⟩ := by unfold cmdBytesB; rw [if_neg (by simp [k])]
    rw [hv]
    clear hv
    go_enter Try.func18, Try.ntmps18
    go_wp2_with fail
    refine (impl_CmdOk _ _ _ _ _ _ _ _ _).mono ?_
    rintro x w1 ⟨rfl, hb1⟩
    go_wp2_with fail
    go_ret
    exact ⟨rfl, below_alloc hb1⟩
set_option maxRecDepth 100000 in
theorem toCmd_any (a b c d e f g h : Int) (w : World) :
    Calls Try.prog 15 #[.agg #[.int .i64 a, .int .i64 b, .int .i64 c, .int .i64 d, .int .i64 e, .int .i64 f, .int .i64 g, .int .i64 h]] w
      fun x w' => x = .returned (.agg #[.int .i64 a, .int .i64 b, .int .i64 c, .int .i64 d, .int .i64 e, .int .i64 f, .int .i64 g, .int .i64 h]) ∧ Below w.heap.size w w' := by
  go_enter Try.func15, Try.ntmps15
  go_wp2
  refine bodyPost_ret (v := .agg #[.int .i64 a, .int .i64 b, .int .i64 c, .int .i64 d, .int .i64 e, .int .i64 f, .int .i64 g, .int .i64 h]) (by simp [results, Try.results15, go_sem]) rfl ⟨rfl, ?_⟩
  go_grown
end Go.Proofs.Ythmoddohkchhfaa
