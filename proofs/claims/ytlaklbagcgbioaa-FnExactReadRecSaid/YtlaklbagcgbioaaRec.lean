/-
  Records: when one is right, its bytes, in both programs; the laws that hand over one command or one record.
-/
import Derived.Test.YtlaklbagcgbioaaBytes
namespace Go.Proofs.Ytlaklbagcgbioaa
open Go.RowKit Wire

def recB (a b c d e f g h : Int) : Bool := inB 0 a 1000000000 && (inB 1 b 5 && (inB 0 c 255 && (inB 0 d 255 && (inB 0 e 1000000000 && (inB 0 f 1000000000 && (inB 0 g 1000000 && (inB 0 h 1000000)))))))
def recL (a b c d e f g h : Nat) : List UInt8 := be 4 a ++ be 1 b ++ be 1 c ++ be 1 d ++ be 4 e ++ be 4 f ++ be 3 g ++ be 3 h
theorem recL_eq (a b c d e f g h : Nat) : (⟨(be 4 a).toArray⟩ : ByteArray) ++ ⟨(be 1 b).toArray⟩ ++ ⟨(be 1 c).toArray⟩ ++ ⟨(be 1 d).toArray⟩ ++ ⟨(be 4 e).toArray⟩ ++ ⟨(be 4 f).toArray⟩ ++ ⟨(be 3 g).toArray⟩ ++ ⟨(be 3 h).toArray⟩ = ⟨(recL a b c d e f g h).toArray⟩ := by
  simp only [ByteArray.mk_append_mk, recL]
theorem rec_fits {a b c d e f g h : Int} (k : recB a b c d e f g h = true) : (0 ≤ a ∧ a ≤ 1000000000) ∧ (0 ≤ b ∧ b ≤ 5) ∧ (0 ≤ c ∧ c ≤ 255) ∧ (0 ≤ d ∧ d ≤ 255) ∧ (0 ≤ e ∧ e ≤ 1000000000) ∧ (0 ≤ f ∧ f ≤ 1000000000) ∧ (0 ≤ g ∧ g ≤ 1000000) ∧ (0 ≤ h ∧ h ≤ 1000000) := by
  simp [recB, inB] at k
  omega
/-- what both RecBytes return -/
def recBytesB (a b c d e f g h : Int) : ByteArray := if recB a b c d e f g h = true then ⟨(recL a.toNat b.toNat c.toNat d.toNat e.toNat f.toNat g.toNat h.toNat).toArray⟩ else ⟨#[]⟩
set_option maxHeartbeats 800000 in
set_option maxRecDepth 100000 in
theorem impl_RecOk (a b c d e f g h : Int) (w : World) :
    Calls Try.prog 48 #[.agg #[.int .i64 a, .int .i64 b, .int .i64 c, .int .i64 d, .int .i64 e, .int .i64 f, .int .i64 g, .int .i64 h]] w fun x w' => x = .returned (.bool (recB a b c d e f g h)) ∧ Below w.heap.size w w' := by
  go_enter Try.func48, Try.ntmps48
  go_wp2_with (go_at_call 76; refine (within_any _ _ _ _).mono ?_; rintro e w' ⟨rfl, rfl⟩)
  all_goals
    go_ret
    refine ⟨ret_bool ?_, (Below.refl _ _).alloc (Nat.le_refl _) _⟩
    simp [recB, *]
set_option maxHeartbeats 800000 in
set_option maxRecDepth 100000 in
theorem spec_RecOk (a b c d e f g h : Int) (w : World) :
    Calls Try.prog 49 #[.agg #[.int .i64 a, .int .i64 b, .int .i64 c, .int .i64 d, .int .i64 e, .int .i64 f, .int .i64 g, .int .i64 h]] w fun x w' => x = .returned (.bool (recB a b c d e f g h)) ∧ Below w.heap.size w w' := by
  go_enter Try.func49, Try.ntmps49
  go_wp2_with (go_at_call 78; refine (l1In_any _ _ _ _).mono ?_; rintro e w' ⟨rfl, rfl⟩)
  all_goals
    go_ret
    refine ⟨ret_bool ?_, (Below.refl _ _).alloc (Nat.le_refl _) _⟩
    simp [recB, *]
set_option maxHeartbeats 4000000 in
set_option maxRecDepth 100000 in
theorem l1Rec_any (a b c d e f g h : Nat) (w : World) (ha : a < 4294967296) (hb : b < 256) (hc : c < 256) (hd : d < 256) (he : e < 4294967296) (hf : f < 4294967296) (hg : g < 16777216) (hh : h < 16777216) :
    Calls Try.prog 94 #[.agg #[.int .i64 a, .int .i64 b, .int .i64 c, .int .i64 d, .int .i64 e, .int .i64 f, .int .i64 g, .int .i64 h]] w fun x w' => x = .returned (.string ⟨(recL a b c d e f g h).toArray⟩) ∧ Below w.heap.size w w' := by
  have l1 := fun n => be_length 1 n
  have l3 := fun n => be_length 3 n
  have l4 := fun n => be_length 4 n
  go_enter Try.func94, Try.ntmps94
  go_wp2_with fail
  go_region_held3 (fun w' => Below w.heap.size w w' ∧ w'.cell? ⟨w.heap.size, 0, none⟩ = some (.int .i64 a) ∧ w'.cell? ⟨w.heap.size, 1, none⟩ = some (.int .i64 b) ∧ w'.cell? ⟨w.heap.size, 2, none⟩ = some (.int .i64 c) ∧ w'.cell? ⟨w.heap.size, 3, none⟩ = some (.int .i64 d) ∧ w'.cell? ⟨w.heap.size, 4, none⟩ = some (.int .i64 e) ∧ w'.cell? ⟨w.heap.size, 5, none⟩ = some (.int .i64 f) ∧ w'.cell? ⟨w.heap.size, 6, none⟩ = some (.int .i64 g) ∧ w'.cell? ⟨w.heap.size, 7, none⟩ = some (.int .i64 h))
    ((((try dsimp only); repeat' apply And.intro) <;> (first | assumption | (refine below_later ?_ (by assumption); first | assumption | (simp only [*]; done) | (go_grown; done)) | (refine cell_later (by assumption) ?_; first | assumption | (simp only [*]; done) | (simp [go_sem]; done)) | (go_grown; done) | (simp [go_sem]; done))))
    ((go_at_call 79; refine (put_any _ _ _ (by omega) (by omega) (by simp; omega)).mono ?_; rintro e w' ⟨rfl, hb⟩))
  go_wp2
  go_ret
  refine ⟨by rw [← recL_eq]; rfl, ?_⟩
  first | assumption | (simp only [*]; done)
set_option maxHeartbeats 4000000 in
set_option maxRecDepth 100000 in
theorem spec_RecBytes (a b c d e f g h : Int) (w : World) :
    Calls Try.prog 47 #[.agg #[.int .i64 a, .int .i64 b, .int .i64 c, .int .i64 d, .int .i64 e, .int .i64 f, .int .i64 g, .int .i64 h]] w fun x w' => x = .returned (.string (recBytesB a b c d e f g h)) ∧ Below w.heap.size w w' := by
  by_cases k : recB a b c d e f g h = true
  · obtain ⟨ka, kb, kc, kd, ke, kf, kg, kh⟩ := rec_fits k
    have hv : recBytesB a b c d e f g h = ⟨(recL a.toNat b.toNat c.toNat d.toNat e.toNat f.toNat g.toNat h.toNat).toArray⟩ := by unfold recBytesB; rw [if_pos k]
    rw [hv]
    clear hv
    obtain ⟨a, rfl⟩ := Int.eq_ofNat_of_zero_le ka.1
    obtain ⟨b, rfl⟩ := Int.eq_ofNat_of_zero_le kb.1
    obtain ⟨c, rfl⟩ := Int.eq_ofNat_of_zero_le kc.1
    obtain ⟨d, rfl⟩ := Int.eq_ofNat_of_zero_le kd.1
    obtain ⟨e, rfl⟩ := Int.eq_ofNat_of_zero_le ke.1
    obtain ⟨f, rfl⟩ := Int.eq_ofNat_of_zero_le kf.1
    obtain ⟨g, rfl⟩ := Int.eq_ofNat_of_zero_le kg.1
    obtain ⟨h, rfl⟩ := Int.eq_ofNat_of_zero_le kh.1
    simp only [Int.toNat_natCast]
    go_enter Try.func47, Try.ntmps47
    go_wp2_with fail
    refine (spec_RecOk _ _ _ _ _ _ _ _ _).mono ?_
    rintro x w1 ⟨rfl, hb1⟩
    have c0 := box_cell hb1 0
    have c1 := box_cell hb1 1
    have c2 := box_cell hb1 2
    have c3 := box_cell hb1 3
    have c4 := box_cell hb1 4
    have c5 := box_cell hb1 5
    have c6 := box_cell hb1 6
    have c7 := box_cell hb1 7
    simp at c0 c1 c2 c3 c4 c5 c6 c7
    go_wp2_with fail
    refine (l1Rec_any _ _ _ _ _ _ _ _ _ (by omega) (by omega) (by omega) (by omega) (by omega) (by omega) (by omega) (by omega)).mono ?_
    rintro x w2 ⟨rfl, hb2⟩
    go_wp2_with fail
    go_ret
    exact ⟨rfl, below_later (below_alloc hb1) hb2⟩
  · have k : recB a b c d e f g h = false := by simpa using k
    have hv : recBytesB a b c d e f g h = ⟨#[]⟩ := by unfold recBytesB; rw [if_neg (by simp [k])]
    rw [hv]
    clear hv
    go_enter Try.func47, Try.ntmps47
    go_wp2_with fail
    refine (spec_RecOk _ _ _ _ _ _ _ _ _).mono ?_
    rintro x w1 ⟨rfl, hb1⟩
    go_wp2_with fail
    go_ret
    exact ⟨rfl, below_alloc hb1⟩
set_option maxHeartbeats 4000000 in
set_option maxRecDepth 100000 in
theorem impl_RecBytes (a b c d e f g h : Int) (w : World) :
    Calls Try.prog 42 #[.agg #[.int .i64 a, .int .i64 b, .int .i64 c, .int .i64 d, .int .i64 e, .int .i64 f, .int .i64 g, .int .i64 h]] w fun x w' => x = .returned (.string (recBytesB a b c d e f g h)) ∧ Below w.heap.size w w' := by
  by_cases k : recB a b c d e f g h = true
  · obtain ⟨ka, kb, kc, kd, ke, kf, kg, kh⟩ := rec_fits k
    have hv : recBytesB a b c d e f g h = ⟨(recL a.toNat b.toNat c.toNat d.toNat e.toNat f.toNat g.toNat h.toNat).toArray⟩ := by unfold recBytesB; rw [if_pos k]
    rw [hv]
    clear hv
    obtain ⟨a, rfl⟩ := Int.eq_ofNat_of_zero_le ka.1
    obtain ⟨b, rfl⟩ := Int.eq_ofNat_of_zero_le kb.1
    obtain ⟨c, rfl⟩ := Int.eq_ofNat_of_zero_le kc.1
    obtain ⟨d, rfl⟩ := Int.eq_ofNat_of_zero_le kd.1
    obtain ⟨e, rfl⟩ := Int.eq_ofNat_of_zero_le ke.1
    obtain ⟨f, rfl⟩ := Int.eq_ofNat_of_zero_le kf.1
    obtain ⟨g, rfl⟩ := Int.eq_ofNat_of_zero_le kg.1
    obtain ⟨h, rfl⟩ := Int.eq_ofNat_of_zero_le kh.1
    simp only [Int.toNat_natCast]
    go_enter Try.func42, Try.ntmps42
    go_wp2_with fail
    refine (impl_RecOk _ _ _ _ _ _ _ _ _).mono ?_
    rintro x w1 ⟨rfl, hb1⟩
    have c0 := box_cell hb1 0
    have c1 := box_cell hb1 1
    have c2 := box_cell hb1 2
    have c3 := box_cell hb1 3
    have c4 := box_cell hb1 4
    have c5 := box_cell hb1 5
    have c6 := box_cell hb1 6
    have c7 := box_cell hb1 7
    simp at c0 c1 c2 c3 c4 c5 c6 c7
    have hw1 := below_alloc hb1
    clear hb1
    have l1 := fun n => be_length 1 n
    have l3 := fun n => be_length 3 n
    have l4 := fun n => be_length 4 n
    go_wp2_with fail
    go_region_held3 (fun w' => Below w.heap.size w w' ∧ w'.cell? ⟨w.heap.size, 0, none⟩ = some (.int .i64 a) ∧ w'.cell? ⟨w.heap.size, 1, none⟩ = some (.int .i64 b) ∧ w'.cell? ⟨w.heap.size, 2, none⟩ = some (.int .i64 c) ∧ w'.cell? ⟨w.heap.size, 3, none⟩ = some (.int .i64 d) ∧ w'.cell? ⟨w.heap.size, 4, none⟩ = some (.int .i64 e) ∧ w'.cell? ⟨w.heap.size, 5, none⟩ = some (.int .i64 f) ∧ w'.cell? ⟨w.heap.size, 6, none⟩ = some (.int .i64 g) ∧ w'.cell? ⟨w.heap.size, 7, none⟩ = some (.int .i64 h))
      ((((try dsimp only); repeat' apply And.intro) <;> (first | assumption | (refine below_later ?_ (by assumption); first | assumption | (simp only [*]; done) | (go_grown; done)) | (refine cell_later (by assumption) ?_; first | assumption | (simp only [*]; done) | (simp [go_sem]; done)) | (go_grown; done) | (simp [go_sem]; done))))
      ((go_at_call 23; refine (iput_any _ _ _ (by omega) (by omega) (by simp; omega)).mono ?_; rintro e w' ⟨rfl, hb⟩))
    go_wp2
    go_ret
    refine ⟨by rw [← recL_eq]; rfl, ?_⟩
    first | assumption | (simp only [*]; done)
  · have k : recB a b c d e f g h = false := by simpa using k
    have hv : recBytesB a b c d e f g h = ⟨#[]⟩ := by unfold recBytesB; rw [if_neg (by simp [k])]
    rw [hv]
    clear hv
    go_enter Try.func42, Try.ntmps42
    go_wp2_with fail
    refine (impl_RecOk _ _ _ _ _ _ _ _ _).mono ?_
    rintro x w1 ⟨rfl, hb1⟩
    go_wp2_with fail
    go_ret
    exact ⟨rfl, below_alloc hb1⟩
set_option maxRecDepth 100000 in
theorem toRec_any (a b c d e f g h : Int) (w : World) :
    Calls Try.prog 62 #[.agg #[.int .i64 a, .int .i64 b, .int .i64 c, .int .i64 d, .int .i64 e, .int .i64 f, .int .i64 g, .int .i64 h]] w fun x w' => x = .returned (.agg #[.int .i64 a, .int .i64 b, .int .i64 c, .int .i64 d, .int .i64 e, .int .i64 f, .int .i64 g, .int .i64 h]) ∧ Below w.heap.size w w' := by
  go_enter Try.func62, Try.ntmps62
  go_wp2
  refine bodyPost_ret (v := .agg #[.int .i64 a, .int .i64 b, .int .i64 c, .int .i64 d, .int .i64 e, .int .i64 f, .int .i64 g, .int .i64 h]) (by simp [results, Try.results62, go_sem]) rfl ⟨rfl, ?_⟩
  go_grown
set_option maxRecDepth 100000 in
set_option maxHeartbeats 400000 in
theorem law_CmdBytes (a b c d e f g h : Int) (w : World) :
    Calls Try.prog 11 #[.agg #[.int .i64 a, .int .i64 b, .int .i64 c, .int .i64 d, .int .i64 e, .int .i64 f, .int .i64 g, .int .i64 h]] w fun x w' => x = .returned (.bool true) ∧ Below w.heap.size w w' := by
  go_enter Try.func11, Try.ntmps11
  go_wp2_with fail
  refine (toCmd_any _ _ _ _ _ _ _ _ _).mono ?_
  rintro x w1 ⟨rfl, hb1⟩
  go_wp2_with fail
  refine (spec_CmdBytes _ _ _ _ _ _ _ _ _).mono ?_
  rintro x w2 ⟨rfl, hb2⟩
  have hb1 := hb1.trans (hb2.mono hb1.size)
  clear hb2
  have c0 := box_cell hb1 0
  have c1 := box_cell hb1 1
  have c2 := box_cell hb1 2
  have c3 := box_cell hb1 3
  have c4 := box_cell hb1 4
  have c5 := box_cell hb1 5
  have c6 := box_cell hb1 6
  have c7 := box_cell hb1 7
  simp at c0 c1 c2 c3 c4 c5 c6 c7
  go_wp2_with fail
  refine (toCmd_any _ _ _ _ _ _ _ _ _).mono ?_
  rintro x w3 ⟨rfl, hb3⟩
  go_wp2_with fail
  refine (impl_CmdBytes _ _ _ _ _ _ _ _ _).mono ?_
  rintro x w4 ⟨rfl, hb4⟩
  go_wp2_with fail
  go_ret
  exact ⟨by first | rfl | simp, below_later (below_alloc hb1) (below_later hb3 hb4)⟩
set_option maxRecDepth 100000 in
set_option maxHeartbeats 400000 in
theorem law_RecOk (a b c d e f g h : Int) (w : World) :
    Calls Try.prog 14 #[.agg #[.int .i64 a, .int .i64 b, .int .i64 c, .int .i64 d, .int .i64 e, .int .i64 f, .int .i64 g, .int .i64 h]] w fun x w' => x = .returned (.bool true) ∧ Below w.heap.size w w' := by
  go_enter Try.func14, Try.ntmps14
  go_wp2_with fail
  refine (toRec_any _ _ _ _ _ _ _ _ _).mono ?_
  rintro x w1 ⟨rfl, hb1⟩
  go_wp2_with fail
  refine (spec_RecOk _ _ _ _ _ _ _ _ _).mono ?_
  rintro x w2 ⟨rfl, hb2⟩
  have hb1 := hb1.trans (hb2.mono hb1.size)
  clear hb2
  have c0 := box_cell hb1 0
  have c1 := box_cell hb1 1
  have c2 := box_cell hb1 2
  have c3 := box_cell hb1 3
  have c4 := box_cell hb1 4
  have c5 := box_cell hb1 5
  have c6 := box_cell hb1 6
  have c7 := box_cell hb1 7
  simp at c0 c1 c2 c3 c4 c5 c6 c7
  go_wp2_with fail
  refine (toRec_any _ _ _ _ _ _ _ _ _).mono ?_
  rintro x w3 ⟨rfl, hb3⟩
  go_wp2_with fail
  refine (impl_RecOk _ _ _ _ _ _ _ _ _).mono ?_
  rintro x w4 ⟨rfl, hb4⟩
  go_wp2_with fail
  go_ret
  exact ⟨by first | rfl | simp, below_later (below_alloc hb1) (below_later hb3 hb4)⟩
set_option maxRecDepth 100000 in
set_option maxHeartbeats 400000 in
theorem law_RecBytes (a b c d e f g h : Int) (w : World) :
    Calls Try.prog 15 #[.agg #[.int .i64 a, .int .i64 b, .int .i64 c, .int .i64 d, .int .i64 e, .int .i64 f, .int .i64 g, .int .i64 h]] w fun x w' => x = .returned (.bool true) ∧ Below w.heap.size w w' := by
  go_enter Try.func15, Try.ntmps15
  go_wp2_with fail
  refine (toRec_any _ _ _ _ _ _ _ _ _).mono ?_
  rintro x w1 ⟨rfl, hb1⟩
  go_wp2_with fail
  refine (spec_RecBytes _ _ _ _ _ _ _ _ _).mono ?_
  rintro x w2 ⟨rfl, hb2⟩
  have hb1 := hb1.trans (hb2.mono hb1.size)
  clear hb2
  have c0 := box_cell hb1 0
  have c1 := box_cell hb1 1
  have c2 := box_cell hb1 2
  have c3 := box_cell hb1 3
  have c4 := box_cell hb1 4
  have c5 := box_cell hb1 5
  have c6 := box_cell hb1 6
  have c7 := box_cell hb1 7
  simp at c0 c1 c2 c3 c4 c5 c6 c7
  go_wp2_with fail
  refine (toRec_any _ _ _ _ _ _ _ _ _).mono ?_
  rintro x w3 ⟨rfl, hb3⟩
  go_wp2_with fail
  refine (impl_RecBytes _ _ _ _ _ _ _ _ _).mono ?_
  rintro x w4 ⟨rfl, hb4⟩
  go_wp2_with fail
  go_ret
  exact ⟨by first | rfl | simp, below_later (below_alloc hb1) (below_later hb3 hb4)⟩
end Go.Proofs.Ytlaklbagcgbioaa
