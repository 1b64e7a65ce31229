/-
  Reading one command or one record (one of the two), in the specification's program, and the laws on it.
-/
import Derived.Test.YthmoddohkchhfaaRead
import Derived.Deep.DeepCutAuto
namespace Go.Proofs.Ythmoddohkchhfaa
open Go.RowKit Wire

set_option maxHeartbeats 800000 in
set_option maxRecDepth 100000 in
theorem spec_Cmd_yes (s : ByteArray) (w : World) (hs : s.size = 15) (hk : cmdB (fld s 0 1 : Nat) (fld s 1 1 : Nat) (fld s 2 1 : Nat) (fld s 3 4 : Nat) (fld s 7 1 : Nat) (fld s 8 3 : Nat) (fld s 11 3 : Nat) (fld s 14 1 : Nat) = true) :
    Calls Try.prog 66 #[.string s] w fun e w' => e = .returned (.agg #[.int .i64 (fld s 0 1 : Nat), .int .i64 (fld s 1 1 : Nat), .int .i64 (fld s 2 1 : Nat), .int .i64 (fld s 3 4 : Nat), .int .i64 (fld s 7 1 : Nat), .int .i64 (fld s 8 3 : Nat), .int .i64 (fld s 11 3 : Nat), .int .i64 (fld s 14 1 : Nat)]) ∧ Below w.heap.size w w' := by
  go_enter Try.func66, Try.ntmps66
  go_upto_region 3 with fail
  go_cut [3] (fun s3 wx => s3 = .pointer (some ⟨w.heap.size + 1, 0, none⟩) ∧ wx = ((w.alloc (.cells #[.int .i64 0, .int .i64 0, .int .i64 0, .int .i64 0, .int .i64 0, .int .i64 0, .int .i64 0, .int .i64 0] 25)).alloc (.cells #[.int .i64 (fld s 0 1 : Nat), .int .i64 (fld s 1 1 : Nat), .int .i64 (fld s 2 1 : Nat), .int .i64 (fld s 3 4 : Nat), .int .i64 (fld s 7 1 : Nat), .int .i64 (fld s 8 3 : Nat), .int .i64 (fld s 11 3 : Nat), .int .i64 (fld s 14 1 : Nat)] 25)).drew)
  case first =>
    go_region_held3 (fun w' => Below w.heap.size w w' ∧ True)
      ((((try dsimp only); repeat' apply And.intro) <;> (first | assumption | (refine below_later ?_ (by assumption); first | assumption | (simp only [*]; done) | (go_grown; done)) | (refine cell_later (by assumption) ?_; first | assumption | (simp only [*]; done) | (simp [go_sem]; done)) | (go_grown; done) | (simp [go_sem]; done))))
      ((go_at_call 113; refine (get_part s _ _ _ (by omega) (by omega)).mono ?_; rintro e w' ⟨rfl, rfl⟩))
    all_goals (go_wp2_with fail; go_meet; exact ⟨rfl, rfl⟩)
  case rest =>
    obtain ⟨rfl, rfl⟩ := hcut
    go_wp2_with fail
    refine (spec_CmdOk _ _ _ _ _ _ _ _ _).mono ?_
    rintro e w1 ⟨rfl, hb⟩
    have r0 : w1.cell? ⟨w.heap.size, 0, none⟩ = some (.int .i64 0) := (hb.cell (p := ⟨w.heap.size, 0, none⟩) (by simp; omega)).trans (by simp [go_sem])
    have r1 : w1.cell? ⟨w.heap.size, 1, none⟩ = some (.int .i64 0) := (hb.cell (p := ⟨w.heap.size, 1, none⟩) (by simp; omega)).trans (by simp [go_sem])
    have r2 : w1.cell? ⟨w.heap.size, 2, none⟩ = some (.int .i64 0) := (hb.cell (p := ⟨w.heap.size, 2, none⟩) (by simp; omega)).trans (by simp [go_sem])
    have r3 : w1.cell? ⟨w.heap.size, 3, none⟩ = some (.int .i64 0) := (hb.cell (p := ⟨w.heap.size, 3, none⟩) (by simp; omega)).trans (by simp [go_sem])
    have r4 : w1.cell? ⟨w.heap.size, 4, none⟩ = some (.int .i64 0) := (hb.cell (p := ⟨w.heap.size, 4, none⟩) (by simp; omega)).trans (by simp [go_sem])
    have r5 : w1.cell? ⟨w.heap.size, 5, none⟩ = some (.int .i64 0) := (hb.cell (p := ⟨w.heap.size, 5, none⟩) (by simp; omega)).trans (by simp [go_sem])
    have r6 : w1.cell? ⟨w.heap.size, 6, none⟩ = some (.int .i64 0) := (hb.cell (p := ⟨w.heap.size, 6, none⟩) (by simp; omega)).trans (by simp [go_sem])
    have r7 : w1.cell? ⟨w.heap.size, 7, none⟩ = some (.int .i64 0) := (hb.cell (p := ⟨w.heap.size, 7, none⟩) (by simp; omega)).trans (by simp [go_sem])
    have u0 : w1.cell? ⟨w.heap.size + 1, 0, none⟩ = some (.int .i64 (fld s 0 1 : Nat)) := (hb.cell (p := ⟨w.heap.size + 1, 0, none⟩) (by simp)).trans (by simp [go_sem])
    have u1 : w1.cell? ⟨w.heap.size + 1, 1, none⟩ = some (.int .i64 (fld s 1 1 : Nat)) := (hb.cell (p := ⟨w.heap.size + 1, 1, none⟩) (by simp)).trans (by simp [go_sem])
    have u2 : w1.cell? ⟨w.heap.size + 1, 2, none⟩ = some (.int .i64 (fld s 2 1 : Nat)) := (hb.cell (p := ⟨w.heap.size + 1, 2, none⟩) (by simp)).trans (by simp [go_sem])
    have u3 : w1.cell? ⟨w.heap.size + 1, 3, none⟩ = some (.int .i64 (fld s 3 4 : Nat)) := (hb.cell (p := ⟨w.heap.size + 1, 3, none⟩) (by simp)).trans (by simp [go_sem])
    have u4 : w1.cell? ⟨w.heap.size + 1, 4, none⟩ = some (.int .i64 (fld s 7 1 : Nat)) := (hb.cell (p := ⟨w.heap.size + 1, 4, none⟩) (by simp)).trans (by simp [go_sem])
    have u5 : w1.cell? ⟨w.heap.size + 1, 5, none⟩ = some (.int .i64 (fld s 8 3 : Nat)) := (hb.cell (p := ⟨w.heap.size + 1, 5, none⟩) (by simp)).trans (by simp [go_sem])
    have u6 : w1.cell? ⟨w.heap.size + 1, 6, none⟩ = some (.int .i64 (fld s 11 3 : Nat)) := (hb.cell (p := ⟨w.heap.size + 1, 6, none⟩) (by simp)).trans (by simp [go_sem])
    have u7 : w1.cell? ⟨w.heap.size + 1, 7, none⟩ = some (.int .i64 (fld s 14 1 : Nat)) := (hb.cell (p := ⟨w.heap.size + 1, 7, none⟩) (by simp)).trans (by simp [go_sem])
    have f1 : ∀ j, w1.frozen? ⟨w.heap.size, j, none⟩ = false := fun j => (hb.frozen (p := ⟨w.heap.size, j, none⟩) (by simp; omega)).trans (by simp [go_sem])
    have hbw : Below w.heap.size w w1 := Below.trans (by go_grown) (hb.mono (by simp; omega))
    clear hb
    go_wp2_with fail
    refine bodyPost_ret (v := .agg #[.int .i64 (fld s 0 1 : Nat), .int .i64 (fld s 1 1 : Nat), .int .i64 (fld s 2 1 : Nat), .int .i64 (fld s 3 4 : Nat), .int .i64 (fld s 7 1 : Nat), .int .i64 (fld s 8 3 : Nat), .int .i64 (fld s 11 3 : Nat), .int .i64 (fld s 14 1 : Nat)]) (by simp [results, Try.results66, go_sem, r0, r1, r2, r3, r4, r5, r6, r7]) rfl ⟨rfl, ?_⟩
    repeat (refine Below.setCell ?_ (by simp) _)
    exact hbw
set_option maxHeartbeats 800000 in
set_option maxRecDepth 100000 in
theorem spec_Cmd_bad (s : ByteArray) (w : World) (hs : s.size = 15) (hk : cmdB (fld s 0 1 : Nat) (fld s 1 1 : Nat) (fld s 2 1 : Nat) (fld s 3 4 : Nat) (fld s 7 1 : Nat) (fld s 8 3 : Nat) (fld s 11 3 : Nat) (fld s 14 1 : Nat) = false) :
    Calls Try.prog 66 #[.string s] w fun e w' => e = .returned (.agg #[.int .i64 0, .int .i64 0, .int .i64 0, .int .i64 0, .int .i64 0, .int .i64 0, .int .i64 0, .int .i64 0]) ∧ Below w.heap.size w w' := by
  go_enter Try.func66, Try.ntmps66
  go_upto_region 3 with fail
  go_cut [3] (fun s3 wx => s3 = .pointer (some ⟨w.heap.size + 1, 0, none⟩) ∧ wx = ((w.alloc (.cells #[.int .i64 0, .int .i64 0, .int .i64 0, .int .i64 0, .int .i64 0, .int .i64 0, .int .i64 0, .int .i64 0] 25)).alloc (.cells #[.int .i64 (fld s 0 1 : Nat), .int .i64 (fld s 1 1 : Nat), .int .i64 (fld s 2 1 : Nat), .int .i64 (fld s 3 4 : Nat), .int .i64 (fld s 7 1 : Nat), .int .i64 (fld s 8 3 : Nat), .int .i64 (fld s 11 3 : Nat), .int .i64 (fld s 14 1 : Nat)] 25)).drew)
  case first =>
    go_region_held3 (fun w' => Below w.heap.size w w' ∧ True)
      ((((try dsimp only); repeat' apply And.intro) <;> (first | assumption | (refine below_later ?_ (by assumption); first | assumption | (simp only [*]; done) | (go_grown; done)) | (refine cell_later (by assumption) ?_; first | assumption | (simp only [*]; done) | (simp [go_sem]; done)) | (go_grown; done) | (simp [go_sem]; done))))
      ((go_at_call 113; refine (get_part s _ _ _ (by omega) (by omega)).mono ?_; rintro e w' ⟨rfl, rfl⟩))
    all_goals (go_wp2_with fail; go_meet; exact ⟨rfl, rfl⟩)
  case rest =>
    obtain ⟨rfl, rfl⟩ := hcut
    go_wp2_with fail
    refine (spec_CmdOk _ _ _ _ _ _ _ _ _).mono ?_
    rintro e w1 ⟨rfl, hb⟩
    have r0 : w1.cell? ⟨w.heap.size, 0, none⟩ = some (.int .i64 0) := (hb.cell (p := ⟨w.heap.size, 0, none⟩) (by simp; omega)).trans (by simp [go_sem])
    have r1 : w1.cell? ⟨w.heap.size, 1, none⟩ = some (.int .i64 0) := (hb.cell (p := ⟨w.heap.size, 1, none⟩) (by simp; omega)).trans (by simp [go_sem])
    have r2 : w1.cell? ⟨w.heap.size, 2, none⟩ = some (.int .i64 0) := (hb.cell (p := ⟨w.heap.size, 2, none⟩) (by simp; omega)).trans (by simp [go_sem])
    have r3 : w1.cell? ⟨w.heap.size, 3, none⟩ = some (.int .i64 0) := (hb.cell (p := ⟨w.heap.size, 3, none⟩) (by simp; omega)).trans (by simp [go_sem])
    have r4 : w1.cell? ⟨w.heap.size, 4, none⟩ = some (.int .i64 0) := (hb.cell (p := ⟨w.heap.size, 4, none⟩) (by simp; omega)).trans (by simp [go_sem])
    have r5 : w1.cell? ⟨w.heap.size, 5, none⟩ = some (.int .i64 0) := (hb.cell (p := ⟨w.heap.size, 5, none⟩) (by simp; omega)).trans (by simp [go_sem])
    have r6 : w1.cell? ⟨w.heap.size, 6, none⟩ = some (.int .i64 0) := (hb.cell (p := ⟨w.heap.size, 6, none⟩) (by simp; omega)).trans (by simp [go_sem])
    have r7 : w1.cell? ⟨w.heap.size, 7, none⟩ = some (.int .i64 0) := (hb.cell (p := ⟨w.heap.size, 7, none⟩) (by simp; omega)).trans (by simp [go_sem])
    have f1 : ∀ j, w1.frozen? ⟨w.heap.size, j, none⟩ = false := fun j => (hb.frozen (p := ⟨w.heap.size, j, none⟩) (by simp; omega)).trans (by simp [go_sem])
    have hbw : Below w.heap.size w w1 := Below.trans (by go_grown) (hb.mono (by simp; omega))
    clear hb
    go_wp2_with fail
    refine bodyPost_ret (v := .agg #[.int .i64 0, .int .i64 0, .int .i64 0, .int .i64 0, .int .i64 0, .int .i64 0, .int .i64 0, .int .i64 0]) (by simp [results, Try.results66, go_sem, r0, r1, r2, r3, r4, r5, r6, r7]) rfl ⟨rfl, ?_⟩
    repeat (refine Below.setCell ?_ (by simp) _)
    exact hbw
set_option maxHeartbeats 800000 in
set_option maxRecDepth 100000 in
theorem spec_Cmd_off (s : ByteArray) (w : World) (hs : s.size ≠ 15) (_hm : s.size ≤ maxLen) :
    Calls Try.prog 66 #[.string s] w fun e w' => e = .returned (.agg #[.int .i64 0, .int .i64 0, .int .i64 0, .int .i64 0, .int .i64 0, .int .i64 0, .int .i64 0, .int .i64 0]) ∧ Below w.heap.size w w' := by
  unfold maxLen at _hm
  have hn : ((s.size : Int) != 15) = true := by rw [bne_iff_ne]; omega
  clear hs
  go_enter Try.func66, Try.ntmps66
  go_wp2_with fail
  refine bodyPost_ret (v := .agg #[.int .i64 0, .int .i64 0, .int .i64 0, .int .i64 0, .int .i64 0, .int .i64 0, .int .i64 0, .int .i64 0]) (by simp [results, Try.results66, go_sem]) rfl ⟨rfl, ?_⟩
  go_grown
end Go.Proofs.Ythmoddohkchhfaa
