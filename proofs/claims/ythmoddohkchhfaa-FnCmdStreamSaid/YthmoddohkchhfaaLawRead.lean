/-
  The laws on reading one command and one record, walked through both programs.
-/
import Derived.Test.YthmoddohkchhfaaReadS
import Derived.Test.YthmoddohkchhfaaReadT
namespace Go.Proofs.Ythmoddohkchhfaa
open Go.RowKit Wire

set_option maxHeartbeats 800000 in
set_option maxRecDepth 100000 in
theorem eqCmd_same (a b c d e f g h : Int) (w : World) :
    Calls Try.prog 21 #[.agg #[.int .i64 a, .int .i64 b, .int .i64 c, .int .i64 d, .int .i64 e, .int .i64 f, .int .i64 g, .int .i64 h], .agg #[.int .i64 a, .int .i64 b, .int .i64 c, .int .i64 d, .int .i64 e, .int .i64 f, .int .i64 g, .int .i64 h]] w fun x w' => x = .returned (.bool true) ∧ Below w.heap.size w w' := by
  go_enter Try.func21, Try.ntmps21
  go_wp2
  go_ret
  exact ⟨rfl, by go_grown⟩
set_option maxHeartbeats 800000 in
set_option maxRecDepth 100000 in
theorem spec_ReadCmd_yes (s : ByteArray) (w : World) (hs : s.size = 15) (hk : cmdB (fld s 0 1 : Nat) (fld s 1 1 : Nat) (fld s 2 1 : Nat) (fld s 3 4 : Nat) (fld s 7 1 : Nat) (fld s 8 3 : Nat) (fld s 11 3 : Nat) (fld s 14 1 : Nat) = true) :
    Calls Try.prog 19 #[.string s] w fun e w' => e = .returned (.agg #[.int .i64 (fld s 0 1 : Nat), .int .i64 (fld s 1 1 : Nat), .int .i64 (fld s 2 1 : Nat), .int .i64 (fld s 3 4 : Nat), .int .i64 (fld s 7 1 : Nat), .int .i64 (fld s 8 3 : Nat), .int .i64 (fld s 11 3 : Nat), .int .i64 (fld s 14 1 : Nat)]) ∧ Below w.heap.size w w' := by
  go_enter Try.func19, Try.ntmps19
  go_wp2_with fail
  refine (spec_Cmd_yes s _ hs hk).mono ?_
  rintro e w1 ⟨rfl, hb⟩
  have r0 : w1.cell? ⟨w.heap.size, 0, none⟩ = some (.int .i64 0) := (box_cell hb 0).trans (by simp)
  have r1 : w1.cell? ⟨w.heap.size, 1, none⟩ = some (.int .i64 0) := (box_cell hb 1).trans (by simp)
  have r2 : w1.cell? ⟨w.heap.size, 2, none⟩ = some (.int .i64 0) := (box_cell hb 2).trans (by simp)
  have r3 : w1.cell? ⟨w.heap.size, 3, none⟩ = some (.int .i64 0) := (box_cell hb 3).trans (by simp)
  have r4 : w1.cell? ⟨w.heap.size, 4, none⟩ = some (.int .i64 0) := (box_cell hb 4).trans (by simp)
  have r5 : w1.cell? ⟨w.heap.size, 5, none⟩ = some (.int .i64 0) := (box_cell hb 5).trans (by simp)
  have r6 : w1.cell? ⟨w.heap.size, 6, none⟩ = some (.int .i64 0) := (box_cell hb 6).trans (by simp)
  have r7 : w1.cell? ⟨w.heap.size, 7, none⟩ = some (.int .i64 0) := (box_cell hb 7).trans (by simp)
  have f1 : ∀ j, w1.frozen? ⟨w.heap.size, j, none⟩ = false := fun j => (hb.frozen (p := ⟨w.heap.size, j, none⟩) (by simp)).trans (by simp)
  have hbw := below_alloc hb
  clear hb
  go_wp2_with fail
  refine bodyPost_ret (v := .agg #[.int .i64 (fld s 0 1 : Nat), .int .i64 (fld s 1 1 : Nat), .int .i64 (fld s 2 1 : Nat), .int .i64 (fld s 3 4 : Nat), .int .i64 (fld s 7 1 : Nat), .int .i64 (fld s 8 3 : Nat), .int .i64 (fld s 11 3 : Nat), .int .i64 (fld s 14 1 : Nat)]) (by simp [results, Try.results19, go_sem, r0, r1, r2, r3, r4, r5, r6, r7]) rfl ⟨rfl, ?_⟩
  repeat (refine Below.setCell ?_ (by simp) _)
  exact hbw
set_option maxHeartbeats 800000 in
set_option maxRecDepth 100000 in
theorem law_ReadCmd_yes (s : ByteArray) (w : World) (hs : s.size = 15) (hk : cmdB (fld s 0 1 : Nat) (fld s 1 1 : Nat) (fld s 2 1 : Nat) (fld s 3 4 : Nat) (fld s 7 1 : Nat) (fld s 8 3 : Nat) (fld s 11 3 : Nat) (fld s 14 1 : Nat) = true) (_hsz : ¬ 1048576 < s.size) :
    Calls Try.prog 5 #[.string s] w fun e w' => e = .returned (.bool true) ∧ Below w.heap.size w w' := by
  go_enter Try.func5, Try.ntmps5
  go_wp2_with fail
  refine (spec_ReadCmd_yes s _ hs hk).mono ?_
  rintro e w1 ⟨rfl, hb1⟩
  go_wp2_with fail
  refine (impl_ReadCmd_yes s _ hs hk).mono ?_
  rintro e w2 ⟨rfl, hb2⟩
  have hlt : w1.heap.size < w2.heap.size := by have := hb2.size; simp at this; omega
  go_upto_region 5 with (fail)
  have u0 : (w2.alloc (.cells #[.int .i64 (fld s 0 1 : Nat), .int .i64 (fld s 1 1 : Nat), .int .i64 (fld s 2 1 : Nat), .int .i64 (fld s 3 4 : Nat), .int .i64 (fld s 7 1 : Nat), .int .i64 (fld s 8 3 : Nat), .int .i64 (fld s 11 3 : Nat), .int .i64 (fld s 14 1 : Nat)] 25)).cell? ⟨w2.heap.size, 0, none⟩ = some (.int .i64 (fld s 0 1 : Nat)) := (World.cell?_alloc_mark w2 _ _ _ 0).trans (by simp)
  have u1 : (w2.alloc (.cells #[.int .i64 (fld s 0 1 : Nat), .int .i64 (fld s 1 1 : Nat), .int .i64 (fld s 2 1 : Nat), .int .i64 (fld s 3 4 : Nat), .int .i64 (fld s 7 1 : Nat), .int .i64 (fld s 8 3 : Nat), .int .i64 (fld s 11 3 : Nat), .int .i64 (fld s 14 1 : Nat)] 25)).cell? ⟨w2.heap.size, 1, none⟩ = some (.int .i64 (fld s 1 1 : Nat)) := (World.cell?_alloc_mark w2 _ _ _ 1).trans (by simp)
  have u2 : (w2.alloc (.cells #[.int .i64 (fld s 0 1 : Nat), .int .i64 (fld s 1 1 : Nat), .int .i64 (fld s 2 1 : Nat), .int .i64 (fld s 3 4 : Nat), .int .i64 (fld s 7 1 : Nat), .int .i64 (fld s 8 3 : Nat), .int .i64 (fld s 11 3 : Nat), .int .i64 (fld s 14 1 : Nat)] 25)).cell? ⟨w2.heap.size, 2, none⟩ = some (.int .i64 (fld s 2 1 : Nat)) := (World.cell?_alloc_mark w2 _ _ _ 2).trans (by simp)
  have u3 : (w2.alloc (.cells #[.int .i64 (fld s 0 1 : Nat), .int .i64 (fld s 1 1 : Nat), .int .i64 (fld s 2 1 : Nat), .int .i64 (fld s 3 4 : Nat), .int .i64 (fld s 7 1 : Nat), .int .i64 (fld s 8 3 : Nat), .int .i64 (fld s 11 3 : Nat), .int .i64 (fld s 14 1 : Nat)] 25)).cell? ⟨w2.heap.size, 3, none⟩ = some (.int .i64 (fld s 3 4 : Nat)) := (World.cell?_alloc_mark w2 _ _ _ 3).trans (by simp)
  have u4 : (w2.alloc (.cells #[.int .i64 (fld s 0 1 : Nat), .int .i64 (fld s 1 1 : Nat), .int .i64 (fld s 2 1 : Nat), .int .i64 (fld s 3 4 : Nat), .int .i64 (fld s 7 1 : Nat), .int .i64 (fld s 8 3 : Nat), .int .i64 (fld s 11 3 : Nat), .int .i64 (fld s 14 1 : Nat)] 25)).cell? ⟨w2.heap.size, 4, none⟩ = some (.int .i64 (fld s 7 1 : Nat)) := (World.cell?_alloc_mark w2 _ _ _ 4).trans (by simp)
  have u5 : (w2.alloc (.cells #[.int .i64 (fld s 0 1 : Nat), .int .i64 (fld s 1 1 : Nat), .int .i64 (fld s 2 1 : Nat), .int .i64 (fld s 3 4 : Nat), .int .i64 (fld s 7 1 : Nat), .int .i64 (fld s 8 3 : Nat), .int .i64 (fld s 11 3 : Nat), .int .i64 (fld s 14 1 : Nat)] 25)).cell? ⟨w2.heap.size, 5, none⟩ = some (.int .i64 (fld s 8 3 : Nat)) := (World.cell?_alloc_mark w2 _ _ _ 5).trans (by simp)
  have u6 : (w2.alloc (.cells #[.int .i64 (fld s 0 1 : Nat), .int .i64 (fld s 1 1 : Nat), .int .i64 (fld s 2 1 : Nat), .int .i64 (fld s 3 4 : Nat), .int .i64 (fld s 7 1 : Nat), .int .i64 (fld s 8 3 : Nat), .int .i64 (fld s 11 3 : Nat), .int .i64 (fld s 14 1 : Nat)] 25)).cell? ⟨w2.heap.size, 6, none⟩ = some (.int .i64 (fld s 11 3 : Nat)) := (World.cell?_alloc_mark w2 _ _ _ 6).trans (by simp)
  have u7 : (w2.alloc (.cells #[.int .i64 (fld s 0 1 : Nat), .int .i64 (fld s 1 1 : Nat), .int .i64 (fld s 2 1 : Nat), .int .i64 (fld s 3 4 : Nat), .int .i64 (fld s 7 1 : Nat), .int .i64 (fld s 8 3 : Nat), .int .i64 (fld s 11 3 : Nat), .int .i64 (fld s 14 1 : Nat)] 25)).cell? ⟨w2.heap.size, 7, none⟩ = some (.int .i64 (fld s 14 1 : Nat)) := (World.cell?_alloc_mark w2 _ _ _ 7).trans (by simp)
  have t0 : (w2.alloc (.cells #[.int .i64 (fld s 0 1 : Nat), .int .i64 (fld s 1 1 : Nat), .int .i64 (fld s 2 1 : Nat), .int .i64 (fld s 3 4 : Nat), .int .i64 (fld s 7 1 : Nat), .int .i64 (fld s 8 3 : Nat), .int .i64 (fld s 11 3 : Nat), .int .i64 (fld s 14 1 : Nat)] 25)).cell? ⟨w1.heap.size, 0, none⟩ = some (.int .i64 (fld s 0 1 : Nat)) := (World.cell?_alloc_lt w2 _ ⟨w1.heap.size, 0, none⟩ hlt).trans ((box_cell hb2 0).trans (by simp))
  have t1 : (w2.alloc (.cells #[.int .i64 (fld s 0 1 : Nat), .int .i64 (fld s 1 1 : Nat), .int .i64 (fld s 2 1 : Nat), .int .i64 (fld s 3 4 : Nat), .int .i64 (fld s 7 1 : Nat), .int .i64 (fld s 8 3 : Nat), .int .i64 (fld s 11 3 : Nat), .int .i64 (fld s 14 1 : Nat)] 25)).cell? ⟨w1.heap.size, 1, none⟩ = some (.int .i64 (fld s 1 1 : Nat)) := (World.cell?_alloc_lt w2 _ ⟨w1.heap.size, 1, none⟩ hlt).trans ((box_cell hb2 1).trans (by simp))
  have t2 : (w2.alloc (.cells #[.int .i64 (fld s 0 1 : Nat), .int .i64 (fld s 1 1 : Nat), .int .i64 (fld s 2 1 : Nat), .int .i64 (fld s 3 4 : Nat), .int .i64 (fld s 7 1 : Nat), .int .i64 (fld s 8 3 : Nat), .int .i64 (fld s 11 3 : Nat), .int .i64 (fld s 14 1 : Nat)] 25)).cell? ⟨w1.heap.size, 2, none⟩ = some (.int .i64 (fld s 2 1 : Nat)) := (World.cell?_alloc_lt w2 _ ⟨w1.heap.size, 2, none⟩ hlt).trans ((box_cell hb2 2).trans (by simp))
  have t3 : (w2.alloc (.cells #[.int .i64 (fld s 0 1 : Nat), .int .i64 (fld s 1 1 : Nat), .int .i64 (fld s 2 1 : Nat), .int .i64 (fld s 3 4 : Nat), .int .i64 (fld s 7 1 : Nat), .int .i64 (fld s 8 3 : Nat), .int .i64 (fld s 11 3 : Nat), .int .i64 (fld s 14 1 : Nat)] 25)).cell? ⟨w1.heap.size, 3, none⟩ = some (.int .i64 (fld s 3 4 : Nat)) := (World.cell?_alloc_lt w2 _ ⟨w1.heap.size, 3, none⟩ hlt).trans ((box_cell hb2 3).trans (by simp))
  have t4 : (w2.alloc (.cells #[.int .i64 (fld s 0 1 : Nat), .int .i64 (fld s 1 1 : Nat), .int .i64 (fld s 2 1 : Nat), .int .i64 (fld s 3 4 : Nat), .int .i64 (fld s 7 1 : Nat), .int .i64 (fld s 8 3 : Nat), .int .i64 (fld s 11 3 : Nat), .int .i64 (fld s 14 1 : Nat)] 25)).cell? ⟨w1.heap.size, 4, none⟩ = some (.int .i64 (fld s 7 1 : Nat)) := (World.cell?_alloc_lt w2 _ ⟨w1.heap.size, 4, none⟩ hlt).trans ((box_cell hb2 4).trans (by simp))
  have t5 : (w2.alloc (.cells #[.int .i64 (fld s 0 1 : Nat), .int .i64 (fld s 1 1 : Nat), .int .i64 (fld s 2 1 : Nat), .int .i64 (fld s 3 4 : Nat), .int .i64 (fld s 7 1 : Nat), .int .i64 (fld s 8 3 : Nat), .int .i64 (fld s 11 3 : Nat), .int .i64 (fld s 14 1 : Nat)] 25)).cell? ⟨w1.heap.size, 5, none⟩ = some (.int .i64 (fld s 8 3 : Nat)) := (World.cell?_alloc_lt w2 _ ⟨w1.heap.size, 5, none⟩ hlt).trans ((box_cell hb2 5).trans (by simp))
  have t6 : (w2.alloc (.cells #[.int .i64 (fld s 0 1 : Nat), .int .i64 (fld s 1 1 : Nat), .int .i64 (fld s 2 1 : Nat), .int .i64 (fld s 3 4 : Nat), .int .i64 (fld s 7 1 : Nat), .int .i64 (fld s 8 3 : Nat), .int .i64 (fld s 11 3 : Nat), .int .i64 (fld s 14 1 : Nat)] 25)).cell? ⟨w1.heap.size, 6, none⟩ = some (.int .i64 (fld s 11 3 : Nat)) := (World.cell?_alloc_lt w2 _ ⟨w1.heap.size, 6, none⟩ hlt).trans ((box_cell hb2 6).trans (by simp))
  have t7 : (w2.alloc (.cells #[.int .i64 (fld s 0 1 : Nat), .int .i64 (fld s 1 1 : Nat), .int .i64 (fld s 2 1 : Nat), .int .i64 (fld s 3 4 : Nat), .int .i64 (fld s 7 1 : Nat), .int .i64 (fld s 8 3 : Nat), .int .i64 (fld s 11 3 : Nat), .int .i64 (fld s 14 1 : Nat)] 25)).cell? ⟨w1.heap.size, 7, none⟩ = some (.int .i64 (fld s 14 1 : Nat)) := (World.cell?_alloc_lt w2 _ ⟨w1.heap.size, 7, none⟩ hlt).trans ((box_cell hb2 7).trans (by simp))
  have hb3 : Below w.heap.size w (w2.alloc (.cells #[.int .i64 (fld s 0 1 : Nat), .int .i64 (fld s 1 1 : Nat), .int .i64 (fld s 2 1 : Nat), .int .i64 (fld s 3 4 : Nat), .int .i64 (fld s 7 1 : Nat), .int .i64 (fld s 8 3 : Nat), .int .i64 (fld s 11 3 : Nat), .int .i64 (fld s 14 1 : Nat)] 25)) := (below_later hb1 (below_alloc hb2)).alloc (below_later hb1 (below_alloc hb2)).size _
  generalize hG : w2.heap.size = G at *
  generalize w2.alloc (.cells #[.int .i64 (fld s 0 1 : Nat), .int .i64 (fld s 1 1 : Nat), .int .i64 (fld s 2 1 : Nat), .int .i64 (fld s 3 4 : Nat), .int .i64 (fld s 7 1 : Nat), .int .i64 (fld s 8 3 : Nat), .int .i64 (fld s 11 3 : Nat), .int .i64 (fld s 14 1 : Nat)] 25) = W3 at *
  clear hb1 hb2 hlt hG
  go_wp2_with fail
  refine (eqCmd_same _ _ _ _ _ _ _ _ _).mono ?_
  rintro e w4 ⟨rfl, hb4⟩
  go_wp2_with fail
  go_ret
  exact ⟨rfl, below_later hb3 hb4⟩
set_option maxHeartbeats 800000 in
set_option maxRecDepth 100000 in
theorem l1Cmd_no (s : ByteArray) (w : World) (h : ¬ (s.size = 15 ∧ cmdB (fld s 0 1 : Nat) (fld s 1 1 : Nat) (fld s 2 1 : Nat) (fld s 3 4 : Nat) (fld s 7 1 : Nat) (fld s 8 3 : Nat) (fld s 11 3 : Nat) (fld s 14 1 : Nat) = true)) (hm : s.size ≤ maxLen) :
    Calls Try.prog 66 #[.string s] w fun e w' => e = .returned (.agg #[.int .i64 0, .int .i64 0, .int .i64 0, .int .i64 0, .int .i64 0, .int .i64 0, .int .i64 0, .int .i64 0]) ∧ Below w.heap.size w w' := by
  by_cases h1 : s.size = 15
  · exact spec_Cmd_bad s w h1 (by have := fun k => h ⟨h1, k⟩; simpa using this)
  · exact spec_Cmd_off s w h1 hm
set_option maxHeartbeats 800000 in
set_option maxRecDepth 100000 in
theorem spec_ReadCmd_no (s : ByteArray) (w : World) (h : ¬ (s.size = 15 ∧ cmdB (fld s 0 1 : Nat) (fld s 1 1 : Nat) (fld s 2 1 : Nat) (fld s 3 4 : Nat) (fld s 7 1 : Nat) (fld s 8 3 : Nat) (fld s 11 3 : Nat) (fld s 14 1 : Nat) = true)) (hm : s.size ≤ maxLen) :
    Calls Try.prog 19 #[.string s] w fun e w' => e = .returned (.agg #[.int .i64 0, .int .i64 0, .int .i64 0, .int .i64 0, .int .i64 0, .int .i64 0, .int .i64 0, .int .i64 0]) ∧ Below w.heap.size w w' := by
  go_enter Try.func19, Try.ntmps19
  go_wp2_with fail
  refine (l1Cmd_no s _ h hm).mono ?_
  rintro e w1 ⟨rfl, hb⟩
  have r0 : w1.cell? ⟨w.heap.size, 0, none⟩ = some (.int .i64 0) := (box_cell hb 0).trans (by simp)
  have r1 : w1.cell? ⟨w.heap.size, 1, none⟩ = some (.int .i64 0) := (box_cell hb 1).trans (by simp)
  have r2 : w1.cell? ⟨w.heap.size, 2, none⟩ = some (.int .i64 0) := (box_cell hb 2).trans (by simp)
  have r3 : w1.cell? ⟨w.heap.size, 3, none⟩ = some (.int .i64 0) := (box_cell hb 3).trans (by simp)
  have r4 : w1.cell? ⟨w.heap.size, 4, none⟩ = some (.int .i64 0) := (box_cell hb 4).trans (by simp)
  have r5 : w1.cell? ⟨w.heap.size, 5, none⟩ = some (.int .i64 0) := (box_cell hb 5).trans (by simp)
  have r6 : w1.cell? ⟨w.heap.size, 6, none⟩ = some (.int .i64 0) := (box_cell hb 6).trans (by simp)
  have r7 : w1.cell? ⟨w.heap.size, 7, none⟩ = some (.int .i64 0) := (box_cell hb 7).trans (by simp)
  have f1 : ∀ j, w1.frozen? ⟨w.heap.size, j, none⟩ = false := fun j => (hb.frozen (p := ⟨w.heap.size, j, none⟩) (by simp)).trans (by simp)
  have hbw := below_alloc hb
  clear hb
  go_wp2_with fail
  refine bodyPost_ret (v := .agg #[.int .i64 0, .int .i64 0, .int .i64 0, .int .i64 0, .int .i64 0, .int .i64 0, .int .i64 0, .int .i64 0]) (by simp [results, Try.results19, go_sem, r0, r1, r2, r3, r4, r5, r6, r7]) rfl ⟨rfl, ?_⟩
  repeat (refine Below.setCell ?_ (by simp) _)
  exact hbw
set_option maxHeartbeats 800000 in
set_option maxRecDepth 100000 in
theorem law_ReadCmd_no (s : ByteArray) (w : World) (h : ¬ (s.size = 15 ∧ cmdB (fld s 0 1 : Nat) (fld s 1 1 : Nat) (fld s 2 1 : Nat) (fld s 3 4 : Nat) (fld s 7 1 : Nat) (fld s 8 3 : Nat) (fld s 11 3 : Nat) (fld s 14 1 : Nat) = true)) (hm : s.size ≤ maxLen) (hsz : ¬ 1048576 < s.size) :
    Calls Try.prog 5 #[.string s] w fun e w' => e = .returned (.bool true) ∧ Below w.heap.size w w' := by
  go_enter Try.func5, Try.ntmps5
  go_wp2_with fail
  refine (spec_ReadCmd_no s _ h hm).mono ?_
  rintro e w1 ⟨rfl, hb1⟩
  go_wp2_with fail
  refine (impl_ReadCmd_no s _ h hm).mono ?_
  rintro e w2 ⟨rfl, hb2⟩
  have hlt : w1.heap.size < w2.heap.size := by have := hb2.size; simp at this; omega
  go_upto_region 5 with (fail)
  have u0 : (w2.alloc (.cells #[.int .i64 0, .int .i64 0, .int .i64 0, .int .i64 0, .int .i64 0, .int .i64 0, .int .i64 0, .int .i64 0] 25)).cell? ⟨w2.heap.size, 0, none⟩ = some (.int .i64 0) := (World.cell?_alloc_mark w2 _ _ _ 0).trans (by simp)
  have u1 : (w2.alloc (.cells #[.int .i64 0, .int .i64 0, .int .i64 0, .int .i64 0, .int .i64 0, .int .i64 0, .int .i64 0, .int .i64 0] 25)).cell? ⟨w2.heap.size, 1, none⟩ = some (.int .i64 0) := (World.cell?_alloc_mark w2 _ _ _ 1).trans (by simp)
  have u2 : (w2.alloc (.cells #[.int .i64 0, .int .i64 0, .int .i64 0, .int .i64 0, .int .i64 0, .int .i64 0, .int .i64 0, .int .i64 0] 25)).cell? ⟨w2.heap.size, 2, none⟩ = some (.int .i64 0) := (World.cell?_alloc_mark w2 _ _ _ 2).trans (by simp)
  have u3 : (w2.alloc (.cells #[.int .i64 0, .int .i64 0, .int .i64 0, .int .i64 0, .int .i64 0, .int .i64 0, .int .i64 0, .int .i64 0] 25)).cell? ⟨w2.heap.size, 3, none⟩ = some (.int .i64 0) := (World.cell?_alloc_mark w2 _ _ _ 3).trans (by simp)
  have u4 : (w2.alloc (.cells #[.int .i64 0, .int .i64 0, .int .i64 0, .int .i64 0, .int .i64 0, .int .i64 0, .int .i64 0, .int .i64 0] 25)).cell? ⟨w2.heap.size, 4, none⟩ = some (.int .i64 0) := (World.cell?_alloc_mark w2 _ _ _ 4).trans (by simp)
  have u5 : (w2.alloc (.cells #[.int .i64 0, .int .i64 0, .int .i64 0, .int .i64 0, .int .i64 0, .int .i64 0, .int .i64 0, .int .i64 0] 25)).cell? ⟨w2.heap.size, 5, none⟩ = some (.int .i64 0) := (World.cell?_alloc_mark w2 _ _ _ 5).trans (by simp)
  have u6 : (w2.alloc (.cells #[.int .i64 0, .int .i64 0, .int .i64 0, .int .i64 0, .int .i64 0, .int .i64 0, .int .i64 0, .int .i64 0] 25)).cell? ⟨w2.heap.size, 6, none⟩ = some (.int .i64 0) := (World.cell?_alloc_mark w2 _ _ _ 6).trans (by simp)
  have u7 : (w2.alloc (.cells #[.int .i64 0, .int .i64 0, .int .i64 0, .int .i64 0, .int .i64 0, .int .i64 0, .int .i64 0, .int .i64 0] 25)).cell? ⟨w2.heap.size, 7, none⟩ = some (.int .i64 0) := (World.cell?_alloc_mark w2 _ _ _ 7).trans (by simp)
  have t0 : (w2.alloc (.cells #[.int .i64 0, .int .i64 0, .int .i64 0, .int .i64 0, .int .i64 0, .int .i64 0, .int .i64 0, .int .i64 0] 25)).cell? ⟨w1.heap.size, 0, none⟩ = some (.int .i64 0) := (World.cell?_alloc_lt w2 _ ⟨w1.heap.size, 0, none⟩ hlt).trans ((box_cell hb2 0).trans (by simp))
  have t1 : (w2.alloc (.cells #[.int .i64 0, .int .i64 0, .int .i64 0, .int .i64 0, .int .i64 0, .int .i64 0, .int .i64 0, .int .i64 0] 25)).cell? ⟨w1.heap.size, 1, none⟩ = some (.int .i64 0) := (World.cell?_alloc_lt w2 _ ⟨w1.heap.size, 1, none⟩ hlt).trans ((box_cell hb2 1).trans (by simp))
  have t2 : (w2.alloc (.cells #[.int .i64 0, .int .i64 0, .int .i64 0, .int .i64 0, .int .i64 0, .int .i64 0, .int .i64 0, .int .i64 0] 25)).cell? ⟨w1.heap.size, 2, none⟩ = some (.int .i64 0) := (World.cell?_alloc_lt w2 _ ⟨w1.heap.size, 2, none⟩ hlt).trans ((box_cell hb2 2).trans (by simp))
  have t3 : (w2.alloc (.cells #[.int .i64 0, .int .i64 0, .int .i64 0, .int .i64 0, .int .i64 0, .int .i64 0, .int .i64 0, .int .i64 0] 25)).cell? ⟨w1.heap.size, 3, none⟩ = some (.int .i64 0) := (World.cell?_alloc_lt w2 _ ⟨w1.heap.size, 3, none⟩ hlt).trans ((box_cell hb2 3).trans (by simp))
  have t4 : (w2.alloc (.cells #[.int .i64 0, .int .i64 0, .int .i64 0, .int .i64 0, .int .i64 0, .int .i64 0, .int .i64 0, .int .i64 0] 25)).cell? ⟨w1.heap.size, 4, none⟩ = some (.int .i64 0) := (World.cell?_alloc_lt w2 _ ⟨w1.heap.size, 4, none⟩ hlt).trans ((box_cell hb2 4).trans (by simp))
  have t5 : (w2.alloc (.cells #[.int .i64 0, .int .i64 0, .int .i64 0, .int .i64 0, .int .i64 0, .int .i64 0, .int .i64 0, .int .i64 0] 25)).cell? ⟨w1.heap.size, 5, none⟩ = some (.int .i64 0) := (World.cell?_alloc_lt w2 _ ⟨w1.heap.size, 5, none⟩ hlt).trans ((box_cell hb2 5).trans (by simp))
  have t6 : (w2.alloc (.cells #[.int .i64 0, .int .i64 0, .int .i64 0, .int .i64 0, .int .i64 0, .int .i64 0, .int .i64 0, .int .i64 0] 25)).cell? ⟨w1.heap.size, 6, none⟩ = some (.int .i64 0) := (World.cell?_alloc_lt w2 _ ⟨w1.heap.size, 6, none⟩ hlt).trans ((box_cell hb2 6).trans (by simp))
  have t7 : (w2.alloc (.cells #[.int .i64 0, .int .i64 0, .int .i64 0, .int .i64 0, .int .i64 0, .int .i64 0, .int .i64 0, .int .i64 0] 25)).cell? ⟨w1.heap.size, 7, none⟩ = some (.int .i64 0) := (World.cell?_alloc_lt w2 _ ⟨w1.heap.size, 7, none⟩ hlt).trans ((box_cell hb2 7).trans (by simp))
  have hb3 : Below w.heap.size w (w2.alloc (.cells #[.int .i64 0, .int .i64 0, .int .i64 0, .int .i64 0, .int .i64 0, .int .i64 0, .int .i64 0, .int .i64 0] 25)) := (below_later hb1 (below_alloc hb2)).alloc (below_later hb1 (below_alloc hb2)).size _
  generalize hG : w2.heap.size = G at *
  generalize w2.alloc (.cells #[.int .i64 0, .int .i64 0, .int .i64 0, .int .i64 0, .int .i64 0, .int .i64 0, .int .i64 0, .int .i64 0] 25) = W3 at *
  clear hb1 hb2 hlt hG
  go_wp2_with fail
  refine (eqCmd_same _ _ _ _ _ _ _ _ _).mono ?_
  rintro e w4 ⟨rfl, hb4⟩
  go_wp2_with fail
  go_ret
  exact ⟨rfl, below_later hb3 hb4⟩
set_option maxHeartbeats 800000 in
set_option maxRecDepth 100000 in
theorem law_ReadCmd (s : ByteArray) (w : World) (hm : s.size ≤ maxLen) :
    Calls Try.prog 5 #[.string s] w fun e w' => e = .returned (.bool true) ∧ Below w.heap.size w w' := by
  by_cases hsz : 1048576 < s.size
  · go_enter Try.func5, Try.ntmps5
    go_wp2_with fail
    go_ret
    exact ⟨rfl, Below.refl _ _⟩
  · by_cases h : s.size = 15 ∧ cmdB (fld s 0 1 : Nat) (fld s 1 1 : Nat) (fld s 2 1 : Nat) (fld s 3 4 : Nat) (fld s 7 1 : Nat) (fld s 8 3 : Nat) (fld s 11 3 : Nat) (fld s 14 1 : Nat) = true
    · exact law_ReadCmd_yes s w h.1 h.2 hsz
    · exact law_ReadCmd_no s w h hm hsz
set_option maxHeartbeats 800000 in
set_option maxRecDepth 100000 in
theorem eqRec_same (a b c d e f g h : Int) (w : World) :
    Calls Try.prog 105 #[.agg #[.int .i64 a, .int .i64 b, .int .i64 c, .int .i64 d, .int .i64 e, .int .i64 f, .int .i64 g, .int .i64 h], .agg #[.int .i64 a, .int .i64 b, .int .i64 c, .int .i64 d, .int .i64 e, .int .i64 f, .int .i64 g, .int .i64 h]] w fun x w' => x = .returned (.bool true) ∧ Below w.heap.size w w' := by
  go_enter Try.func105, Try.ntmps105
  go_wp2
  go_ret
  exact ⟨rfl, by go_grown⟩
end Go.Proofs.Ythmoddohkchhfaa
