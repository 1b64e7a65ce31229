/-
  Reading one command or one record, in both programs, and the laws on it.
-/
import Derived.Test.YthmoddohkchhfaaWhole
import Derived.ChangeAlike
import Derived.Deep.Cut
namespace Go.Proofs.Ythmoddohkchhfaa
open Go.RowKit Wire

theorem get_part (s : ByteArray) (i j : Nat) (w : World) (hj : j ≤ s.size) (h7 : j - i ≤ 7) :
    Calls Try.prog 113 #[.string (s.extract i j)] w fun e w' => e = .returned (.int .i64 (fld s i (j - i) : Nat)) ∧ w = w' := by
  have h := l1Get_any (s.extract i j) w (by rw [ByteArray.size_extract]; omega)
  have e : (s.extract i j).data.toList = (s.data.toList.drop i).take (j - i) := by
    rw [ByteArray.data_extract, Array.toList_extract, List.extract_eq_take_drop]
  rw [e] at h
  exact h
theorem rest_some {s : ByteArray} {i : Nat} (h : i < s.size) : (s.extract i s.size).toList.isEmpty = false := by
  have h0 : (s.extract i s.size).toList ≠ [] := by
    intro k
    have := congrArg List.length k
    rw [ByteArray.toList_eq] at this
    simp at this
    omega
  simpa using h0
theorem wholeCmd_no (s : ByteArray) (w : World) (h : ¬ (s.size = 15 ∧ cmdB (fld s 0 1 : Nat) (fld s 1 1 : Nat) (fld s 2 1 : Nat) (fld s 3 4 : Nat) (fld s 7 1 : Nat) (fld s 8 3 : Nat) (fld s 11 3 : Nat) (fld s 14 1 : Nat) = true)) (hm : s.size ≤ maxLen) :
    Calls Try.prog 67 #[.string s, .func (.func 68) #[] #[]] w fun e w' => e = .returned (.tuple #[.agg #[.int .i64 0, .int .i64 0, .int .i64 0, .int .i64 0, .int .i64 0, .int .i64 0, .int .i64 0, .int .i64 0], .bool false]) ∧ Below w.heap.size w w' := by
  by_cases h1 : s.size < 15
  · exact wholeCmd_short s w h1 hm
  · by_cases h2 : cmdB (fld s 0 1 : Nat) (fld s 1 1 : Nat) (fld s 2 1 : Nat) (fld s 3 4 : Nat) (fld s 7 1 : Nat) (fld s 8 3 : Nat) (fld s 11 3 : Nat) (fld s 14 1 : Nat) = true
    · exact wholeCmd_long s w (Nat.lt_of_le_of_ne (by omega) (fun e => h ⟨e.symm, h2⟩)) h2 hm
    · exact wholeCmd_bad s w (by omega) (by simpa using h2) hm
set_option maxHeartbeats 800000 in
set_option maxRecDepth 100000 in
theorem impl_ReadCmd_yes (s : ByteArray) (w : World) (hs : s.size = 15) (hk : cmdB (fld s 0 1 : Nat) (fld s 1 1 : Nat) (fld s 2 1 : Nat) (fld s 3 4 : Nat) (fld s 7 1 : Nat) (fld s 8 3 : Nat) (fld s 11 3 : Nat) (fld s 14 1 : Nat) = true) :
    Calls Try.prog 20 #[.string s] w fun e w' => e = .returned (.agg #[.int .i64 (fld s 0 1 : Nat), .int .i64 (fld s 1 1 : Nat), .int .i64 (fld s 2 1 : Nat), .int .i64 (fld s 3 4 : Nat), .int .i64 (fld s 7 1 : Nat), .int .i64 (fld s 8 3 : Nat), .int .i64 (fld s 11 3 : Nat), .int .i64 (fld s 14 1 : Nat)]) ∧ Below w.heap.size w w' := by
  go_enter Try.func20, Try.ntmps20
  go_wp2_with fail
  refine (wholeCmd_yes _ _ hs hk).mono ?_
  rintro e w1 ⟨rfl, hb⟩
  have r0 : w1.cell? ⟨w.heap.size, 0, none⟩ = some (.int .i64 0) := (box_cell hb 0).trans (by simp)
  have r1 : w1.cell? ⟨w.heap.size, 1, none⟩ = some (.int .i64 0) := (box_cell hb 1).trans (by simp)
  have r2 : w1.cell? ⟨w.heap.size, 2, none⟩ = some (.int .i64 0) := (box_cell hb 2).trans (by simp)
  have r3 : w1.cell? ⟨w.heap.size, 3, none⟩ = some (.int .i64 0) := (box_cell hb 3).trans (by simp)
  have r4 : w1.cell? ⟨w.heap.size, 4, none⟩ = some (.int .i64 0) := (box_cell hb 4).trans (by simp)
  have r5 : w1.cell? ⟨w.heap.size, 5, none⟩ = some (.int .i64 0) := (box_cell hb 5).trans (by simp)
  have r6 : w1.cell? ⟨w.heap.size, 6, none⟩ = some (.int .i64 0) := (box_cell hb 6).trans (by simp)
  have r7 : w1.cell? ⟨w.heap.size, 7, none⟩ = some (.int .i64 0) := (box_cell hb 7).trans (by simp)
  have hlt : w.heap.size < w1.heap.size := by have := hb.size; simp at this; omega
  have f1 : ∀ j, w1.frozen? ⟨w.heap.size, j, none⟩ = false := fun j => (hb.frozen (p := ⟨w.heap.size, j, none⟩) (by simp)).trans (by simp)
  have hbw := below_alloc hb
  clear hb
  go_upto_region 2 with (fail)
  have t0 : (w1.alloc (.cells #[.int .i64 (fld s 0 1 : Nat), .int .i64 (fld s 1 1 : Nat), .int .i64 (fld s 2 1 : Nat), .int .i64 (fld s 3 4 : Nat), .int .i64 (fld s 7 1 : Nat), .int .i64 (fld s 8 3 : Nat), .int .i64 (fld s 11 3 : Nat), .int .i64 (fld s 14 1 : Nat)] 25)).cell? ⟨w.heap.size, 0, none⟩ = some (.int .i64 0) := (World.cell?_alloc_lt w1 _ ⟨w.heap.size, 0, none⟩ hlt).trans r0
  have t1 : (w1.alloc (.cells #[.int .i64 (fld s 0 1 : Nat), .int .i64 (fld s 1 1 : Nat), .int .i64 (fld s 2 1 : Nat), .int .i64 (fld s 3 4 : Nat), .int .i64 (fld s 7 1 : Nat), .int .i64 (fld s 8 3 : Nat), .int .i64 (fld s 11 3 : Nat), .int .i64 (fld s 14 1 : Nat)] 25)).cell? ⟨w.heap.size, 1, none⟩ = some (.int .i64 0) := (World.cell?_alloc_lt w1 _ ⟨w.heap.size, 1, none⟩ hlt).trans r1
  have t2 : (w1.alloc (.cells #[.int .i64 (fld s 0 1 : Nat), .int .i64 (fld s 1 1 : Nat), .int .i64 (fld s 2 1 : Nat), .int .i64 (fld s 3 4 : Nat), .int .i64 (fld s 7 1 : Nat), .int .i64 (fld s 8 3 : Nat), .int .i64 (fld s 11 3 : Nat), .int .i64 (fld s 14 1 : Nat)] 25)).cell? ⟨w.heap.size, 2, none⟩ = some (.int .i64 0) := (World.cell?_alloc_lt w1 _ ⟨w.heap.size, 2, none⟩ hlt).trans r2
  have t3 : (w1.alloc (.cells #[.int .i64 (fld s 0 1 : Nat), .int .i64 (fld s 1 1 : Nat), .int .i64 (fld s 2 1 : Nat), .int .i64 (fld s 3 4 : Nat), .int .i64 (fld s 7 1 : Nat), .int .i64 (fld s 8 3 : Nat), .int .i64 (fld s 11 3 : Nat), .int .i64 (fld s 14 1 : Nat)] 25)).cell? ⟨w.heap.size, 3, none⟩ = some (.int .i64 0) := (World.cell?_alloc_lt w1 _ ⟨w.heap.size, 3, none⟩ hlt).trans r3
  have t4 : (w1.alloc (.cells #[.int .i64 (fld s 0 1 : Nat), .int .i64 (fld s 1 1 : Nat), .int .i64 (fld s 2 1 : Nat), .int .i64 (fld s 3 4 : Nat), .int .i64 (fld s 7 1 : Nat), .int .i64 (fld s 8 3 : Nat), .int .i64 (fld s 11 3 : Nat), .int .i64 (fld s 14 1 : Nat)] 25)).cell? ⟨w.heap.size, 4, none⟩ = some (.int .i64 0) := (World.cell?_alloc_lt w1 _ ⟨w.heap.size, 4, none⟩ hlt).trans r4
  have t5 : (w1.alloc (.cells #[.int .i64 (fld s 0 1 : Nat), .int .i64 (fld s 1 1 : Nat), .int .i64 (fld s 2 1 : Nat), .int .i64 (fld s 3 4 : Nat), .int .i64 (fld s 7 1 : Nat), .int .i64 (fld s 8 3 : Nat), .int .i64 (fld s 11 3 : Nat), .int .i64 (fld s 14 1 : Nat)] 25)).cell? ⟨w.heap.size, 5, none⟩ = some (.int .i64 0) := (World.cell?_alloc_lt w1 _ ⟨w.heap.size, 5, none⟩ hlt).trans r5
  have t6 : (w1.alloc (.cells #[.int .i64 (fld s 0 1 : Nat), .int .i64 (fld s 1 1 : Nat), .int .i64 (fld s 2 1 : Nat), .int .i64 (fld s 3 4 : Nat), .int .i64 (fld s 7 1 : Nat), .int .i64 (fld s 8 3 : Nat), .int .i64 (fld s 11 3 : Nat), .int .i64 (fld s 14 1 : Nat)] 25)).cell? ⟨w.heap.size, 6, none⟩ = some (.int .i64 0) := (World.cell?_alloc_lt w1 _ ⟨w.heap.size, 6, none⟩ hlt).trans r6
  have t7 : (w1.alloc (.cells #[.int .i64 (fld s 0 1 : Nat), .int .i64 (fld s 1 1 : Nat), .int .i64 (fld s 2 1 : Nat), .int .i64 (fld s 3 4 : Nat), .int .i64 (fld s 7 1 : Nat), .int .i64 (fld s 8 3 : Nat), .int .i64 (fld s 11 3 : Nat), .int .i64 (fld s 14 1 : Nat)] 25)).cell? ⟨w.heap.size, 7, none⟩ = some (.int .i64 0) := (World.cell?_alloc_lt w1 _ ⟨w.heap.size, 7, none⟩ hlt).trans r7
  have u0 : (w1.alloc (.cells #[.int .i64 (fld s 0 1 : Nat), .int .i64 (fld s 1 1 : Nat), .int .i64 (fld s 2 1 : Nat), .int .i64 (fld s 3 4 : Nat), .int .i64 (fld s 7 1 : Nat), .int .i64 (fld s 8 3 : Nat), .int .i64 (fld s 11 3 : Nat), .int .i64 (fld s 14 1 : Nat)] 25)).cell? ⟨w1.heap.size, 0, none⟩ = some (.int .i64 (fld s 0 1 : Nat)) := (World.cell?_alloc_mark w1 _ _ _ 0).trans (by simp)
  have u1 : (w1.alloc (.cells #[.int .i64 (fld s 0 1 : Nat), .int .i64 (fld s 1 1 : Nat), .int .i64 (fld s 2 1 : Nat), .int .i64 (fld s 3 4 : Nat), .int .i64 (fld s 7 1 : Nat), .int .i64 (fld s 8 3 : Nat), .int .i64 (fld s 11 3 : Nat), .int .i64 (fld s 14 1 : Nat)] 25)).cell? ⟨w1.heap.size, 1, none⟩ = some (.int .i64 (fld s 1 1 : Nat)) := (World.cell?_alloc_mark w1 _ _ _ 1).trans (by simp)
  have u2 : (w1.alloc (.cells #[.int .i64 (fld s 0 1 : Nat), .int .i64 (fld s 1 1 : Nat), .int .i64 (fld s 2 1 : Nat), .int .i64 (fld s 3 4 : Nat), .int .i64 (fld s 7 1 : Nat), .int .i64 (fld s 8 3 : Nat), .int .i64 (fld s 11 3 : Nat), .int .i64 (fld s 14 1 : Nat)] 25)).cell? ⟨w1.heap.size, 2, none⟩ = some (.int .i64 (fld s 2 1 : Nat)) := (World.cell?_alloc_mark w1 _ _ _ 2).trans (by simp)
  have u3 : (w1.alloc (.cells #[.int .i64 (fld s 0 1 : Nat), .int .i64 (fld s 1 1 : Nat), .int .i64 (fld s 2 1 : Nat), .int .i64 (fld s 3 4 : Nat), .int .i64 (fld s 7 1 : Nat), .int .i64 (fld s 8 3 : Nat), .int .i64 (fld s 11 3 : Nat), .int .i64 (fld s 14 1 : Nat)] 25)).cell? ⟨w1.heap.size, 3, none⟩ = some (.int .i64 (fld s 3 4 : Nat)) := (World.cell?_alloc_mark w1 _ _ _ 3).trans (by simp)
  have u4 : (w1.alloc (.cells #[.int .i64 (fld s 0 1 : Nat), .int .i64 (fld s 1 1 : Nat), .int .i64 (fld s 2 1 : Nat), .int .i64 (fld s 3 4 : Nat), .int .i64 (fld s 7 1 : Nat), .int .i64 (fld s 8 3 : Nat), .int .i64 (fld s 11 3 : Nat), .int .i64 (fld s 14 1 : Nat)] 25)).cell? ⟨w1.heap.size, 4, none⟩ = some (.int .i64 (fld s 7 1 : Nat)) := (World.cell?_alloc_mark w1 _ _ _ 4).trans (by simp)
  have u5 : (w1.alloc (.cells #[.int .i64 (fld s 0 1 : Nat), .int .i64 (fld s 1 1 : Nat), .int .i64 (fld s 2 1 : Nat), .int .i64 (fld s 3 4 : Nat), .int .i64 (fld s 7 1 : Nat), .int .i64 (fld s 8 3 : Nat), .int .i64 (fld s 11 3 : Nat), .int .i64 (fld s 14 1 : Nat)] 25)).cell? ⟨w1.heap.size, 5, none⟩ = some (.int .i64 (fld s 8 3 : Nat)) := (World.cell?_alloc_mark w1 _ _ _ 5).trans (by simp)
  have u6 : (w1.alloc (.cells #[.int .i64 (fld s 0 1 : Nat), .int .i64 (fld s 1 1 : Nat), .int .i64 (fld s 2 1 : Nat), .int .i64 (fld s 3 4 : Nat), .int .i64 (fld s 7 1 : Nat), .int .i64 (fld s 8 3 : Nat), .int .i64 (fld s 11 3 : Nat), .int .i64 (fld s 14 1 : Nat)] 25)).cell? ⟨w1.heap.size, 6, none⟩ = some (.int .i64 (fld s 11 3 : Nat)) := (World.cell?_alloc_mark w1 _ _ _ 6).trans (by simp)
  have u7 : (w1.alloc (.cells #[.int .i64 (fld s 0 1 : Nat), .int .i64 (fld s 1 1 : Nat), .int .i64 (fld s 2 1 : Nat), .int .i64 (fld s 3 4 : Nat), .int .i64 (fld s 7 1 : Nat), .int .i64 (fld s 8 3 : Nat), .int .i64 (fld s 11 3 : Nat), .int .i64 (fld s 14 1 : Nat)] 25)).cell? ⟨w1.heap.size, 7, none⟩ = some (.int .i64 (fld s 14 1 : Nat)) := (World.cell?_alloc_mark w1 _ _ _ 7).trans (by simp)
  have f2 : ∀ j, (w1.alloc (.cells #[.int .i64 (fld s 0 1 : Nat), .int .i64 (fld s 1 1 : Nat), .int .i64 (fld s 2 1 : Nat), .int .i64 (fld s 3 4 : Nat), .int .i64 (fld s 7 1 : Nat), .int .i64 (fld s 8 3 : Nat), .int .i64 (fld s 11 3 : Nat), .int .i64 (fld s 14 1 : Nat)] 25)).frozen? ⟨w.heap.size, j, none⟩ = false := fun j => (World.frozen?_of_block (Below.heap_alloc w1 _ w.heap.size hlt)).trans (f1 j)
  have hb2 : Below w.heap.size w (w1.alloc (.cells #[.int .i64 (fld s 0 1 : Nat), .int .i64 (fld s 1 1 : Nat), .int .i64 (fld s 2 1 : Nat), .int .i64 (fld s 3 4 : Nat), .int .i64 (fld s 7 1 : Nat), .int .i64 (fld s 8 3 : Nat), .int .i64 (fld s 11 3 : Nat), .int .i64 (fld s 14 1 : Nat)] 25)) := hbw.alloc hbw.size _
  generalize hG : w1.heap.size = G at *
  generalize w1.alloc (.cells #[.int .i64 (fld s 0 1 : Nat), .int .i64 (fld s 1 1 : Nat), .int .i64 (fld s 2 1 : Nat), .int .i64 (fld s 3 4 : Nat), .int .i64 (fld s 7 1 : Nat), .int .i64 (fld s 8 3 : Nat), .int .i64 (fld s 11 3 : Nat), .int .i64 (fld s 14 1 : Nat)] 25) = W2 at *
  clear r0 r1 r2 r3 r4 r5 r6 r7 f1 hbw hG
  go_wp2_with fail
  refine bodyPost_ret (v := .agg #[.int .i64 (fld s 0 1 : Nat), .int .i64 (fld s 1 1 : Nat), .int .i64 (fld s 2 1 : Nat), .int .i64 (fld s 3 4 : Nat), .int .i64 (fld s 7 1 : Nat), .int .i64 (fld s 8 3 : Nat), .int .i64 (fld s 11 3 : Nat), .int .i64 (fld s 14 1 : Nat)]) (by simp [results, Try.results20, go_sem, t0, t1, t2, t3, t4, t5, t6, t7]) rfl ⟨rfl, ?_⟩
  repeat (refine Below.setCell ?_ (by simp) _)
  exact hb2
set_option maxHeartbeats 800000 in
set_option maxRecDepth 100000 in
theorem impl_ReadCmd_no (s : ByteArray) (w : World) (h : ¬ (s.size = 15 ∧ cmdB (fld s 0 1 : Nat) (fld s 1 1 : Nat) (fld s 2 1 : Nat) (fld s 3 4 : Nat) (fld s 7 1 : Nat) (fld s 8 3 : Nat) (fld s 11 3 : Nat) (fld s 14 1 : Nat) = true)) (hm : s.size ≤ maxLen) :
    Calls Try.prog 20 #[.string s] w fun e w' => e = .returned (.agg #[.int .i64 0, .int .i64 0, .int .i64 0, .int .i64 0, .int .i64 0, .int .i64 0, .int .i64 0, .int .i64 0]) ∧ Below w.heap.size w w' := by
  go_enter Try.func20, Try.ntmps20
  go_wp2_with fail
  refine (wholeCmd_no _ _ h hm).mono ?_
  rintro e w1 ⟨rfl, hb⟩
  have r0 : w1.cell? ⟨w.heap.size, 0, none⟩ = some (.int .i64 0) := (box_cell hb 0).trans (by simp)
  have r1 : w1.cell? ⟨w.heap.size, 1, none⟩ = some (.int .i64 0) := (box_cell hb 1).trans (by simp)
  have r2 : w1.cell? ⟨w.heap.size, 2, none⟩ = some (.int .i64 0) := (box_cell hb 2).trans (by simp)
  have r3 : w1.cell? ⟨w.heap.size, 3, none⟩ = some (.int .i64 0) := (box_cell hb 3).trans (by simp)
  have r4 : w1.cell? ⟨w.heap.size, 4, none⟩ = some (.int .i64 0) := (box_cell hb 4).trans (by simp)
  have r5 : w1.cell? ⟨w.heap.size, 5, none⟩ = some (.int .i64 0) := (box_cell hb 5).trans (by simp)
  have r6 : w1.cell? ⟨w.heap.size, 6, none⟩ = some (.int .i64 0) := (box_cell hb 6).trans (by simp)
  have r7 : w1.cell? ⟨w.heap.size, 7, none⟩ = some (.int .i64 0) := (box_cell hb 7).trans (by simp)
  have hlt : w.heap.size < w1.heap.size := by have := hb.size; simp at this; omega
  have f1 : ∀ j, w1.frozen? ⟨w.heap.size, j, none⟩ = false := fun j => (hb.frozen (p := ⟨w.heap.size, j, none⟩) (by simp)).trans (by simp)
  have hbw := below_alloc hb
  clear hb
  go_upto_region 2 with (fail)
  have t0 : (w1.alloc (.cells #[.int .i64 0, .int .i64 0, .int .i64 0, .int .i64 0, .int .i64 0, .int .i64 0, .int .i64 0, .int .i64 0] 25)).cell? ⟨w.heap.size, 0, none⟩ = some (.int .i64 0) := (World.cell?_alloc_lt w1 _ ⟨w.heap.size, 0, none⟩ hlt).trans r0
  have t1 : (w1.alloc (.cells #[.int .i64 0, .int .i64 0, .int .i64 0, .int .i64 0, .int .i64 0, .int .i64 0, .int .i64 0, .int .i64 0] 25)).cell? ⟨w.heap.size, 1, none⟩ = some (.int .i64 0) := (World.cell?_alloc_lt w1 _ ⟨w.heap.size, 1, none⟩ hlt).trans r1
  have t2 : (w1.alloc (.cells #[.int .i64 0, .int .i64 0, .int .i64 0, .int .i64 0, .int .i64 0, .int .i64 0, .int .i64 0, .int .i64 0] 25)).cell? ⟨w.heap.size, 2, none⟩ = some (.int .i64 0) := (World.cell?_alloc_lt w1 _ ⟨w.heap.size, 2, none⟩ hlt).trans r2
  have t3 : (w1.alloc (.cells #[.int .i64 0, .int .i64 0, .int .i64 0, .int .i64 0, .int .i64 0, .int .i64 0, .int .i64 0, .int .i64 0] 25)).cell? ⟨w.heap.size, 3, none⟩ = some (.int .i64 0) := (World.cell?_alloc_lt w1 _ ⟨w.heap.size, 3, none⟩ hlt).trans r3
  have t4 : (w1.alloc (.cells #[.int .i64 0, .int .i64 0, .int .i64 0, .int .i64 0, .int .i64 0, .int .i64 0, .int .i64 0, .int .i64 0] 25)).cell? ⟨w.heap.size, 4, none⟩ = some (.int .i64 0) := (World.cell?_alloc_lt w1 _ ⟨w.heap.size, 4, none⟩ hlt).trans r4
  have t5 : (w1.alloc (.cells #[.int .i64 0, .int .i64 0, .int .i64 0, .int .i64 0, .int .i64 0, .int .i64 0, .int .i64 0, .int .i64 0] 25)).cell? ⟨w.heap.size, 5, none⟩ = some (.int .i64 0) := (World.cell?_alloc_lt w1 _ ⟨w.heap.size, 5, none⟩ hlt).trans r5
  have t6 : (w1.alloc (.cells #[.int .i64 0, .int .i64 0, .int .i64 0, .int .i64 0, .int .i64 0, .int .i64 0, .int .i64 0, .int .i64 0] 25)).cell? ⟨w.heap.size, 6, none⟩ = some (.int .i64 0) := (World.cell?_alloc_lt w1 _ ⟨w.heap.size, 6, none⟩ hlt).trans r6
  have t7 : (w1.alloc (.cells #[.int .i64 0, .int .i64 0, .int .i64 0, .int .i64 0, .int .i64 0, .int .i64 0, .int .i64 0, .int .i64 0] 25)).cell? ⟨w.heap.size, 7, none⟩ = some (.int .i64 0) := (World.cell?_alloc_lt w1 _ ⟨w.heap.size, 7, none⟩ hlt).trans r7
  have u0 : (w1.alloc (.cells #[.int .i64 0, .int .i64 0, .int .i64 0, .int .i64 0, .int .i64 0, .int .i64 0, .int .i64 0, .int .i64 0] 25)).cell? ⟨w1.heap.size, 0, none⟩ = some (.int .i64 0) := (World.cell?_alloc_mark w1 _ _ _ 0).trans (by simp)
  have u1 : (w1.alloc (.cells #[.int .i64 0, .int .i64 0, .int .i64 0, .int .i64 0, .int .i64 0, .int .i64 0, .int .i64 0, .int .i64 0] 25)).cell? ⟨w1.heap.size, 1, none⟩ = some (.int .i64 0) := (World.cell?_alloc_mark w1 _ _ _ 1).trans (by simp)
  have u2 : (w1.alloc (.cells #[.int .i64 0, .int .i64 0, .int .i64 0, .int .i64 0, .int .i64 0, .int .i64 0, .int .i64 0, .int .i64 0] 25)).cell? ⟨w1.heap.size, 2, none⟩ = some (.int .i64 0) := (World.cell?_alloc_mark w1 _ _ _ 2).trans (by simp)
  have u3 : (w1.alloc (.cells #[.int .i64 0, .int .i64 0, .int .i64 0, .int .i64 0, .int .i64 0, .int .i64 0, .int .i64 0, .int .i64 0] 25)).cell? ⟨w1.heap.size, 3, none⟩ = some (.int .i64 0) := (World.cell?_alloc_mark w1 _ _ _ 3).trans (by simp)
  have u4 : (w1.alloc (.cells #[.int .i64 0, .int .i64 0, .int .i64 0, .int .i64 0, .int .i64 0, .int .i64 0, .int .i64 0, .int .i64 0] 25)).cell? ⟨w1.heap.size, 4, none⟩ = some (.int .i64 0) := (World.cell?_alloc_mark w1 _ _ _ 4).trans (by simp)
  have u5 : (w1.alloc (.cells #[.int .i64 0, .int .i64 0, .int .i64 0, .int .i64 0, .int .i64 0, .int .i64 0, .int .i64 0, .int .i64 0] 25)).cell? ⟨w1.heap.size, 5, none⟩ = some (.int .i64 0) := (World.cell?_alloc_mark w1 _ _ _ 5).trans (by simp)
  have u6 : (w1.alloc (.cells #[.int .i64 0, .int .i64 0, .int .i64 0, .int .i64 0, .int .i64 0, .int .i64 0, .int .i64 0, .int .i64 0] 25)).cell? ⟨w1.heap.size, 6, none⟩ = some (.int .i64 0) := (World.cell?_alloc_mark w1 _ _ _ 6).trans (by simp)
  have u7 : (w1.alloc (.cells #[.int .i64 0, .int .i64 0, .int .i64 0, .int .i64 0, .int .i64 0, .int .i64 0, .int .i64 0, .int .i64 0] 25)).cell? ⟨w1.heap.size, 7, none⟩ = some (.int .i64 0) := (World.cell?_alloc_mark w1 _ _ _ 7).trans (by simp)
  have f2 : ∀ j, (w1.alloc (.cells #[.int .i64 0, .int .i64 0, .int .i64 0, .int .i64 0, .int .i64 0, .int .i64 0, .int .i64 0, .int .i64 0] 25)).frozen? ⟨w.heap.size, j, none⟩ = false := fun j => (World.frozen?_of_block (Below.heap_alloc w1 _ w.heap.size hlt)).trans (f1 j)
  have hb2 : Below w.heap.size w (w1.alloc (.cells #[.int .i64 0, .int .i64 0, .int .i64 0, .int .i64 0, .int .i64 0, .int .i64 0, .int .i64 0, .int .i64 0] 25)) := hbw.alloc hbw.size _
  generalize hG : w1.heap.size = G at *
  generalize w1.alloc (.cells #[.int .i64 0, .int .i64 0, .int .i64 0, .int .i64 0, .int .i64 0, .int .i64 0, .int .i64 0, .int .i64 0] 25) = W2 at *
  clear r0 r1 r2 r3 r4 r5 r6 r7 f1 hbw hG
  go_wp2_with fail
  refine bodyPost_ret (v := .agg #[.int .i64 0, .int .i64 0, .int .i64 0, .int .i64 0, .int .i64 0, .int .i64 0, .int .i64 0, .int .i64 0]) (by simp [results, Try.results20, go_sem, t0, t1, t2, t3, t4, t5, t6, t7]) rfl ⟨rfl, ?_⟩
  repeat (refine Below.setCell ?_ (by simp) _)
  exact hb2
end Go.Proofs.Ythmoddohkchhfaa
