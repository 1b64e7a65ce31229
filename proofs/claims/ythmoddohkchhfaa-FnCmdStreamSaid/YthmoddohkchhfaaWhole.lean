/-
  Reading one command or one record to its last byte: the function that turns the reader's panic into false.
-/
import Derived.Test.YthmoddohkchhfaaReader
import Derived.OneCell
namespace Go.Proofs.Ythmoddohkchhfaa
open Go.RowKit Wire

theorem blk_cell {w : World} {g : Nat} {cs : Array Value} {t : TypeId} (h : w.heap[g]? = some (.cells cs t (0, 0))) (i : Nat) : w.cell? ⟨g, i, none⟩ = cs[i]? := cell_of_row w g i cs t (0, 0) h
theorem blk_free {w : World} {g : Nat} {cs : Array Value} {t : TypeId} (h : w.heap[g]? = some (.cells cs t (0, 0))) (i : Nat) : w.frozen? ⟨g, i, none⟩ = false := frozen_of_row w g i cs t h
theorem blk_lt {w : World} {g : Nat} {cs : Array Value} {t : TypeId} (h : w.heap[g]? = some (.cells cs t (0, 0))) : g < w.heap.size := by
  rcases Nat.lt_or_ge g w.heap.size with hlt | hge
  · exact hlt
  · rw [Array.getElem?_eq_none hge] at h; cases h

theorem heap_alloc2 (w : World) (o1 o2 : Obj) : ((w.alloc o1).alloc o2).heap[w.heap.size + 1]? = some o2 := by
  have h := heap_alloc_new (w.alloc o1) o2
  rw [World.size_alloc] at h
  exact h

set_option maxHeartbeats 1000000 in
set_option maxRecDepth 100000 in
theorem catchCmd_panicking (base p q : Nat) (u : TypeId) (pv : Value) (older : List PanicEntry) (w : World) (a b c d e f g h o : Value) (hpq : p ≠ q) (hbp : base ≤ p) (hbq : base ≤ q)
    (hp : w.heap[p]? = some (.cells #[a, b, c, d, e, f, g, h] 25 (0, 0))) (hq : w.heap[q]? = some (.cells #[o] 4 (0, 0))) :
    CallsD Try.prog 114 #[.pointer (some ⟨p, 0, none⟩), .pointer (some ⟨q, 0, none⟩)] (.panicking ({ v := .iface u pv, recovered := false } :: older)) w fun e u' w' =>
      e = .returned (.tuple #[]) ∧ u' = .panicking ({ v := .iface u pv, recovered := true } :: older) ∧ Below base w w' ∧
        w'.heap[p]? = some (.cells #[.int .i64 0, .int .i64 0, .int .i64 0, .int .i64 0, .int .i64 0, .int .i64 0, .int .i64 0, .int .i64 0] 25 (0, 0)) ∧ w'.heap[q]? = some (.cells #[.bool false] 4 (0, 0)) := by
  refine callsD_of_wpS Try.func114 rfl fun c₀ cs hu => ?_
  have hp0 := blk_cell hp 0
  have hp1 := blk_cell hp 1
  have hp2 := blk_cell hp 2
  have hp3 := blk_cell hp 3
  have hp4 := blk_cell hp 4
  have hp5 := blk_cell hp 5
  have hp6 := blk_cell hp 6
  have hp7 := blk_cell hp 7
  have hq0 := blk_cell hq 0
  simp at hp0 hp1 hp2 hp3 hp4 hp5 hp6 hp7 hq0
  have fp := blk_free hp
  have fq := blk_free hq
  have lp := blk_lt hp
  have lq := blk_lt hq
  have Hp := Lib.hid hp
  have Hq := Lib.hid hq
  clear hp hq
  apply wpS_seq
  apply wpS_region
  simp [wpOpsS, go_sem, recoverD, hu, Try.ntmps114, Exit.thenS]
  refine wpS_cond (t := true) (by simp [Act.eval, Array.replicate]) ?_
  simp only [if_true]
  refine wpS_of_wp ?_
  simp only [Array.replicate, List.replicate, List.setIfInBounds_toArray, List.set_cons_zero, List.set_cons_succ, List.append_toArray, List.cons_append, List.nil_append]
  go_wp2
  have hp := Hp.out
  have hq := Hq.out
  simp only [bodyPostS]
  refine ⟨trivial, _, rfl, .tuple #[], ?_, ?_⟩
  · simp [results, Try.results114]
  refine ⟨rfl, rfl, ?_, ?_, ?_⟩
  · refine Below.alloc ?_ (by simp; omega) _
    refine Below.setCell ?_ hbq _
    exact ((((((((Below.refl _ _).setCell hbp _).setCell hbp _).setCell hbp _).setCell hbp _).setCell hbp _).setCell hbp _).setCell hbp _).setCell hbp _
  · rw [Below.heap_alloc _ _ _ (by simpa using lp), heap_setCell_other _ _ _ _ hpq]
    have h0 := heap_setCell_same w p 0 _ _ (.int .i64 0) hp
    have h1 := heap_setCell_same _ p 1 _ _ (.int .i64 0) h0
    have h2 := heap_setCell_same _ p 2 _ _ (.int .i64 0) h1
    have h3 := heap_setCell_same _ p 3 _ _ (.int .i64 0) h2
    have h4 := heap_setCell_same _ p 4 _ _ (.int .i64 0) h3
    have h5 := heap_setCell_same _ p 5 _ _ (.int .i64 0) h4
    have h6 := heap_setCell_same _ p 6 _ _ (.int .i64 0) h5
    have h7 := heap_setCell_same _ p 7 _ _ (.int .i64 0) h6
    exact h7.trans (by simp)
  · rw [Below.heap_alloc _ _ _ (by simpa using lq)]
    refine (heap_setCell_same _ q 0 #[o] _ (.bool false) ?_).trans rfl
    repeat (rw [heap_setCell_other _ _ _ _ (Ne.symm hpq)])
    exact hq
theorem catchCmd_idle (p q : Addr) (w : World) :
    CallsD Try.prog 114 #[.pointer (some p), .pointer (some q)] .returning w fun e u' w' => e = .returned (.tuple #[]) ∧ u' = .returning ∧ w' = w := by
  refine callsD_of_wpS Try.func114 rfl fun c₀ cs hu => ?_
  apply wpS_seq
  apply wpS_region
  simp [wpOpsS, go_sem, recoverD, hu, Try.ntmps114, Exit.thenS]
  refine wpS_cond (t := false) (by simp [Act.eval, Array.replicate]) ?_
  simp only [Bool.false_eq_true, if_false]
  refine wpS_of_wp (wp_skip ?_)
  cases c₀
  simp_all [bodyPostS, results, Try.results114]
set_option maxHeartbeats 2000000 in
set_option maxRecDepth 100000 in
theorem wholeCmd_yes (s : ByteArray) (w : World) (hs : s.size = 15) (hk : cmdB (fld s 0 1 : Nat) (fld s 1 1 : Nat) (fld s 2 1 : Nat) (fld s 3 4 : Nat) (fld s 7 1 : Nat) (fld s 8 3 : Nat) (fld s 11 3 : Nat) (fld s 14 1 : Nat) = true) :
    Calls Try.prog 67 #[.string s, .func (.func 68) #[] #[]] w fun e w' => e = .returned (.tuple #[.agg #[.int .i64 (fld s 0 1 : Nat), .int .i64 (fld s 1 1 : Nat), .int .i64 (fld s 2 1 : Nat), .int .i64 (fld s 3 4 : Nat), .int .i64 (fld s 7 1 : Nat), .int .i64 (fld s 8 3 : Nat), .int .i64 (fld s 11 3 : Nat), .int .i64 (fld s 14 1 : Nat)], .bool true]) ∧ Below w.heap.size w w' := by
  have hmf : ∀ (fn : Fn) (first cap : Array Value) (w : World), (Instr.makeFunc fn first cap).run Try.prog w = .ok (.func fn first cap) w := fun _ _ _ _ => rfl
  go_enter_defers Try.func67, Try.ntmps67
  go_wp2_with fail
  refine (takeCmd_yes (w.heap.size + 2) s _ (by omega) (by unfold maxLen; omega) (by rw [extract_all]; simp [go_sem]) (by simp [go_sem]) (by simp) hk).mono ?_
  rintro e w1 ⟨rfl, hr1, hr2⟩
  have hB : w1.heap[w.heap.size]? = some (.cells #[.int .i64 0, .int .i64 0, .int .i64 0, .int .i64 0, .int .i64 0, .int .i64 0, .int .i64 0, .int .i64 0] 25 (0, 0)) :=
    (hr1.block _ (by simp; omega) (by simp)).trans (by rw [Below.heap_alloc _ _ _ (by simp; omega), Below.heap_alloc _ _ _ (by simp)]; exact heap_alloc_new _ _)
  have hO : w1.heap[w.heap.size + 1]? = some (.cells #[.bool false] 4 (0, 0)) :=
    (hr1.block _ (by simp) (by simp)).trans (by rw [Below.heap_alloc _ _ _ (by simp)]; exact heap_alloc2 _ _ _)
  have hbw : Below w.heap.size w w1 := ((((Below.refl _ _).alloc (Nat.le_refl _) _).alloc (by simp) _).alloc (by simp; omega) _).grown hr1 (by simp; omega) (fun k h => by cases h; omega)
  have he : s.extract 15 s.size = ⟨#[]⟩ := by apply ByteArray.ext; simp [hs]
  rw [he] at hr2
  have b0 := blk_cell hB 0
  have b1 := blk_cell hB 1
  have b2 := blk_cell hB 2
  have b3 := blk_cell hB 3
  have b4 := blk_cell hB 4
  have b5 := blk_cell hB 5
  have b6 := blk_cell hB 6
  have b7 := blk_cell hB 7
  have o0 := blk_cell hO 0
  simp at b0 b1 b2 b3 b4 b5 b6 b7 o0
  have fB := blk_free hB
  have fO := blk_free hO
  have HB := Lib.hid hB
  have HO := Lib.hid hO
  clear hB hO he hr1 hs
  go_wp2_with fail
  refine (require_yes _ _).mono ?_
  rintro e w' ⟨rfl, rfl⟩
  go_wp2_with fail
  refine leaves_cons (f := 114) (args := #[.pointer (some ⟨w.heap.size, 0, none⟩), .pointer (some ⟨w.heap.size + 1, 0, none⟩)]) (by simp) (by simp [go_sem]) ?_
  refine (catchCmd_idle _ _ _).mono ?_
  rintro e u' w'' ⟨rfl, rfl, hw⟩
  have hB2 : w''.heap[w.heap.size]? = some (.cells #[.int .i64 (fld s 0 1 : Nat), .int .i64 (fld s 1 1 : Nat), .int .i64 (fld s 2 1 : Nat), .int .i64 (fld s 3 4 : Nat), .int .i64 (fld s 7 1 : Nat), .int .i64 (fld s 8 3 : Nat), .int .i64 (fld s 11 3 : Nat), .int .i64 (fld s 14 1 : Nat)] 25 (0, 0)) := by
    rw [hw, heap_setCell_other _ _ _ _ (by simp)]
    have h0 := HB.out
    have h1 := heap_setCell_same _ _ 0 _ _ (.int .i64 (fld s 0 1 : Nat)) h0
    have h2 := heap_setCell_same _ _ 1 _ _ (.int .i64 (fld s 1 1 : Nat)) h1
    have h3 := heap_setCell_same _ _ 2 _ _ (.int .i64 (fld s 2 1 : Nat)) h2
    have h4 := heap_setCell_same _ _ 3 _ _ (.int .i64 (fld s 3 4 : Nat)) h3
    have h5 := heap_setCell_same _ _ 4 _ _ (.int .i64 (fld s 7 1 : Nat)) h4
    have h6 := heap_setCell_same _ _ 5 _ _ (.int .i64 (fld s 8 3 : Nat)) h5
    have h7 := heap_setCell_same _ _ 6 _ _ (.int .i64 (fld s 11 3 : Nat)) h6
    have h8 := heap_setCell_same _ _ 7 _ _ (.int .i64 (fld s 14 1 : Nat)) h7
    have h9 := heap_setCell_same _ _ 0 _ _ (.int .i64 (fld s 0 1 : Nat)) h8
    have h10 := heap_setCell_same _ _ 1 _ _ (.int .i64 (fld s 1 1 : Nat)) h9
    have h11 := heap_setCell_same _ _ 2 _ _ (.int .i64 (fld s 2 1 : Nat)) h10
    have h12 := heap_setCell_same _ _ 3 _ _ (.int .i64 (fld s 3 4 : Nat)) h11
    have h13 := heap_setCell_same _ _ 4 _ _ (.int .i64 (fld s 7 1 : Nat)) h12
    have h14 := heap_setCell_same _ _ 5 _ _ (.int .i64 (fld s 8 3 : Nat)) h13
    have h15 := heap_setCell_same _ _ 6 _ _ (.int .i64 (fld s 11 3 : Nat)) h14
    have h16 := heap_setCell_same _ _ 7 _ _ (.int .i64 (fld s 14 1 : Nat)) h15
    exact h16.trans (by simp)
  have hO2 : w''.heap[w.heap.size + 1]? = some (.cells #[.bool true] 4 (0, 0)) := by
    rw [hw]
    refine (heap_setCell_same _ (w.heap.size + 1) 0 #[.bool false] 4 (.bool true) ?_).trans (by simp)
    repeat (rw [heap_setCell_other _ _ _ _ (by simp)])
    exact HO.out
  have hbw2 : Below w.heap.size w w'' := by
    rw [hw]
    repeat (refine Below.setCell ?_ (by simp) _)
    exact hbw
  clear hw b0 b1 b2 b3 b4 b5 b6 b7 o0 fB fO
  have q0 := blk_cell hB2 0
  have q1 := blk_cell hB2 1
  have q2 := blk_cell hB2 2
  have q3 := blk_cell hB2 3
  have q4 := blk_cell hB2 4
  have q5 := blk_cell hB2 5
  have q6 := blk_cell hB2 6
  have q7 := blk_cell hB2 7
  have p0 := blk_cell hO2 0
  simp at q0 q1 q2 q3 q4 q5 q6 q7 p0
  simp [Leaves, settle, results, Try.results67, go_sem, q0, q1, q2, q3, q4, q5, q6, q7, p0]
  exact hbw2
set_option maxHeartbeats 2000000 in
set_option maxRecDepth 100000 in
theorem wholeCmd_short (s : ByteArray) (w : World) (hs : s.size < 15) (hm : s.size ≤ maxLen) :
    Calls Try.prog 67 #[.string s, .func (.func 68) #[] #[]] w fun e w' => e = .returned (.tuple #[.agg #[.int .i64 0, .int .i64 0, .int .i64 0, .int .i64 0, .int .i64 0, .int .i64 0, .int .i64 0, .int .i64 0], .bool false]) ∧ Below w.heap.size w w' := by
  have hmf : ∀ (fn : Fn) (first cap : Array Value) (w : World), (Instr.makeFunc fn first cap).run Try.prog w = .ok (.func fn first cap) w := fun _ _ _ _ => rfl
  go_enter_defers Try.func67, Try.ntmps67
  go_wp2_with fail
  refine (takeCmd_short (w.heap.size + 2) s _ hs hm (by rw [extract_all]; simp [go_sem]) (by simp [go_sem]) (by simp)).mono ?_
  rintro e w1 ⟨⟨u, pv, rfl⟩, hr1⟩
  have hB : w1.heap[w.heap.size]? = some (.cells #[.int .i64 0, .int .i64 0, .int .i64 0, .int .i64 0, .int .i64 0, .int .i64 0, .int .i64 0, .int .i64 0] 25 (0, 0)) :=
    (hr1.block _ (by simp; omega) (by simp)).trans (by rw [Below.heap_alloc _ _ _ (by simp; omega), Below.heap_alloc _ _ _ (by simp)]; exact heap_alloc_new _ _)
  have hO : w1.heap[w.heap.size + 1]? = some (.cells #[.bool false] 4 (0, 0)) :=
    (hr1.block _ (by simp) (by simp)).trans (by rw [Below.heap_alloc _ _ _ (by simp)]; exact heap_alloc2 _ _ _)
  have hbw : Below w.heap.size w w1 := ((((Below.refl _ _).alloc (Nat.le_refl _) _).alloc (by simp) _).alloc (by simp; omega) _).grown hr1 (by simp; omega) (fun k h => by cases h; omega)
  clear hr1
  go_wp2_with fail
  refine leaves_cons (f := 114) (args := #[.pointer (some ⟨w.heap.size, 0, none⟩), .pointer (some ⟨w.heap.size + 1, 0, none⟩)]) (by simp) (by simp [go_sem]) ?_
  refine (catchCmd_panicking w.heap.size w.heap.size (w.heap.size + 1) u pv [] _ _ _ _ _ _ _ _ _ _ (by omega) (by omega) (by omega) hB hO).mono ?_
  rintro e u' w2 ⟨rfl, rfl, hb2, hB2, hO2⟩
  have hbw2 := hbw.trans hb2
  have q0 := blk_cell hB2 0
  have q1 := blk_cell hB2 1
  have q2 := blk_cell hB2 2
  have q3 := blk_cell hB2 3
  have q4 := blk_cell hB2 4
  have q5 := blk_cell hB2 5
  have q6 := blk_cell hB2 6
  have q7 := blk_cell hB2 7
  have p0 := blk_cell hO2 0
  simp at q0 q1 q2 q3 q4 q5 q6 q7 p0
  clear hbw hB hO
  simp [Leaves, settle, results, Try.results67, go_sem, q0, q1, q2, q3, q4, q5, q6, q7, p0]
  exact hbw2
set_option maxHeartbeats 2000000 in
set_option maxRecDepth 100000 in
theorem wholeCmd_bad (s : ByteArray) (w : World) (hs : 15 ≤ s.size) (hk : cmdB (fld s 0 1 : Nat) (fld s 1 1 : Nat) (fld s 2 1 : Nat) (fld s 3 4 : Nat) (fld s 7 1 : Nat) (fld s 8 3 : Nat) (fld s 11 3 : Nat) (fld s 14 1 : Nat) = false) (hm : s.size ≤ maxLen) :
    Calls Try.prog 67 #[.string s, .func (.func 68) #[] #[]] w fun e w' => e = .returned (.tuple #[.agg #[.int .i64 0, .int .i64 0, .int .i64 0, .int .i64 0, .int .i64 0, .int .i64 0, .int .i64 0, .int .i64 0], .bool false]) ∧ Below w.heap.size w w' := by
  have hmf : ∀ (fn : Fn) (first cap : Array Value) (w : World), (Instr.makeFunc fn first cap).run Try.prog w = .ok (.func fn first cap) w := fun _ _ _ _ => rfl
  go_enter_defers Try.func67, Try.ntmps67
  go_wp2_with fail
  refine (takeCmd_bad (w.heap.size + 2) s _ hs hm (by rw [extract_all]; simp [go_sem]) (by simp [go_sem]) (by simp) hk).mono ?_
  rintro e w1 ⟨⟨u, pv, rfl⟩, hr1⟩
  have hB : w1.heap[w.heap.size]? = some (.cells #[.int .i64 0, .int .i64 0, .int .i64 0, .int .i64 0, .int .i64 0, .int .i64 0, .int .i64 0, .int .i64 0] 25 (0, 0)) :=
    (hr1.block _ (by simp; omega) (by simp)).trans (by rw [Below.heap_alloc _ _ _ (by simp; omega), Below.heap_alloc _ _ _ (by simp)]; exact heap_alloc_new _ _)
  have hO : w1.heap[w.heap.size + 1]? = some (.cells #[.bool false] 4 (0, 0)) :=
    (hr1.block _ (by simp) (by simp)).trans (by rw [Below.heap_alloc _ _ _ (by simp)]; exact heap_alloc2 _ _ _)
  have hbw : Below w.heap.size w w1 := ((((Below.refl _ _).alloc (Nat.le_refl _) _).alloc (by simp) _).alloc (by simp; omega) _).grown hr1 (by simp; omega) (fun k h => by cases h; omega)
  clear hr1
  go_wp2_with fail
  refine leaves_cons (f := 114) (args := #[.pointer (some ⟨w.heap.size, 0, none⟩), .pointer (some ⟨w.heap.size + 1, 0, none⟩)]) (by simp) (by simp [go_sem]) ?_
  refine (catchCmd_panicking w.heap.size w.heap.size (w.heap.size + 1) u pv [] _ _ _ _ _ _ _ _ _ _ (by omega) (by omega) (by omega) hB hO).mono ?_
  rintro e u' w2 ⟨rfl, rfl, hb2, hB2, hO2⟩
  have hbw2 := hbw.trans hb2
  have q0 := blk_cell hB2 0
  have q1 := blk_cell hB2 1
  have q2 := blk_cell hB2 2
  have q3 := blk_cell hB2 3
  have q4 := blk_cell hB2 4
  have q5 := blk_cell hB2 5
  have q6 := blk_cell hB2 6
  have q7 := blk_cell hB2 7
  have p0 := blk_cell hO2 0
  simp at q0 q1 q2 q3 q4 q5 q6 q7 p0
  clear hbw hB hO
  simp [Leaves, settle, results, Try.results67, go_sem, q0, q1, q2, q3, q4, q5, q6, q7, p0]
  exact hbw2
set_option maxHeartbeats 2000000 in
set_option maxRecDepth 100000 in
theorem wholeCmd_long (s : ByteArray) (w : World) (hs : 15 < s.size) (hk : cmdB (fld s 0 1 : Nat) (fld s 1 1 : Nat) (fld s 2 1 : Nat) (fld s 3 4 : Nat) (fld s 7 1 : Nat) (fld s 8 3 : Nat) (fld s 11 3 : Nat) (fld s 14 1 : Nat) = true) (hm : s.size ≤ maxLen) :
    Calls Try.prog 67 #[.string s, .func (.func 68) #[] #[]] w fun e w' => e = .returned (.tuple #[.agg #[.int .i64 0, .int .i64 0, .int .i64 0, .int .i64 0, .int .i64 0, .int .i64 0, .int .i64 0, .int .i64 0], .bool false]) ∧ Below w.heap.size w w' := by
  have hmf : ∀ (fn : Fn) (first cap : Array Value) (w : World), (Instr.makeFunc fn first cap).run Try.prog w = .ok (.func fn first cap) w := fun _ _ _ _ => rfl
  go_enter_defers Try.func67, Try.ntmps67
  go_wp2_with fail
  refine (takeCmd_yes (w.heap.size + 2) s _ (by omega) hm (by rw [extract_all]; simp [go_sem]) (by simp [go_sem]) (by simp) hk).mono ?_
  rintro e w1 ⟨rfl, hr1, hr2⟩
  have hB : w1.heap[w.heap.size]? = some (.cells #[.int .i64 0, .int .i64 0, .int .i64 0, .int .i64 0, .int .i64 0, .int .i64 0, .int .i64 0, .int .i64 0] 25 (0, 0)) :=
    (hr1.block _ (by simp; omega) (by simp)).trans (by rw [Below.heap_alloc _ _ _ (by simp; omega), Below.heap_alloc _ _ _ (by simp)]; exact heap_alloc_new _ _)
  have hO : w1.heap[w.heap.size + 1]? = some (.cells #[.bool false] 4 (0, 0)) :=
    (hr1.block _ (by simp) (by simp)).trans (by rw [Below.heap_alloc _ _ _ (by simp)]; exact heap_alloc2 _ _ _)
  have hbw : Below w.heap.size w w1 := ((((Below.refl _ _).alloc (Nat.le_refl _) _).alloc (by simp) _).alloc (by simp; omega) _).grown hr1 (by simp; omega) (fun k h => by cases h; omega)
  have hne : (s.extract 15 s.size).toList.isEmpty = false := by
    have h0 : (s.extract 15 s.size).toList ≠ [] := by
      intro h
      have := congrArg List.length h
      rw [ByteArray.toList_eq] at this
      simp at this
      omega
    simpa using h0
  have b0 := blk_cell hB 0
  have b1 := blk_cell hB 1
  have b2 := blk_cell hB 2
  have b3 := blk_cell hB 3
  have b4 := blk_cell hB 4
  have b5 := blk_cell hB 5
  have b6 := blk_cell hB 6
  have b7 := blk_cell hB 7
  have o0 := blk_cell hO 0
  simp at b0 b1 b2 b3 b4 b5 b6 b7 o0
  have fB := blk_free hB
  have fO := blk_free hO
  have HB := Lib.hid hB
  have HO := Lib.hid hO
  clear hB hO hr1 hs hm
  go_wp2_with fail
  refine (require_no _ _).mono ?_
  rintro e w' ⟨⟨u, pv, rfl⟩, rfl⟩
  go_wp2_with fail
  clear b0 b1 b2 b3 b4 b5 b6 b7 o0 fB fO
  refine leaves_cons (f := 114) (args := #[.pointer (some ⟨w.heap.size, 0, none⟩), .pointer (some ⟨w.heap.size + 1, 0, none⟩)]) (by simp) (by simp [go_sem]) ?_
  refine (catchCmd_panicking w.heap.size w.heap.size (w.heap.size + 1) u pv [] _ (.int .i64 (fld s 0 1 : Nat)) (.int .i64 (fld s 1 1 : Nat)) (.int .i64 (fld s 2 1 : Nat)) (.int .i64 (fld s 3 4 : Nat)) (.int .i64 (fld s 7 1 : Nat)) (.int .i64 (fld s 8 3 : Nat)) (.int .i64 (fld s 11 3 : Nat)) (.int .i64 (fld s 14 1 : Nat)) (.bool false) (by omega) (by omega) (by omega) ?hp ?hq).mono ?_
  case hp =>
    have h0 := HB.out
    have h1 := heap_setCell_same _ _ 0 _ _ (.int .i64 (fld s 0 1 : Nat)) h0
    have h2 := heap_setCell_same _ _ 1 _ _ (.int .i64 (fld s 1 1 : Nat)) h1
    have h3 := heap_setCell_same _ _ 2 _ _ (.int .i64 (fld s 2 1 : Nat)) h2
    have h4 := heap_setCell_same _ _ 3 _ _ (.int .i64 (fld s 3 4 : Nat)) h3
    have h5 := heap_setCell_same _ _ 4 _ _ (.int .i64 (fld s 7 1 : Nat)) h4
    have h6 := heap_setCell_same _ _ 5 _ _ (.int .i64 (fld s 8 3 : Nat)) h5
    have h7 := heap_setCell_same _ _ 6 _ _ (.int .i64 (fld s 11 3 : Nat)) h6
    have h8 := heap_setCell_same _ _ 7 _ _ (.int .i64 (fld s 14 1 : Nat)) h7
    exact h8.trans (by simp)
  case hq =>
    repeat (rw [heap_setCell_other _ _ _ _ (by simp)])
    exact HO.out
  rintro e u' w2 ⟨rfl, rfl, hb2, hB2, hO2⟩
  have hbw2 : Below w.heap.size w w2 := by
    refine Below.trans ?_ hb2
    repeat (refine Below.setCell ?_ (by simp) _)
    exact hbw
  have q0 := blk_cell hB2 0
  have q1 := blk_cell hB2 1
  have q2 := blk_cell hB2 2
  have q3 := blk_cell hB2 3
  have q4 := blk_cell hB2 4
  have q5 := blk_cell hB2 5
  have q6 := blk_cell hB2 6
  have q7 := blk_cell hB2 7
  have p0 := blk_cell hO2 0
  simp at q0 q1 q2 q3 q4 q5 q6 q7 p0
  clear hbw hb2 HB HO hB2 hO2
  simp [Leaves, settle, results, Try.results67, go_sem, q0, q1, q2, q3, q4, q5, q6, q7, p0]
  exact hbw2
end Go.Proofs.Ythmoddohkchhfaa
