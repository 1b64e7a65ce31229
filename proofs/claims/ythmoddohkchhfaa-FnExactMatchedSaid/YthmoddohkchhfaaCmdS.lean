/-
  Commands: when one is right, in the specification's program; a law's own command handed on.
-/
import Derived.Test.YthmoddohkchhfaaCmd
namespace Go.Proofs.Ythmoddohkchhfaa
open Go.RowKit Wire

theorem cmd_ord (a b c d e f g h : Int) (ha : 1 ≤ a) (h5 : a ≤ 5) : cmdB a b c d e f g h = (inB 1 c 100 && (inB 0 b 3 && coB a d e f g h)) := by
  have h0 : inB 1 a 10 = true := inB_yes ha (by omega)
  have h5' : decide (a ≤ 5) = true := by simpa using h5
  have h7' : decide (a ≤ 7) = true := by simp; omega
  by_cases k2 : a = 2
  · subst k2
    simp only [cmdB, coB, cfB, h0]
    cases inB 1 c 100 <;> cases inB 0 b 3 <;> cases inB 1 d 1000000000 <;> cases inB 1 e 2 <;> cases inB 1 g 1000000 <;> cases inB 1 h 3 <;> simp
  · have z : (a != 2) = true := by simpa using k2
    simp only [cmdB, coB, cfB, h0, h5', h7', k2, z]
    cases inB 1 c 100 <;> cases inB 0 b 3 <;> cases inB 1 d 1000000000 <;> cases inB 1 e 2 <;> cases inB 1 g 1000000 <;> cases inB 1 h 3 <;> simp

set_option maxHeartbeats 1600000 in
set_option maxRecDepth 100000 in
theorem spec_CmdOk_ord (a b c d e f g h : Int) (w : World) (ha : a = 1 ∨ a = 2 ∨ a = 3 ∨ a = 4 ∨ a = 5) :
    Calls Try.prog 14 #[.agg #[.int .i64 a, .int .i64 b, .int .i64 c, .int .i64 d, .int .i64 e, .int .i64 f, .int .i64 g, .int .i64 h]] w
      fun x w' => x = .returned (.bool (cmdB a b c d e f g h)) ∧ Below w.heap.size w w' := by
  rw [cmd_ord a b c d e f g h (by omega) (by omega)]
  rcases Bool.eq_false_or_eq_true (inB 1 c 100) with kc | kc <;> rcases ha with rfl | rfl | rfl | rfl | rfl
  all_goals
    go_enter Try.func14, Try.ntmps14
    go_wp2_with (first
      | (go_at_call 58; refine (l1In_any _ _ _ _).mono ?_; rintro e w' ⟨rfl, rfl⟩)
      | (go_at_call 57; refine (l1Acct_any _ _).mono ?_; rintro e w' ⟨rfl, rfl⟩)
      | (go_at_call 59; refine (l1Order_any _ _ _ _ _ _ _ _ _).mono ?_; rintro e w1 ⟨rfl, hb⟩))
    all_goals
      go_ret
      refine ⟨ret_bool ?_, ?_⟩
      · simp [*]
      · first
          | exact (Below.refl _ _).alloc (Nat.le_refl _) _
          | (refine ((Below.refl _ _).alloc (Nat.le_refl _) _).trans (Below.mono (by assumption) ?_); simp)

set_option maxHeartbeats 1600000 in
set_option maxRecDepth 100000 in
theorem spec_CmdOk_rest (a b c d e f g h : Int) (w : World) (ha : a = 6 ∨ a = 7 ∨ a = 8 ∨ a = 9 ∨ a = 10) :
    Calls Try.prog 14 #[.agg #[.int .i64 a, .int .i64 b, .int .i64 c, .int .i64 d, .int .i64 e, .int .i64 f, .int .i64 g, .int .i64 h]] w
      fun x w' => x = .returned (.bool (cmdB a b c d e f g h)) ∧ Below w.heap.size w w' := by
  have hv : inB 1 a 10 = true := inB_yes (by omega) (by omega)
  rcases Bool.eq_false_or_eq_true (inB 1 c 100) with kc | kc <;> rcases ha with rfl | rfl | rfl | rfl | rfl
  all_goals
    go_enter Try.func14, Try.ntmps14
    go_wp2_with (first
      | (go_at_call 58; refine (l1In_any _ _ _ _).mono ?_; rintro e w' ⟨rfl, rfl⟩)
      | (go_at_call 60; refine (l1Id_any _ _).mono ?_; rintro e w' ⟨rfl, rfl⟩)
      | (go_at_call 57; refine (l1Acct_any _ _).mono ?_; rintro e w' ⟨rfl, rfl⟩))
    all_goals
      go_ret
      refine ⟨ret_bool ?_, (Below.refl _ _).alloc (Nat.le_refl _) _⟩
      simp [cmdB, cfB, *]

set_option maxHeartbeats 1600000 in
set_option maxRecDepth 100000 in
theorem spec_CmdOk_none (a b c d e f g h : Int) (w : World) (ha : ¬ (1 ≤ a ∧ a ≤ 10)) :
    Calls Try.prog 14 #[.agg #[.int .i64 a, .int .i64 b, .int .i64 c, .int .i64 d, .int .i64 e, .int .i64 f, .int .i64 g, .int .i64 h]] w
      fun x w' => x = .returned (.bool (cmdB a b c d e f g h)) ∧ Below w.heap.size w w' := by
  have hv : inB 1 a 10 = false := inB_no ha
  have z1 : (a == 1) = false := beq_eq_false_iff_ne.2 (by omega)
  have z2 : (a == 2) = false := beq_eq_false_iff_ne.2 (by omega)
  have z3 : (a == 3) = false := beq_eq_false_iff_ne.2 (by omega)
  have z4 : (a == 4) = false := beq_eq_false_iff_ne.2 (by omega)
  have z5 : (a == 5) = false := beq_eq_false_iff_ne.2 (by omega)
  have z6 : (a == 6) = false := beq_eq_false_iff_ne.2 (by omega)
  have z7 : (a == 7) = false := beq_eq_false_iff_ne.2 (by omega)
  have z8 : (a == 8) = false := beq_eq_false_iff_ne.2 (by omega)
  have z9 : (a == 9) = false := beq_eq_false_iff_ne.2 (by omega)
  have z10 : (a == 10) = false := beq_eq_false_iff_ne.2 (by omega)
  have hc : cmdB a b c d e f g h = false := by simp [cmdB, hv]
  rw [hc]
  clear hc ha
  go_enter Try.func14, Try.ntmps14
  go_wp2_with (first
    | (go_at_call 57; refine (l1Acct_any _ _).mono ?_; rintro e w' ⟨rfl, rfl⟩))
  all_goals
    go_ret
    exact ⟨rfl, (Below.refl _ _).alloc (Nat.le_refl _) _⟩

theorem spec_CmdOk (a b c d e f g h : Int) (w : World) :
    Calls Try.prog 14 #[.agg #[.int .i64 a, .int .i64 b, .int .i64 c, .int .i64 d, .int .i64 e, .int .i64 f, .int .i64 g, .int .i64 h]] w
      fun x w' => x = .returned (.bool (cmdB a b c d e f g h)) ∧ Below w.heap.size w w' := by
  by_cases ha : 1 ≤ a ∧ a ≤ 10
  · by_cases h5 : a ≤ 5
    · exact spec_CmdOk_ord a b c d e f g h w (by omega)
    · exact spec_CmdOk_rest a b c d e f g h w (by omega)
  · exact spec_CmdOk_none a b c d e f g h w ha
end Go.Proofs.Ythmoddohkchhfaa
