/-
  Commands: when one is right, in both programs.
-/
import Derived.Test.YthmoddohkchhfaaNum
namespace Go.Proofs.Ythmoddohkchhfaa
open Go.RowKit Wire

/-- a command's cells -/
def cmdCells (a b c d e f g h : Int) : Array Value := #[.int .i64 a, .int .i64 b, .int .i64 c, .int .i64 d, .int .i64 e, .int .i64 f, .int .i64 g, .int .i64 h]

/-- a field that is used is in its range; one that is not is 0 -/
def cfB (u : Bool) (n lo hi : Int) : Bool := if u then inB lo n hi else n == 0

theorem fieldOk_any (u : Bool) (n lo hi : Int) (w : World) :
    Calls Try.prog 63 #[.bool u, .int .i64 n, .int .i64 lo, .int .i64 hi] w fun e w' => e = .returned (.bool (cfB u n lo hi)) ∧ w = w' := by
  have hnot : ∀ (x : Bool) (w : World), (Op.unary .not (.bool x)).run Try.prog w = .ok (.bool (!x)) w := fun _ _ => rfl
  cases u
  · go_enter Try.func63, Try.ntmps63
    go_wp2_with fail
    go_ret
    exact ⟨rfl, rfl⟩
  · go_enter Try.func63, Try.ntmps63
    go_wp2_with fail
    refine (within_any _ _ _ _).mono ?_
    rintro e w' ⟨rfl, rfl⟩
    go_wp2_with fail
    go_ret
    exact ⟨rfl, rfl⟩

/-- kind, symbol, account, id, side, price, quantity, mode -/
def cmdB (a b c d e f g h : Int) : Bool :=
  inB 1 a 10 && (inB 1 c 100 && (cfB (decide (a ≤ 7)) b 0 3 && (cfB (decide (a ≤ 7)) d 1 1000000000 && (cfB (decide (a ≤ 5)) e 1 2 &&
    (cfB ((decide (a ≤ 5) || a == 7) && a != 2) f 1 1000000 && (cfB (decide (a ≤ 5) || a == 7) g 1 1000000 && cfB (decide (a ≤ 5) || a == 7) h 1 3))))))

set_option maxHeartbeats 800000 in
set_option maxRecDepth 100000 in
theorem impl_CmdOk (a b c d e f g h : Int) (w : World) :
    Calls Try.prog 16 #[.agg #[.int .i64 a, .int .i64 b, .int .i64 c, .int .i64 d, .int .i64 e, .int .i64 f, .int .i64 g, .int .i64 h]] w
      fun x w' => x = .returned (.bool (cmdB a b c d e f g h)) ∧ Below w.heap.size w w' := by
  by_cases k0 : inB 1 a 10 = true
  · by_cases k5 : a ≤ 5
    · go_enter Try.func16, Try.ntmps16
      go_wp2_with (first | (go_at_call 61; refine (within_any _ _ _ _).mono ?_; rintro e w' ⟨rfl, rfl⟩) | (go_at_call 62; go_in) | (go_at_call 63; refine (fieldOk_any _ _ _ _ _).mono ?_; rintro e w' ⟨rfl, rfl⟩))
      all_goals
        go_ret
        refine ⟨ret_bool ?_, (by first | exact (Below.refl _ _).alloc (Nat.le_refl _) _ | exact ((Below.refl _ _).alloc (Nat.le_refl _) _).alloc (by simp) _)⟩
        simp [cmdB, *]
    · by_cases k7 : a = 7
      · subst k7
        go_enter Try.func16, Try.ntmps16
        go_wp2_with (first | (go_at_call 61; refine (within_any _ _ _ _).mono ?_; rintro e w' ⟨rfl, rfl⟩) | (go_at_call 62; go_in) | (go_at_call 63; refine (fieldOk_any _ _ _ _ _).mono ?_; rintro e w' ⟨rfl, rfl⟩))
        all_goals
          go_ret
          refine ⟨ret_bool ?_, (by first | exact (Below.refl _ _).alloc (Nat.le_refl _) _ | exact ((Below.refl _ _).alloc (Nat.le_refl _) _).alloc (by simp) _)⟩
          simp [cmdB, *]
      · have z : (decide (a ≤ 5) || a == 7) = false := by simp [k5, k7]
        have z5 : decide (a ≤ 5) = false := by simpa using k5
        have z7 : (a == 7) = false := by simpa using k7
        go_enter Try.func16, Try.ntmps16
        go_wp2_with (first | (go_at_call 61; refine (within_any _ _ _ _).mono ?_; rintro e w' ⟨rfl, rfl⟩) | (go_at_call 62; go_in) | (go_at_call 63; refine (fieldOk_any _ _ _ _ _).mono ?_; rintro e w' ⟨rfl, rfl⟩))
        all_goals
          go_ret
          refine ⟨ret_bool ?_, (by first | exact (Below.refl _ _).alloc (Nat.le_refl _) _ | exact ((Below.refl _ _).alloc (Nat.le_refl _) _).alloc (by simp) _)⟩
          simp [cmdB, *]
  · go_enter Try.func16, Try.ntmps16
    go_wp2_with (first | (go_at_call 61; refine (within_any _ _ _ _).mono ?_; rintro e w' ⟨rfl, rfl⟩) | (go_at_call 62; go_in) | (go_at_call 63; refine (fieldOk_any _ _ _ _ _).mono ?_; rintro e w' ⟨rfl, rfl⟩))
    all_goals
      go_ret
      refine ⟨ret_bool ?_, (by first | exact (Below.refl _ _).alloc (Nat.le_refl _) _ | exact ((Below.refl _ _).alloc (Nat.le_refl _) _).alloc (by simp) _)⟩
      simp [cmdB, *]
theorem l1Acct_any (n : Int) (w : World) :
    Calls Try.prog 57 #[.int .i64 n] w fun e w' => e = .returned (.bool (inB 1 n 100)) ∧ w = w' := by
  go_enter Try.func57, Try.ntmps57
  go_wp2_with (go_at_call 58; refine (l1In_any _ _ _ _).mono ?_; rintro e w' ⟨rfl, rfl⟩)
  go_ret
  exact ⟨rfl, rfl⟩
theorem l1Id_any (n : Int) (w : World) :
    Calls Try.prog 60 #[.int .i64 n] w fun e w' => e = .returned (.bool (inB 1 n 1000000000)) ∧ w = w' := by
  go_enter Try.func60, Try.ntmps60
  go_wp2_with (go_at_call 58; refine (l1In_any _ _ _ _).mono ?_; rintro e w' ⟨rfl, rfl⟩)
  go_ret
  exact ⟨rfl, rfl⟩

def coB (a d e f g h : Int) : Bool :=
  (if a = 2 then f == 0 else inB 1 f 1000000) && (inB 1 d 1000000000 && (inB 1 e 2 && (inB 1 g 1000000 && inB 1 h 3)))

set_option maxHeartbeats 800000 in
set_option maxRecDepth 100000 in
theorem l1Order_any (a b c d e f g h : Int) (w : World) :
    Calls Try.prog 59 #[.agg #[.int .i64 a, .int .i64 b, .int .i64 c, .int .i64 d, .int .i64 e, .int .i64 f, .int .i64 g, .int .i64 h]] w
      fun x w' => x = .returned (.bool (coB a d e f g h)) ∧ Below w.heap.size w w' := by
  by_cases k2 : a = 2
  · subst k2
    go_enter Try.func59, Try.ntmps59
    go_wp2_with (first | (go_at_call 58; refine (l1In_any _ _ _ _).mono ?_; rintro e w' ⟨rfl, rfl⟩) | (go_at_call 60; refine (l1Id_any _ _).mono ?_; rintro e w' ⟨rfl, rfl⟩))
    all_goals
      go_ret
      refine ⟨ret_bool ?_, (Below.refl _ _).alloc (Nat.le_refl _) _⟩
      simp [coB, *]
  · have z : (a == 2) = false := by simpa using k2
    go_enter Try.func59, Try.ntmps59
    go_wp2_with (first | (go_at_call 58; refine (l1In_any _ _ _ _).mono ?_; rintro e w' ⟨rfl, rfl⟩) | (go_at_call 60; refine (l1Id_any _ _).mono ?_; rintro e w' ⟨rfl, rfl⟩))
    all_goals
      go_ret
      refine ⟨ret_bool ?_, (Below.refl _ _).alloc (Nat.le_refl _) _⟩
      simp [coB, *]

theorem ten (a : Int) (h : inB 1 a 10 = true) : a = 1 ∨ a = 2 ∨ a = 3 ∨ a = 4 ∨ a = 5 ∨ a = 6 ∨ a = 7 ∨ a = 8 ∨ a = 9 ∨ a = 10 := by
  simp [inB] at h
  omega
end Go.Proofs.Ythmoddohkchhfaa
