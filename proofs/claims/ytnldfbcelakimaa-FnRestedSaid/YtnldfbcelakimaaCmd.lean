/-
  Commands: when one is right, in both programs.
-/
import Derived.Test.YtnldfbcelakimaaNum
namespace Go.Proofs.Ytnldfbcelakimaa
open Go.RowKit Wire

/-- a command's cells -/
def cmdCells (a b c d e f g h : Int) : Array Value := #[.int .i64 a, .int .i64 b, .int .i64 c, .int .i64 d, .int .i64 e, .int .i64 f, .int .i64 g, .int .i64 h]

/-- a field that is used is in its range; one that is not is 0 -/
def cfB (u : Bool) (n lo hi : Int) : Bool := if u then inB lo n hi else n == 0

/-- kind, symbol, account, id, side, price, quantity, mode -/
def cmdB (a b c d e f g h : Int) : Bool :=
  inB 1 a 10 && (inB 1 c 100 && (cfB (decide (a ≤ 7)) b 0 3 && (cfB (decide (a ≤ 7)) d 1 1000000000 && (cfB (decide (a ≤ 5)) e 1 2 &&
    (cfB ((decide (a ≤ 5) || a == 7) && a != 2) f 1 1000000 && (cfB (decide (a ≤ 5) || a == 7) g 1 1000000 && cfB (decide (a ≤ 5) || a == 7) h 1 3))))))

theorem l1Acct_any (n : Int) (w : World) :
    Calls Try.prog 106 #[.int .i64 n] w fun e w' => e = .returned (.bool (inB 1 n 100)) ∧ w = w' := by
  go_enter Try.func106, Try.ntmps106
  go_wp2_with (go_at_call 79; refine (l1In_any _ _ _ _).mono ?_; rintro e w' ⟨rfl, rfl⟩)
  go_ret
  exact ⟨rfl, rfl⟩
theorem l1Id_any (n : Int) (w : World) :
    Calls Try.prog 105 #[.int .i64 n] w fun e w' => e = .returned (.bool (inB 1 n 1000000000)) ∧ w = w' := by
  go_enter Try.func105, Try.ntmps105
  go_wp2_with (go_at_call 79; refine (l1In_any _ _ _ _).mono ?_; rintro e w' ⟨rfl, rfl⟩)
  go_ret
  exact ⟨rfl, rfl⟩

def coB (a d e f g h : Int) : Bool :=
  (if a = 2 then f == 0 else inB 1 f 1000000) && (inB 1 d 1000000000 && (inB 1 e 2 && (inB 1 g 1000000 && inB 1 h 3)))

theorem ten (a : Int) (h : inB 1 a 10 = true) : a = 1 ∨ a = 2 ∨ a = 3 ∨ a = 4 ∨ a = 5 ∨ a = 6 ∨ a = 7 ∨ a = 8 ∨ a = 9 ∨ a = 10 := by
  simp [inB] at h
  omega
end Go.Proofs.Ytnldfbcelakimaa
