/-
  Commands: when one is right, in the specification's program; a law's own command handed on.
-/
import Derived.Test.YtnldfbcelakimaaCmd
namespace Go.Proofs.Ytnldfbcelakimaa
open Go.RowKit Wire

theorem cmd_ord (a b c d e f g h : Int) (ha : 1 ≤ a) (h5 : a ≤ 5) : cmdB a b c d e f g h = (inB 1 c 100 && (inB 0 b 3 && coB a d e f g h)) := by
  have h0 : inB 1 a 10 = true := inB_yes ha (by omega)
  have h5' : decide (a ≤ 5) = true := by simpa using h5
  have h7' : decide (a ≤ 7) = true := by simp; omega
  by_cases k2 : a = 2
  · subst k2
    simp only [cmdB, coB, cfB, h0]
    cases inB 1 c 100 <;> cases inB 0 b 3 <;> cases inB 1 d 1000000000 <;> cases inB 1 e 2 <;> cases inB 1 g 1000000 <;> cases inB 1 h 3 <;> simp
  · have z : (a != 2) = true := by simpa using k2
    simp only [cmdB, coB, cfB, h0, h5', h7', k2, z]
    cases inB 1 c 100 <;> cases inB 0 b 3 <;> cases inB 1 d 1000000000 <;> cases inB 1 e 2 <;> cases inB 1 g 1000000 <;> cases inB 1 h 3 <;> simp

end Go.Proofs.Ytnldfbcelakimaa
