/-
  Records: when one is right, its bytes, in both programs; the laws that hand over one command or one record.
-/
import Derived.Test.YtnldfbcelakimaaBytes
namespace Go.Proofs.Ytnldfbcelakimaa
open Go.RowKit Wire

def recB (a b c d e f g h : Int) : Bool := inB 0 a 1000000000 && (inB 1 b 5 && (inB 0 c 255 && (inB 0 d 255 && (inB 0 e 1000000000 && (inB 0 f 1000000000 && (inB 0 g 1000000 && (inB 0 h 1000000)))))))
def recL (a b c d e f g h : Nat) : List UInt8 := be 4 a ++ be 1 b ++ be 1 c ++ be 1 d ++ be 4 e ++ be 4 f ++ be 3 g ++ be 3 h
theorem recL_eq (a b c d e f g h : Nat) : (⟨(be 4 a).toArray⟩ : ByteArray) ++ ⟨(be 1 b).toArray⟩ ++ ⟨(be 1 c).toArray⟩ ++ ⟨(be 1 d).toArray⟩ ++ ⟨(be 4 e).toArray⟩ ++ ⟨(be 4 f).toArray⟩ ++ ⟨(be 3 g).toArray⟩ ++ ⟨(be 3 h).toArray⟩ = ⟨(recL a b c d e f g h).toArray⟩ := by
  simp only [ByteArray.mk_append_mk, recL]
theorem rec_fits {a b c d e f g h : Int} (k : recB a b c d e f g h = true) : (0 ≤ a ∧ a ≤ 1000000000) ∧ (0 ≤ b ∧ b ≤ 5) ∧ (0 ≤ c ∧ c ≤ 255) ∧ (0 ≤ d ∧ d ≤ 255) ∧ (0 ≤ e ∧ e ≤ 1000000000) ∧ (0 ≤ f ∧ f ≤ 1000000000) ∧ (0 ≤ g ∧ g ≤ 1000000) ∧ (0 ≤ h ∧ h ≤ 1000000) := by
  simp [recB, inB] at k
  omega
/-- what both RecBytes return -/
def recBytesB (a b c d e f g h : Int) : ByteArray := if recB a b c d e f g h = true then ⟨(recL a.toNat b.toNat c.toNat d.toNat e.toNat f.toNat g.toNat h.toNat).toArray⟩ else ⟨#[]⟩
end Go.Proofs.Ytnldfbcelakimaa
