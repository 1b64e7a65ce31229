/-
  A command's frame and a record's bytes, in both programs.
-/
import Derived.Test.YtnldfbcelakimaaCmdS
import Derived.Test.YtnldfbcelakimaaOwn
import Derived.Handy
import Derived.Deep.RegionHeld3
namespace Go.Proofs.Ytnldfbcelakimaa
open Go.RowKit Wire

/-- eight cells of one block -/
def Eight (w : World) (g : Nat) (a b c d e f h i : Int) : Prop :=
  w.cell? ⟨g, 0, none⟩ = some (.int .i64 a) ∧ w.cell? ⟨g, 1, none⟩ = some (.int .i64 b) ∧ w.cell? ⟨g, 2, none⟩ = some (.int .i64 c) ∧ w.cell? ⟨g, 3, none⟩ = some (.int .i64 d) ∧
  w.cell? ⟨g, 4, none⟩ = some (.int .i64 e) ∧ w.cell? ⟨g, 5, none⟩ = some (.int .i64 f) ∧ w.cell? ⟨g, 6, none⟩ = some (.int .i64 h) ∧ w.cell? ⟨g, 7, none⟩ = some (.int .i64 i)

/-- the frame of a command of which all fields fit -/
def frameL (a b c d e f g h : Nat) : List UInt8 := be 1 a ++ be 1 b ++ be 1 c ++ be 4 d ++ be 1 e ++ be 3 f ++ be 3 g ++ be 1 h
theorem frameL_eq (a b c d e f g h : Nat) : (⟨(be 1 a).toArray⟩ : ByteArray) ++ ⟨(be 1 b).toArray⟩ ++ ⟨(be 1 c).toArray⟩ ++ ⟨(be 4 d).toArray⟩ ++ ⟨(be 1 e).toArray⟩ ++ ⟨(be 3 f).toArray⟩ ++ ⟨(be 3 g).toArray⟩ ++ ⟨(be 1 h).toArray⟩ = ⟨(frameL a b c d e f g h).toArray⟩ := by
  simp only [ByteArray.mk_append_mk, frameL]

theorem fld_bound {u : Bool} {n lo hi : Int} (h : cfB u n lo hi = true) (h0 : 0 ≤ lo) (h1 : 0 ≤ hi) : 0 ≤ n ∧ n ≤ hi := by
  cases u
  · simp [cfB] at h; omega
  · simp [cfB, inB] at h; omega
theorem cmd_fits {a b c d e f g h : Int} (k : cmdB a b c d e f g h = true) :
    (0 ≤ a ∧ a ≤ 10) ∧ (0 ≤ b ∧ b ≤ 3) ∧ (0 ≤ c ∧ c ≤ 100) ∧ (0 ≤ d ∧ d ≤ 1000000000) ∧ (0 ≤ e ∧ e ≤ 2) ∧ (0 ≤ f ∧ f ≤ 1000000) ∧ (0 ≤ g ∧ g ≤ 1000000) ∧ (0 ≤ h ∧ h ≤ 3) := by
  unfold cmdB at k
  simp only [Bool.and_eq_true] at k
  obtain ⟨k1, k2, k3, k4, k5, k6, k7, k8⟩ := k
  simp [inB] at k1 k2
  exact ⟨by omega, fld_bound k3 (by omega) (by omega), by omega, fld_bound k4 (by omega) (by omega), fld_bound k5 (by omega) (by omega), fld_bound k6 (by omega) (by omega), fld_bound k7 (by omega) (by omega), fld_bound k8 (by omega) (by omega)⟩
/-- what both CmdBytes return -/
def cmdBytesB (a b c d e f g h : Int) : ByteArray := if cmdB a b c d e f g h = true then ⟨(frameL a.toNat b.toNat c.toNat d.toNat e.toNat f.toNat g.toNat h.toNat).toArray⟩ else ⟨#[]⟩
end Go.Proofs.Ytnldfbcelakimaa
