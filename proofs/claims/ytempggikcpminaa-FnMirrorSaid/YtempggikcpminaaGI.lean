/-
  Cmd, CmdS, Bytes, Rec, ListRec.
-/
import Derived.Test.YtempggikcpminaaNum
import Derived.Test.YtempggikcpminaaOwn
import Derived.Handy
import Derived.Deep.RegionHeld3
import Derived.Test.YtempggikcpminaaList
namespace Go.Proofs.Ytempggikcpminaa
open Go.RowKit Wire

/-- a command's cells -/
def cmdCells (a b c d e f g h : Int) : Array Value := #[.int .i64 a, .int .i64 b, .int .i64 c, .int .i64 d, .int .i64 e, .int .i64 f, .int .i64 g, .int .i64 h]

/-- a field that is used is in its range; one that is not is 0 -/
def cfB (u : Bool) (n lo hi : Int) : Bool := if u then inB lo n hi else n == 0

/-- kind, symbol, account, id, side, price, quantity, mode -/
def cmdB (a b c d e f g h : Int) : Bool :=
  inB 1 a 10 && (inB 1 c 100 && (cfB (decide (a ≤ 7)) b 0 3 && (cfB (decide (a ≤ 7)) d 1 1000000000 && (cfB (decide (a ≤ 5)) e 1 2 &&
    (cfB ((decide (a ≤ 5) || a == 7) && a != 2) f 1 1000000 && (cfB (decide (a ≤ 5) || a == 7) g 1 1000000 && cfB (decide (a ≤ 5) || a == 7) h 1 3))))))

theorem l1Acct_any (n : Int) (w : World) :
    Calls Try.prog 117 #[.int .i64 n] w fun e w' => e = .returned (.bool (inB 1 n 100)) ∧ w = w' := by
  go_enter Try.func117, Try.ntmps117
  go_wp2_with (go_at_call 84; refine (l1In_any _ _ _ _).mono ?_; rintro e w' ⟨rfl, rfl⟩)
  go_ret
  exact ⟨rfl, rfl⟩
theorem l1Id_any (n : Int) (w : World) :
    Calls Try.prog 116 #[.int .i64 n] w fun e w' => e = .returned (.bool (inB 1 n 1000000000)) ∧ w = w' := by
  go_enter Try.func116, Try.ntmps116
  go_wp2_with (go_at_call 84; refine (l1In_any _ _ _ _).mono ?_; rintro e w' ⟨rfl, rfl⟩)
  go_ret
  exact ⟨rfl, rfl⟩

def coB (a d e f g h : Int) : Bool :=
  (if a = 2 then f == 0 else inB 1 f 1000000) && (inB 1 d 1000000000 && (inB 1 e 2 && (inB 1 g 1000000 && inB 1 h 3)))

theorem ten (a : Int) (h : inB 1 a 10 = true) : a = 1 ∨ a = 2 ∨ a = 3 ∨ a = 4 ∨ a = 5 ∨ a = 6 ∨ a = 7 ∨ a = 8 ∨ a = 9 ∨ a = 10 := by
  simp [inB] at h
  omega
end Go.Proofs.Ytempggikcpminaa

namespace Go.Proofs.Ytempggikcpminaa
open Go.RowKit Wire

theorem cmd_ord (a b c d e f g h : Int) (ha : 1 ≤ a) (h5 : a ≤ 5) : cmdB a b c d e f g h = (inB 1 c 100 && (inB 0 b 3 && coB a d e f g h)) := by
  have h0 : inB 1 a 10 = true := inB_yes ha (by omega)
  have h5' : decide (a ≤ 5) = true := by simpa using h5
  have h7' : decide (a ≤ 7) = true := by simp; omega
  by_cases k2 : a = 2
  · subst k2
    simp only [cmdB, coB, cfB, h0]
    cases inB 1 c 100 <;> cases inB 0 b 3 <;> cases inB 1 d 1000000000 <;> cases inB 1 e 2 <;> cases inB 1 g 1000000 <;> cases inB 1 h 3 <;> simp
  · have z : (a != 2) = true := by simpa using k2
    simp only [cmdB, coB, cfB, h0, h5', h7', k2, z]
    cases inB 1 c 100 <;> cases inB 0 b 3 <;> cases inB 1 d 1000000000 <;> cases inB 1 e 2 <;> cases inB 1 g 1000000 <;> cases inB 1 h 3 <;> simp

end Go.Proofs.Ytempggikcpminaa

namespace Go.Proofs.Ytempggikcpminaa
open Go.RowKit Wire

/-- eight cells of one block -/
def Eight (w : World) (g : Nat) (a b c d e f h i : Int) : Prop :=
  w.cell? ⟨g, 0, none⟩ = some (.int .i64 a) ∧ w.cell? ⟨g, 1, none⟩ = some (.int .i64 b) ∧ w.cell? ⟨g, 2, none⟩ = some (.int .i64 c) ∧ w.cell? ⟨g, 3, none⟩ = some (.int .i64 d) ∧
  w.cell? ⟨g, 4, none⟩ = some (.int .i64 e) ∧ w.cell? ⟨g, 5, none⟩ = some (.int .i64 f) ∧ w.cell? ⟨g, 6, none⟩ = some (.int .i64 h) ∧ w.cell? ⟨g, 7, none⟩ = some (.int .i64 i)

/-- the frame of a command of which all fields fit -/
def frameL (a b c d e f g h : Nat) : List UInt8 := be 1 a ++ be 1 b ++ be 1 c ++ be 4 d ++ be 1 e ++ be 3 f ++ be 3 g ++ be 1 h
theorem frameL_eq (a b c d e f g h : Nat) : (⟨(be 1 a).toArray⟩ : ByteArray) ++ ⟨(be 1 b).toArray⟩ ++ ⟨(be 1 c).toArray⟩ ++ ⟨(be 4 d).toArray⟩ ++ ⟨(be 1 e).toArray⟩ ++ ⟨(be 3 f).toArray⟩ ++ ⟨(be 3 g).toArray⟩ ++ ⟨(be 1 h).toArray⟩ = ⟨(frameL a b c d e f g h).toArray⟩ := by
  simp only [ByteArray.mk_append_mk, frameL]

theorem fld_bound {u : Bool} {n lo hi : Int} (h : cfB u n lo hi = true) (h0 : 0 ≤ lo) (h1 : 0 ≤ hi) : 0 ≤ n ∧ n ≤ hi := by
  cases u
  · simp [cfB] at h; omega
  · simp [cfB, inB] at h; omega
theorem cmd_fits {a b c d e f g h : Int} (k : cmdB a b c d e f g h = true) :
    (0 ≤ a ∧ a ≤ 10) ∧ (0 ≤ b ∧ b ≤ 3) ∧ (0 ≤ c ∧ c ≤ 100) ∧ (0 ≤ d ∧ d ≤ 1000000000) ∧ (0 ≤ e ∧ e ≤ 2) ∧ (0 ≤ f ∧ f ≤ 1000000) ∧ (0 ≤ g ∧ g ≤ 1000000) ∧ (0 ≤ h ∧ h ≤ 3) := by
  unfold cmdB at k
  simp only [Bool.and_eq_true] at k
  obtain ⟨k1, k2, k3, k4, k5, k6, k7, k8⟩ := k
  simp [inB] at k1 k2
  exact ⟨by omega, fld_bound k3 (by omega) (by omega), by omega, fld_bound k4 (by omega) (by omega), fld_bound k5 (by omega) (by omega), fld_bound k6 (by omega) (by omega), fld_bound k7 (by omega) (by omega), fld_bound k8 (by omega) (by omega)⟩
/-- what both CmdBytes return -/
def cmdBytesB (a b c d e f g h : Int) : ByteArray := if cmdB a b c d e f g h = true then ⟨(frameL a.toNat b.toNat c.toNat d.toNat e.toNat f.toNat g.toNat h.toNat).toArray⟩ else ⟨#[]⟩
end Go.Proofs.Ytempggikcpminaa

namespace Go.Proofs.Ytempggikcpminaa
open Go.RowKit Wire

def recB (a b c d e f g h : Int) : Bool := inB 0 a 1000000000 && (inB 1 b 5 && (inB 0 c 255 && (inB 0 d 255 && (inB 0 e 1000000000 && (inB 0 f 1000000000 && (inB 0 g 1000000 && (inB 0 h 1000000)))))))
def recL (a b c d e f g h : Nat) : List UInt8 := be 4 a ++ be 1 b ++ be 1 c ++ be 1 d ++ be 4 e ++ be 4 f ++ be 3 g ++ be 3 h
theorem recL_eq (a b c d e f g h : Nat) : (⟨(be 4 a).toArray⟩ : ByteArray) ++ ⟨(be 1 b).toArray⟩ ++ ⟨(be 1 c).toArray⟩ ++ ⟨(be 1 d).toArray⟩ ++ ⟨(be 4 e).toArray⟩ ++ ⟨(be 4 f).toArray⟩ ++ ⟨(be 3 g).toArray⟩ ++ ⟨(be 3 h).toArray⟩ = ⟨(recL a b c d e f g h).toArray⟩ := by
  simp only [ByteArray.mk_append_mk, recL]
theorem rec_fits {a b c d e f g h : Int} (k : recB a b c d e f g h = true) : (0 ≤ a ∧ a ≤ 1000000000) ∧ (0 ≤ b ∧ b ≤ 5) ∧ (0 ≤ c ∧ c ≤ 255) ∧ (0 ≤ d ∧ d ≤ 255) ∧ (0 ≤ e ∧ e ≤ 1000000000) ∧ (0 ≤ f ∧ f ≤ 1000000000) ∧ (0 ≤ g ∧ g ≤ 1000000) ∧ (0 ≤ h ∧ h ≤ 1000000) := by
  simp [recB, inB] at k
  omega
/-- what both RecBytes return -/
def recBytesB (a b c d e f g h : Int) : ByteArray := if recB a b c d e f g h = true then ⟨(recL a.toNat b.toNat c.toNat d.toNat e.toNat f.toNat g.toNat h.toNat).toArray⟩ else ⟨#[]⟩
set_option maxHeartbeats 800000 in
set_option maxRecDepth 100000 in
theorem impl_RecOk (a b c d e f g h : Int) (w : World) :
    Calls Try.prog 99 #[.agg #[.int .i64 a, .int .i64 b, .int .i64 c, .int .i64 d, .int .i64 e, .int .i64 f, .int .i64 g, .int .i64 h]] w fun x w' => x = .returned (.bool (recB a b c d e f g h)) ∧ Below w.heap.size w w' := by
  go_enter Try.func99, Try.ntmps99
  go_wp2_with (go_at_call 36; refine (within_any _ _ _ _).mono ?_; rintro e w' ⟨rfl, rfl⟩)
  all_goals
    go_ret
    refine ⟨ret_bool ?_, (Below.refl _ _).alloc (Nat.le_refl _) _⟩
    simp [recB, *]
end Go.Proofs.Ytempggikcpminaa

namespace Go.Proofs.Ytempggikcpminaa
open Go.RowKit Wire

theorem rec_info : (Try.prog.info? 39).map (fun i => (i.zero, i.size, i.bytes)) = some (some (.agg #[.int .i64 0, .int .i64 0, .int .i64 0, .int .i64 0, .int .i64 0, .int .i64 0, .int .i64 0, .int .i64 0]), 8, 64) := by kernel_rfl
theorem zero8 : ∀ j, j < (#[.int .i64 0, .int .i64 0, .int .i64 0, .int .i64 0, .int .i64 0, .int .i64 0, .int .i64 0, .int .i64 0] : Array Value).size → (#[.int .i64 0, .int .i64 0, .int .i64 0, .int .i64 0, .int .i64 0, .int .i64 0, .int .i64 0, .int .i64 0] : Array Value)[j]? = some (.int .i64 0) := by
  intro j hj
  simp at hj
  rcases (show j = 0 ∨ j = 1 ∨ j = 2 ∨ j = 3 ∨ j = 4 ∨ j = 5 ∨ j = 6 ∨ j = 7 from by omega) with rfl | rfl | rfl | rfl | rfl | rfl | rfl | rfl <;> rfl
set_option maxHeartbeats 800000 in
set_option maxRecDepth 100000 in
theorem eqRec_one (a b c d e f g h : Int) (w : World) :
    Calls Try.prog 53 #[.agg #[.int .i64 a, .int .i64 b, .int .i64 c, .int .i64 d, .int .i64 e, .int .i64 f, .int .i64 g, .int .i64 h], .agg #[.int .i64 a, .int .i64 b, .int .i64 c, .int .i64 d, .int .i64 e, .int .i64 f, .int .i64 g, .int .i64 h]] w fun x w' => x = .returned (.bool true) ∧ Below w.heap.size w w' := by
  go_enter Try.func53, Try.ntmps53
  go_wp2
  go_ret
  exact ⟨rfl, by go_grown⟩
set_option maxHeartbeats 1600000 in
set_option maxRecDepth 100000 in
theorem eqRecS_same (A B : Option Addr) (n c d : Nat) (zs : List Int) (w : World) (hA : Lst w w.heap.size 8 A n zs) (hB : Lst w w.heap.size 8 B n zs) (hn : n ≤ 1048576) :
    Calls Try.prog 19 #[.slice A n c, .slice B n d] w fun e w' => e = .returned (.bool true) ∧ Below w.heap.size w w' := by
  go_enter Try.func19, Try.ntmps19
  go_wp2_with fail
  go_loopw [5] (fun i wr => ∃ k : Nat, k ≤ n ∧ i = .int .i64 (k : Int) ∧ Below w.heap.size w wr) (fun i _ => n - (intOf i).toNat)
  case atStart => exact ⟨0, Nat.zero_le _, rfl, Below.refl _ _⟩
  case round =>
    obtain ⟨k, hk, rfl, hbel⟩ := hrel
    by_cases hlt : k < n
    · obtain ⟨b, o, rfl, hb, c0, c1, c2, c3, c4, c5, c6, c7⟩ := (hA.below hbel).row8 hlt
      obtain ⟨b', o', rfl, hb', d0, d1, d2, d3, d4, d5, d6, d7⟩ := (hB.below hbel).row8 hlt
      clear hA hB
      go_wp2_with fail
      have hb1 := hbel.size
      go_region_held3 (fun w' => Below w.heap.size w w' ∧ w'.cell? ⟨b, o + k * 8, none⟩ = some (.int .i64 (num zs (k * 8))) ∧ w'.cell? ⟨b, o + k * 8 + 1, none⟩ = some (.int .i64 (num zs (k * 8 + 1))) ∧ w'.cell? ⟨b, o + k * 8 + 2, none⟩ = some (.int .i64 (num zs (k * 8 + 2))) ∧ w'.cell? ⟨b, o + k * 8 + 3, none⟩ = some (.int .i64 (num zs (k * 8 + 3))) ∧ w'.cell? ⟨b, o + k * 8 + 4, none⟩ = some (.int .i64 (num zs (k * 8 + 4))) ∧ w'.cell? ⟨b, o + k * 8 + 5, none⟩ = some (.int .i64 (num zs (k * 8 + 5))) ∧ w'.cell? ⟨b, o + k * 8 + 6, none⟩ = some (.int .i64 (num zs (k * 8 + 6))) ∧ w'.cell? ⟨b, o + k * 8 + 7, none⟩ = some (.int .i64 (num zs (k * 8 + 7))) ∧ w'.cell? ⟨b', o' + k * 8, none⟩ = some (.int .i64 (num zs (k * 8))) ∧ w'.cell? ⟨b', o' + k * 8 + 1, none⟩ = some (.int .i64 (num zs (k * 8 + 1))) ∧ w'.cell? ⟨b', o' + k * 8 + 2, none⟩ = some (.int .i64 (num zs (k * 8 + 2))) ∧ w'.cell? ⟨b', o' + k * 8 + 3, none⟩ = some (.int .i64 (num zs (k * 8 + 3))) ∧ w'.cell? ⟨b', o' + k * 8 + 4, none⟩ = some (.int .i64 (num zs (k * 8 + 4))) ∧ w'.cell? ⟨b', o' + k * 8 + 5, none⟩ = some (.int .i64 (num zs (k * 8 + 5))) ∧ w'.cell? ⟨b', o' + k * 8 + 6, none⟩ = some (.int .i64 (num zs (k * 8 + 6))) ∧ w'.cell? ⟨b', o' + k * 8 + 7, none⟩ = some (.int .i64 (num zs (k * 8 + 7)))) ((((try dsimp only); repeat' apply And.intro) <;> (first | assumption | (refine below_later ?_ (by assumption); first | assumption | (simp only [*]; done) | (go_grown; done)) | (refine cell_later (by assumption) ?_; first | assumption | (simp only [*]; done) | (simp [go_sem]; done)) | (go_grown; done) | (simp [go_sem]; done))))
        ((go_at_call 53; refine (eqRec_one _ _ _ _ _ _ _ _ _).mono ?_; rintro e w' ⟨rfl, hb⟩))
      go_wp2_with fail
      go_roundw
      case rel => exact ⟨k + 1, by omega, by go_num, by first | assumption | (simp only [*]; done)⟩
      case measure => simp [intOf]; omega
    · obtain rfl : k = n := by omega
      go_wp2_with fail
      go_ret
      exact ⟨rfl, hbel⟩
end Go.Proofs.Ytempggikcpminaa
