/-
  Side and Best, the program's and the document's.
-/
import Derived.Test.YtempggikcpminaaOpened
import Derived.Test.YtempggikcpminaaFindS
namespace Go.Proofs.Ytempggikcpminaa
open Go.RowKit Wire

def sideN (bk : Bool) (side : Int) (n m : Nat) : Nat := if bk = true ∧ side = 1 then n else if bk = true ∧ side = 2 then m else 0
def sideZ (bk : Bool) (side : Int) (za zb : List Int) : List Int := if bk = true ∧ side = 1 then za else if bk = true ∧ side = 2 then zb else []
theorem sideN_no (side : Int) (n m : Nat) : sideN false side n m = 0 := by simp [sideN]
theorem sideZ_no (side : Int) (za zb : List Int) : sideZ false side za zb = [] := by simp [sideZ]
theorem own_mono {w : World} {base base' sz n : Nat} {e : TypeId} {v : Value} {xs : List Value} (h : w.ownsRow base e sz v n xs) (hb : base' ≤ base) : w.ownsRow base' e sz v n xs :=
  ⟨h.1, h.2.imp id (fun ⟨g, cap, cur, a, b, c⟩ => ⟨g, cap, cur, a, Nat.le_trans hb b, c⟩)⟩
def sideOkB (side : Int) : Bool := decide (side = 1) || decide (side = 2)
theorem side_cases (side : Int) : (side = 1 ∧ sideOkB side = true) ∨ (side = 2 ∧ sideOkB side = true) ∨ (side ≠ 1 ∧ side ≠ 2 ∧ sideOkB side = false) := by
  unfold sideOkB
  by_cases h1 : side = 1
  · exact .inl ⟨h1, by simp [h1]⟩
  · by_cases h2 : side = 2
    · exact .inr (.inl ⟨h2, by simp [h2]⟩)
    · exact .inr (.inr ⟨h1, h2, by simp [h1, h2]⟩)
set_option maxRecDepth 100000 in
theorem impl_sideOk (side : Int) (w : World) :
    Calls Try.prog 35 #[.int .i64 side] w fun e w' => e = .returned (.bool (sideOkB side)) ∧ w = w' := by
  rcases side_cases side with ⟨rfl, hok⟩ | ⟨rfl, hok⟩ | ⟨h1, h2, hok⟩
  · rw [hok]
    go_enter Try.func35, Try.ntmps35
    go_wp2_with fail
    go_ret
    exact ⟨rfl, rfl⟩
  · rw [hok]
    go_enter Try.func35, Try.ntmps35
    go_wp2_with fail
    go_ret
    exact ⟨rfl, rfl⟩
  · rw [hok]
    have t1 : (side == 1) = false := beq_eq_false_iff_ne.2 h1
    have t2 : (side == 2) = false := beq_eq_false_iff_ne.2 h2
    go_enter Try.func35, Try.ntmps35
    go_wp2_with fail
    go_ret
    exact ⟨rfl, rfl⟩
set_option maxRecDepth 100000 in
theorem spec_isSide (side : Int) (w : World) :
    Calls Try.prog 82 #[.int .i64 side] w fun e w' => e = .returned (.bool (sideOkB side)) ∧ w = w' := by
  have h : inB 1 side 2 = sideOkB side := by
    unfold inB sideOkB
    rw [Bool.eq_iff_iff]
    simp
    omega
  go_enter Try.func82, Try.ntmps82
  go_wp2_with (go_at_call 84; refine (l1In_any _ _ _ _).mono ?_; rintro e w' ⟨rfl, rfl⟩)
  go_ret
  exact ⟨rfl, rfl⟩
theorem own_empty (w : World) (e : TypeId) (sz : Nat) : (w.alloc (.cells #[] e)).ownsRow w.heap.size e sz (.slice (some ⟨w.heap.size, 0, none⟩) 0 0) 0 [] :=
  ⟨by simp, .inr ⟨w.heap.size, 0, #[], rfl, Nat.le_refl _, heap_alloc_new w _, Nat.le_refl _, Nat.zero_le _, by simp, by simp⟩⟩
set_option maxRecDepth 100000 in
theorem impl_side (L1 L2 : Addr) (side : Int) (w : World) :
    Calls Try.prog 73 #[.agg #[.pointer (some L1), .pointer (some L2)], .int .i64 side] w fun e w' => e = .returned (if side = 1 then .pointer (some L1) else .pointer (some L2)) ∧ Below w.heap.size w w' := by
  by_cases h : side = 1
  · subst h
    rw [if_pos rfl]
    go_enter Try.func73, Try.ntmps73
    go_wp2_with fail
    go_ret
    exact ⟨rfl, by go_grown⟩
  · rw [if_neg h]
    have t : (side == 1) = false := beq_eq_false_iff_ne.2 h
    go_enter Try.func73, Try.ntmps73
    go_wp2_with fail
    go_ret
    exact ⟨rfl, by go_grown⟩
end Go.Proofs.Ytempggikcpminaa
