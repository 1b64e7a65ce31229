/-
  For every input the law FnExactTapeBytes returns true, and its arguments read behind the call as they read before it; no condition.
-/
import Derived.Test.YtlaklbagcgbioaaRows
import Derived.Test.YtlaklbagcgbioaaOpen
import Derived.Test.YtlaklbagcgbioaaClosed
import Derived.Test.YtlaklbagcgbioaaLawTape
namespace Go.Proofs.Ytlaklbagcgbioaa.fnExactTapeBytes
open Go.ChangeShapes Go.WideShapes Go.ChangeAt Go.RowKit
open Go.ChangeMaps (open_string shut_string)
set_option linter.unusedVariables false

theorem own : ownKnob Try.prog.godebug = none := by kernel_rfl
theorem laidOut : laidOutB Try.prog = true := Closed.laidOut0

set_option maxRecDepth 100000 in
theorem lifted (os : Os) (started : os.Started) (H : Type) (enc : TypeId × Value → H) :
    ReturnsInHanded {} Try.checked os 17 .any (Rows.fnExactTapeBytesSpec.pre6 enc Try.prog Try.f17 Rows.fnExactTapeBytesRow.domain false) (Rows.fnExactTapeBytesSpec.post enc Try.prog Try.f17 false true false false) := by
  refine returnsInHanded_of_change (C := Try.checked) own started (by kernel_rfl) Try.func17
    (ChangeSpec.witness6 (enc := enc) (C := Try.checked) false ⟨#[], #[.slice none 0 0], []⟩ 8 (by kernel_rfl) (by kernel_rfl) (by kernel_rfl) (by kernel_rfl)) ?_
  intro W base args ds gs before hval0 hW hcnd _
  have hval : ∀ (j : Nat) t v, Try.f17.params[j]? = some t → args[j]? = some v → Value.okWide Try.prog W .any base t v := hval0
  have hW' := hW
  obtain ⟨p, q, hA0, hV, rfl, hfz, hnd⟩ := hW
  have hA : DataW.TrodAll enc Try.prog W 0 (fun _ => true) true Try.f17.params.toList args.toList ds p := hA0
  rw [Try.params17] at hA hval
  obtain ⟨v0, vs0, d0, ds0, p0, q0, hargs, rfl, rfl, h0, r0⟩ := trodAll_cons hA
  obtain ⟨rfl, rfl, rfl⟩ := trodAll_nil r0
  obtain rfl : args = #[v0] := by cases args; simp_all
  obtain ⟨rfl, rfl⟩ := trodVars_none hV
  have k0 := h0
  have lt0 : ∀ x ∈ p0, x.block < W.heap.size := by obtain ⟨m, hm⟩ := k0; exact DataW.trod_lt m _ _ _ hm
  obtain ⟨a0, n0, c0, z0, rfl, wn0, wl0, wz0⟩ : ∃ (A : Option Addr) (n c : Nat) (zs : List Int), v0 = .slice A n c ∧ n ≤ maxLen ∧ Lst W W.heap.size 8 A n zs ∧ ∀ q, q < n * 8 → I64 (num zs q) := by
    obtain ⟨fuel, hf⟩ := h0
    obtain ⟨a0, len0, cap0, rfl⟩ := okWide_slice Try.underlying62 (hval 0 62 v0 rfl rfl)
    exact open_rows Try.underlying62 Try.underlying58 (by kernel_rfl) (by kernel_rfl) rfl (by omega) (fields_int Try.underlying2 _ (by decide)) hf
  clear hA0 hval0
  refine (law_TapeBytes a0 n0 c0 z0 W wl0 wn0).mono fun e W' ⟨he, bel⟩ => ?_
  subst he
  exact ⟨_, rfl, _, _, _, [], _, [], hW', trodAll_mk1 (shut_bool Try.underlying4 _), (trodAll_cons_mk (Below.trod laidOut (by kernel_rfl) (of_decide_eq_true (by kernel_rfl)) k0 bel lt0) trodAll_mk0), rfl, bel.frame _, fun h => by cases h⟩

set_option maxHeartbeats 16000000 in
theorem closed : joinedFacts Try.prog 17 Try.f17 Rows.fnExactTapeBytesSpec Rows.fnExactTapeBytesRow = true := by
  simp only [joinedFacts, Bool.and_eq_true]
  repeat' apply And.intro
  all_goals (first | with_reducible exact Closed.mayEnter0 | with_reducible exact Closed.laidOut0 | with_reducible exact Closed.mapsRowed0 | with_reducible exact Closed.stopsHeard0 | (rw [Closed.lifts0]; rfl) | (as_aux_lemma => kernel_rfl))
theorem named : Try.prog.funcNamed Rows.fnExactTapeBytesRow.func = some 17 := by kernel_rfl
theorem instOf : Try.f17.isInstance Try.prog Rows.fnExactTapeBytesRow.origin Rows.fnExactTapeBytesRow.targs := of_decide_eq_true (by as_aux_lemma => kernel_rfl)
theorem wrapOf : Try.f17.isWrapper Try.prog Rows.fnExactTapeBytesRow.wrapper Rows.fnExactTapeBytesRow.mainSum := by unfold Func.isWrapper; first | (rw [if_pos (by decide +kernel)]; kernel_rfl) | (rw [if_neg (by decide +kernel)]; exact ⟨rfl, rfl⟩)
theorem over : Rows.fnExactTapeBytesRow.holds Try.pinned (OpenSpec.ofChange Rows.fnExactTapeBytesSpec) :=
  OpenClaim.holds_of_wide 17 Try.f17 rfl rfl rfl rfl rfl rfl rfl ⟨rfl, rfl, rfl, rfl, rfl⟩ rfl rfl rfl rfl rfl named Try.func17 closed
    instOf wrapOf
    (fun os started H enc _ => lifted os started H enc)

/-- the statement -/
theorem proved : Rows.FnExactTapeBytesSaid := over
#print axioms proved
end Go.Proofs.Ytlaklbagcgbioaa.fnExactTapeBytes
