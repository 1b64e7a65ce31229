/-
  For every input the law FnExactCmdOk returns true, and its arguments read behind the call as they read before it; no condition.
-/
import Derived.Test.YthmoddohkchhfaaRows
import Derived.Test.YthmoddohkchhfaaClosed
import Derived.Test.YthmoddohkchhfaaLawCmd
namespace Go.Proofs.Ythmoddohkchhfaa.fnExactCmdOk
open Go.ChangeShapes Go.WideShapes Go.ChangeAt Go.RowKit
open Go.ChangeMaps (open_string shut_string)
set_option linter.unusedVariables false

theorem own : ownKnob Try.prog.godebug = none := by kernel_rfl
theorem laidOut : laidOutB Try.prog = true := Closed.laidOut0

set_option maxRecDepth 100000 in
theorem lifted (os : Os) (started : os.Started) (H : Type) (enc : TypeId × Value → H) :
    ReturnsInHanded {} Try.checked os 3 .any (Rows.fnExactCmdOkSpec.pre6 enc Try.prog Try.f3 Rows.fnExactCmdOkRow.domain false) (Rows.fnExactCmdOkSpec.post enc Try.prog Try.f3 false true false false) := by
  refine returnsInHanded_of_change (C := Try.checked) own started (by kernel_rfl) Try.func3
    (ChangeSpec.witness6 (enc := enc) (C := Try.checked) false ⟨#[], #[.agg #[.int .i64 0, .int .i64 0, .int .i64 0, .int .i64 0, .int .i64 0, .int .i64 0, .int .i64 0, .int .i64 0]], []⟩ 8 (by kernel_rfl) (by kernel_rfl) (by kernel_rfl) (by kernel_rfl)) ?_
  intro W base args ds gs before hval0 hW hcnd _
  have hval : ∀ (j : Nat) t v, Try.f3.params[j]? = some t → args[j]? = some v → Value.okWide Try.prog W .any base t v := hval0
  have hW' := hW
  obtain ⟨p, q, hA0, hV, rfl, hfz, hnd⟩ := hW
  have hA : DataW.TrodAll enc Try.prog W 0 (fun _ => true) true Try.f3.params.toList args.toList ds p := hA0
  rw [Try.params3] at hA hval
  obtain ⟨v0, vs0, d0, ds0, p0, q0, hargs, rfl, rfl, h0, r0⟩ := trodAll_cons hA
  obtain ⟨rfl, rfl, rfl⟩ := trodAll_nil r0
  obtain rfl : args = #[v0] := by cases args; simp_all
  obtain ⟨rfl, rfl⟩ := trodVars_none hV
  have k0 := h0
  have lt0 : ∀ x ∈ p0, x.block < W.heap.size := by obtain ⟨m, hm⟩ := k0; exact DataW.trod_lt m _ _ _ hm
  obtain ⟨c0_0, c0_1, c0_2, c0_3, c0_4, c0_5, c0_6, c0_7, y0_0, y0_1, y0_2, y0_3, y0_4, y0_5, y0_6, y0_7, m0, rfl, rfl, rfl, hy0_0, hy0_1, hy0_2, hy0_3, hy0_4, hy0_5, hy0_6, hy0_7⟩ := open_agg8 Try.underlying23 (by kernel_rfl) (by kernel_rfl) (hval 0 23 v0 rfl rfl) h0
  obtain ⟨x0_0, e0_0, rfl, w0_0⟩ := DataW.trod_int Try.underlying2 hy0_0
  obtain ⟨x0_1, e0_1, rfl, w0_1⟩ := DataW.trod_int Try.underlying2 hy0_1
  obtain ⟨x0_2, e0_2, rfl, w0_2⟩ := DataW.trod_int Try.underlying2 hy0_2
  obtain ⟨x0_3, e0_3, rfl, w0_3⟩ := DataW.trod_int Try.underlying2 hy0_3
  obtain ⟨x0_4, e0_4, rfl, w0_4⟩ := DataW.trod_int Try.underlying2 hy0_4
  obtain ⟨x0_5, e0_5, rfl, w0_5⟩ := DataW.trod_int Try.underlying2 hy0_5
  obtain ⟨x0_6, e0_6, rfl, w0_6⟩ := DataW.trod_int Try.underlying2 hy0_6
  obtain ⟨x0_7, e0_7, rfl, w0_7⟩ := DataW.trod_int Try.underlying2 hy0_7
  simp only [List.cons.injEq, and_true] at e0_0 e0_1 e0_2 e0_3 e0_4 e0_5 e0_6 e0_7
  subst e0_0 e0_1 e0_2 e0_3 e0_4 e0_5 e0_6 e0_7
  clear hA0 hval0
  refine (law_CmdOk x0_0 x0_1 x0_2 x0_3 x0_4 x0_5 x0_6 x0_7 W ).mono fun e W' ⟨he, bel⟩ => ?_
  subst he
  exact ⟨_, rfl, _, _, _, [], _, [], hW', trodAll_mk1 (shut_bool Try.underlying4 _), (trodAll_cons_mk (Below.trod laidOut (by kernel_rfl) (of_decide_eq_true (by kernel_rfl)) k0 bel lt0) trodAll_mk0), rfl, bel.frame _, fun h => by cases h⟩

set_option maxHeartbeats 16000000 in
theorem closed : joinedFacts Try.prog 3 Try.f3 Rows.fnExactCmdOkSpec Rows.fnExactCmdOkRow = true := by
  simp only [joinedFacts, Bool.and_eq_true]
  repeat' apply And.intro
  all_goals (first | with_reducible exact Closed.mayEnter0 | with_reducible exact Closed.laidOut0 | with_reducible exact Closed.mapsRowed0 | with_reducible exact Closed.stopsHeard0 | (rw [Closed.lifts0]; rfl) | (as_aux_lemma => kernel_rfl))
theorem named : Try.prog.funcNamed Rows.fnExactCmdOkRow.func = some 3 := by kernel_rfl
theorem instOf : Try.f3.isInstance Try.prog Rows.fnExactCmdOkRow.origin Rows.fnExactCmdOkRow.targs := of_decide_eq_true (by as_aux_lemma => kernel_rfl)
theorem wrapOf : Try.f3.isWrapper Try.prog Rows.fnExactCmdOkRow.wrapper Rows.fnExactCmdOkRow.mainSum := by unfold Func.isWrapper; first | (rw [if_pos (by decide +kernel)]; kernel_rfl) | (rw [if_neg (by decide +kernel)]; exact ⟨rfl, rfl⟩)
theorem over : Rows.fnExactCmdOkRow.holds Try.pinned (OpenSpec.ofChange Rows.fnExactCmdOkSpec) :=
  OpenClaim.holds_of_wide 3 Try.f3 rfl rfl rfl rfl rfl rfl rfl ⟨rfl, rfl, rfl, rfl, rfl⟩ rfl rfl rfl rfl rfl named Try.func3 closed
    instOf wrapOf
    (fun os started H enc _ => lifted os started H enc)

/-- the statement -/
theorem proved : Rows.FnExactCmdOkSaid := over
#print axioms proved
end Go.Proofs.Ythmoddohkchhfaa.fnExactCmdOk
