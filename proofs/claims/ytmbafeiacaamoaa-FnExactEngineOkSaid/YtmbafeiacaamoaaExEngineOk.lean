/-
  For every input the law FnExactEngineOk returns true, and its arguments read behind the call as they read before it; no condition.
-/
import Derived.Test.YtmbafeiacaamoaaRows
import Derived.Test.YtmbafeiacaamoaaOpenE
import Derived.Test.YtmbafeiacaamoaaClosed
import Derived.Test.YtmbafeiacaamoaaLawEngineOk
namespace Go.Proofs.Ytmbafeiacaamoaa.fnExactEngineOk
open Go.ChangeShapes Go.WideShapes Go.ChangeAt Go.RowKit
open Go.ChangeMaps (open_string shut_string)
set_option linter.unusedVariables false

theorem own : ownKnob Try.prog.godebug = none := by kernel_rfl
theorem laidOut : laidOutB Try.prog = true := Closed.laidOut0

set_option maxRecDepth 100000 in
theorem lifted (os : Os) (started : os.Started) (H : Type) (enc : TypeId × Value → H) :
    ReturnsInHanded {} Try.checked os 6 .any (Rows.fnExactEngineOkSpec.pre6 enc Try.prog Try.f6 Rows.fnExactEngineOkRow.domain false) (Rows.fnExactEngineOkSpec.post enc Try.prog Try.f6 false true false false) := by
  refine returnsInHanded_of_change (C := Try.checked) own started (by kernel_rfl) Try.func6
    (ChangeSpec.witness6 (enc := enc) (C := Try.checked) false ⟨#[], #[.agg #[.slice none 0 0, .slice none 0 0]], []⟩ 8 (by kernel_rfl) (by kernel_rfl) (by kernel_rfl) (by kernel_rfl)) ?_
  intro W base args ds gs before hval0 hW hcnd _
  have hval : ∀ (j : Nat) t v, Try.f6.params[j]? = some t → args[j]? = some v → Value.okWide Try.prog W .any base t v := hval0
  have hW' := hW
  obtain ⟨p, q, hA0, hV, rfl, hfz, hnd⟩ := hW
  have hA : DataW.TrodAll enc Try.prog W 0 (fun _ => true) true Try.f6.params.toList args.toList ds p := hA0
  rw [Try.params6] at hA hval
  obtain ⟨v0, vs0, d0, ds0, p0, q0, hargs, rfl, rfl, h0, r0⟩ := trodAll_cons hA
  obtain ⟨rfl, rfl, rfl⟩ := trodAll_nil r0
  obtain rfl : args = #[v0] := by cases args; simp_all
  obtain ⟨rfl, rfl⟩ := trodVars_none hV
  have k0 := h0
  have lt0 : ∀ x ∈ p0, x.block < W.heap.size := by obtain ⟨m, hm⟩ := k0; exact DataW.trod_lt m _ _ _ hm
  obtain ⟨b0, s0, yb0, ys0, m0, rfl, rfl, rfl, hb0, hs0⟩ := Go.Joins.open_agg2 Try.underlying25 (by kernel_rfl) (by kernel_rfl) (hval 0 25 v0 rfl rfl) h0
  obtain ⟨a0, n0, c0, z0, rfl, wn0, wz0, wl0⟩ := open_books Try.underlying22 Try.underlying98 (by kernel_rfl) (by kernel_rfl) rfl rfl Try.underlying96 Try.underlying144 (by kernel_rfl) (by kernel_rfl) rfl (fields_int Try.underlying2 _ (by decide)) hb0
  obtain ⟨a0', n0', c0', z0', rfl, wn0', wl0', wz0'⟩ := open_nums Try.underlying23 Try.underlying2 (by kernel_rfl) hs0
  clear hA0 hval0
  refine (law_EngineOk a0 n0 c0 a0' n0' c0' z0 z0' W wl0 wz0 wl0' wn0 wn0').mono fun e W' ⟨he, bel⟩ => ?_
  subst he
  exact ⟨_, rfl, _, _, _, [], _, [], hW', trodAll_mk1 (shut_bool Try.underlying4 _), (trodAll_cons_mk (Below.trod laidOut (by kernel_rfl) (of_decide_eq_true (by kernel_rfl)) k0 bel lt0) trodAll_mk0), rfl, bel.frame _, fun h => by cases h⟩

set_option maxHeartbeats 16000000 in
theorem closed : joinedFacts Try.prog 6 Try.f6 Rows.fnExactEngineOkSpec Rows.fnExactEngineOkRow = true := by
  simp only [joinedFacts, Bool.and_eq_true]
  repeat' apply And.intro
  all_goals (first | with_reducible exact Closed.mayEnter0 | with_reducible exact Closed.laidOut0 | with_reducible exact Closed.mapsRowed0 | with_reducible exact Closed.stopsHeard0 | (rw [Closed.lifts0]; rfl) | (as_aux_lemma => kernel_rfl))
theorem named : Try.prog.funcNamed Rows.fnExactEngineOkRow.func = some 6 := by kernel_rfl
theorem instOf : Try.f6.isInstance Try.prog Rows.fnExactEngineOkRow.origin Rows.fnExactEngineOkRow.targs := of_decide_eq_true (by as_aux_lemma => kernel_rfl)
theorem wrapOf : Try.f6.isWrapper Try.prog Rows.fnExactEngineOkRow.wrapper Rows.fnExactEngineOkRow.mainSum := by unfold Func.isWrapper; first | (rw [if_pos (by decide +kernel)]; kernel_rfl) | (rw [if_neg (by decide +kernel)]; exact ⟨rfl, rfl⟩)
theorem over : Rows.fnExactEngineOkRow.holds Try.pinned (OpenSpec.ofChange Rows.fnExactEngineOkSpec) :=
  OpenClaim.holds_of_wide 6 Try.f6 rfl rfl rfl rfl rfl rfl rfl ⟨rfl, rfl, rfl, rfl, rfl⟩ rfl rfl rfl rfl rfl named Try.func6 closed
    instOf wrapOf
    (fun os started H enc _ => lifted os started H enc)

/-- the statement -/
theorem proved : Rows.FnExactEngineOkSaid := over
#print axioms proved
end Go.Proofs.Ytmbafeiacaamoaa.fnExactEngineOk
