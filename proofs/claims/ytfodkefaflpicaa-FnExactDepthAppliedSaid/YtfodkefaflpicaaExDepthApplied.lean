/-
  For every input the law FnExactDepthApplied returns true, and its arguments read behind the call as they read before it; no condition.
-/
import Derived.Test.YtfodkefaflpicaaRows
import Derived.Test.YtfodkefaflpicaaOpen
import Derived.Test.YtfodkefaflpicaaClosed
import Derived.Test.YtfodkefaflpicaaLawDepthApplied
namespace Go.Proofs.Ytfodkefaflpicaa.fnExactDepthApplied
open Go.ChangeShapes Go.WideShapes Go.ChangeAt Go.RowKit
open Go.ChangeMaps (open_string shut_string)
set_option linter.unusedVariables false

theorem own : ownKnob Try.prog.godebug = none := by kernel_rfl
theorem laidOut : laidOutB Try.prog = true := Closed.laidOut0

set_option maxRecDepth 100000 in
theorem lifted (os : Os) (started : os.Started) (H : Type) (enc : TypeId × Value → H) :
    ReturnsInHanded {} Try.checked os 6 .any (Rows.fnExactDepthAppliedSpec.pre6 enc Try.prog Try.f6 Rows.fnExactDepthAppliedRow.domain false) (Rows.fnExactDepthAppliedSpec.post enc Try.prog Try.f6 false true false false) := by
  refine returnsInHanded_of_change (C := Try.checked) own started (by kernel_rfl) Try.func6
    (ChangeSpec.witness6 (enc := enc) (C := Try.checked) false ⟨#[], #[.slice none 0 0, .slice none 0 0, .int .i64 0], []⟩ 8 (by kernel_rfl) (by kernel_rfl) (by kernel_rfl) (by kernel_rfl)) ?_
  intro W base args ds gs before hval0 hW hcnd _
  have hval : ∀ (j : Nat) t v, Try.f6.params[j]? = some t → args[j]? = some v → Value.okWide Try.prog W .any base t v := hval0
  have hW' := hW
  obtain ⟨p, q, hA0, hV, rfl, hfz, hnd⟩ := hW
  have hA : DataW.TrodAll enc Try.prog W 0 (fun _ => true) true Try.f6.params.toList args.toList ds p := hA0
  rw [Try.params6] at hA hval
  obtain ⟨v0, vs0, d0, ds0, p0, q0, hargs, rfl, rfl, h0, r0⟩ := trodAll_cons hA
  obtain ⟨v1, vs1, d1, ds1, p1, q1, rfl, rfl, rfl, h1, r1⟩ := trodAll_cons r0
  obtain ⟨v2, vs2, d2, ds2, p2, q2, rfl, rfl, rfl, h2, r2⟩ := trodAll_cons r1
  obtain ⟨rfl, rfl, rfl⟩ := trodAll_nil r2
  obtain rfl : args = #[v0, v1, v2] := by cases args; simp_all
  obtain ⟨rfl, rfl⟩ := trodVars_none hV
  have k0 := h0
  have lt0 : ∀ x ∈ p0, x.block < W.heap.size := by obtain ⟨m, hm⟩ := k0; exact DataW.trod_lt m _ _ _ hm
  have k1 := h1
  have lt1 : ∀ x ∈ p1, x.block < W.heap.size := by obtain ⟨m, hm⟩ := k1; exact DataW.trod_lt m _ _ _ hm
  have k2 := h2
  have lt2 : ∀ x ∈ p2, x.block < W.heap.size := by obtain ⟨m, hm⟩ := k2; exact DataW.trod_lt m _ _ _ hm
  obtain ⟨a0, n0, c0, z0, rfl, wn0, wl0, wz0⟩ : ∃ (A : Option Addr) (n c : Nat) (zs : List Int), v0 = .slice A n c ∧ n ≤ maxLen ∧ Lst W W.heap.size 3 A n zs ∧ ∀ q, q < n * 3 → I64 (num zs q) := by
    obtain ⟨fuel, hf⟩ := h0
    obtain ⟨a0, len0, cap0, rfl⟩ := okWide_slice Try.underlying47 (hval 0 47 v0 rfl rfl)
    exact open_rows Try.underlying47 Try.underlying102 (by kernel_rfl) (by kernel_rfl) rfl (by omega) (fields_int Try.underlying2 _ (by decide)) hf
  obtain ⟨a1, n1, c1, z1, rfl, wn1, wl1, wz1⟩ : ∃ (A : Option Addr) (n c : Nat) (zs : List Int), v1 = .slice A n c ∧ n ≤ maxLen ∧ Lst W W.heap.size 3 A n zs ∧ ∀ q, q < n * 3 → I64 (num zs q) := by
    obtain ⟨fuel, hf⟩ := h1
    obtain ⟨a0, len0, cap0, rfl⟩ := okWide_slice Try.underlying47 (hval 1 47 v1 rfl rfl)
    exact open_rows Try.underlying47 Try.underlying102 (by kernel_rfl) (by kernel_rfl) rfl (by omega) (fields_int Try.underlying2 _ (by decide)) hf
  obtain ⟨x2, rfl, rfl, rfl, w2⟩ := open_int Try.underlying2 (hval 2 2 v2 rfl rfl) h2
  clear hA0 hval0
  refine (law_DepthApplied a0 n0 c0 z0 a1 n1 c1 z1 x2 W wl0 wn0 wl1 wn1 ).mono fun e W' ⟨he, bel⟩ => ?_
  subst he
  exact ⟨_, rfl, _, _, _, [], _, [], hW', trodAll_mk1 (shut_bool Try.underlying4 _), (trodAll_cons_mk (Below.trod laidOut (by kernel_rfl) (of_decide_eq_true (by kernel_rfl)) k0 bel lt0) (trodAll_cons_mk (Below.trod laidOut (by kernel_rfl) (of_decide_eq_true (by kernel_rfl)) k1 bel lt1) (trodAll_cons_mk (Below.trod laidOut (by kernel_rfl) (of_decide_eq_true (by kernel_rfl)) k2 bel lt2) trodAll_mk0))), rfl, bel.frame _, fun h => by cases h⟩

set_option maxHeartbeats 16000000 in
theorem closed : joinedFacts Try.prog 6 Try.f6 Rows.fnExactDepthAppliedSpec Rows.fnExactDepthAppliedRow = true := by
  simp only [joinedFacts, Bool.and_eq_true]
  repeat' apply And.intro
  all_goals (first | with_reducible exact Closed.mayEnter0 | with_reducible exact Closed.laidOut0 | with_reducible exact Closed.mapsRowed0 | with_reducible exact Closed.stopsHeard0 | (rw [Closed.lifts0]; rfl) | (as_aux_lemma => kernel_rfl))
theorem named : Try.prog.funcNamed Rows.fnExactDepthAppliedRow.func = some 6 := by kernel_rfl
theorem instOf : Try.f6.isInstance Try.prog Rows.fnExactDepthAppliedRow.origin Rows.fnExactDepthAppliedRow.targs := of_decide_eq_true (by as_aux_lemma => kernel_rfl)
theorem wrapOf : Try.f6.isWrapper Try.prog Rows.fnExactDepthAppliedRow.wrapper Rows.fnExactDepthAppliedRow.mainSum := by unfold Func.isWrapper; first | (rw [if_pos (by decide +kernel)]; kernel_rfl) | (rw [if_neg (by decide +kernel)]; exact ⟨rfl, rfl⟩)
theorem over : Rows.fnExactDepthAppliedRow.holds Try.pinned (OpenSpec.ofChange Rows.fnExactDepthAppliedSpec) :=
  OpenClaim.holds_of_wide 6 Try.f6 rfl rfl rfl rfl rfl rfl rfl ⟨rfl, rfl, rfl, rfl, rfl⟩ rfl rfl rfl rfl rfl named Try.func6 closed
    instOf wrapOf
    (fun os started H enc _ => lifted os started H enc)

/-- the statement -/
theorem proved : Rows.FnExactDepthAppliedSaid := over
#print axioms proved
end Go.Proofs.Ytfodkefaflpicaa.fnExactDepthApplied
