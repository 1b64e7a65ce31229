/-
 For every input the law FnExactExec returns true, and its arguments read behind the call as they read before it; no condition.
-/
import Derived.Test.YtgjjdnojiegidaaGreatDoorRows
import Derived.Test.YtgjjdnojiegidaaGreatDoorCards
import Derived.Test.YtgjjdnojiegidaaGreatDoorHErr
import Derived.OpenVars
import Derived.Test.YtgjjdnojiegidaaGreatDoorTie
import Derived.ProofKit
import Derived.LaidMore
import Derived.OpenShut
import Derived.SevenTiedAt
import Derived.Test.YtgjjdnojiegidaaGreatDoorOpen
import Derived.Test.YtgjjdnojiegidaaGreatDoorClosed
import Derived.Test.YtgjjdnojiegidaaGreatDoorLawExec
namespace Go.Proofs.YtgjjdnojiegidaaGreatDoor.fnExactExec
open Go.ChangeShapes Go.WideShapes Go.ChangeAt Go.RowKit
set_option maxHeartbeats 16000000
set_option maxRecDepth 100000
open Go.ChangeMaps (open_string shut_string)
set_option maxHeartbeats 16000000
set_option maxRecDepth 100000
set_option linter.unusedVariables false

theorem own : ownKnob Tryz.prog.godebug = none := by kernel_rfl
theorem laidOut : laidOutB Tryz.prog = true := Closed.laidOut0

theorem door_met (os : Os) (args : Array Value) : laidMetH Tryz.prog Rows.fnExactExecRow.laid ((World.doorLaid Tryz.prog 149 os).forCall (fun _ _ => 0) ⟨#[], args, []⟩).memory :=
 laidMetH_of_parts3 (fuel := 8) (laidMet_of_run' 8 (by kernel_rfl) (by kernel_rfl)) (by kernel_rfl) (by kernel_rfl)

theorem lifted (os : Os) (started : os.Started) (H : Type) (enc : TypeId × Value → H) :
 ReturnsInHanded {} Tryz.checked os 3 .any (fun w args => (Rows.fnExactExecSpec.pre enc Tryz.prog Tryz.f3 [] false w args ∧ laidMetH Tryz.prog Rows.fnExactExecRow.laid w) ∧ sizedMet enc Tryz.prog Tryz.f3 (OpenSpec.ofChange Rows.fnExactExecSpec) false w args)
  (Rows.fnExactExecSpec.post enc Tryz.prog Tryz.f3 false true false false) := by
 refine returnsInHanded_of_change_and (C := Tryz.checked) (X := fun w _ => laidMetH Tryz.prog Rows.fnExactExecRow.laid w) (fun _ _ _ hh h => h.of_heap hh) own started (by kernel_rfl) Tryz.func3
  (ChangeSpec.witness_shaped (enc := enc) (C := Tryz.checked) (os := os) (X := fun w _ => laidMetH Tryz.prog Rows.fnExactExecRow.laid w) false (World.doorLaid Tryz.prog 149 os) #[.agg #[.slice none 0 0, .slice none 0 0], .agg #[.int .i64 0, .int .i64 0, .int .i64 0, .int .i64 0, .int .i64 0, .int .i64 0, .int .i64 0, .int .i64 0]] 8 rfl (World.shaped_of_RefB (by kernel_rfl) (by kernel_rfl)) (by kernel_rfl) (by kernel_rfl) (by kernel_rfl) (door_met os _)) ?_
 intro W base args ds gs before hval0 hW _ _ hL _
 have hval : ∀ (j : Nat) t v, Tryz.f3.params[j]? = some t → args[j]? = some v → Value.okWide Tryz.prog W .any base t v := hval0
 have hW' := hW
 obtain ⟨p, q, hA0, hV, rfl, hfz, hnd⟩ := hW
 have hA : DataW.TrodAll enc Tryz.prog W 0 (fun _ => true) true Tryz.f3.params.toList args.toList ds p := hA0
 rw [Tryz.params3] at hA hval
 obtain ⟨v0, vs0, d0, ds0, p0, q0, hargs, rfl, rfl, h0, r0⟩ := trodAll_cons hA
 obtain ⟨v1, vs1, d1, ds1, p1, q1, rfl, rfl, rfl, h1, r1⟩ := trodAll_cons r0
 obtain ⟨rfl, rfl, rfl⟩ := trodAll_nil r1
 obtain rfl : args = #[v0, v1] := by cases args; simp_all
 obtain ⟨g1, g2, g3, g4, g5, g6, g7, rfl⟩ := seven (vars_len hV)
 have k0 := h0
 have lt0 : ∀ x ∈ p0, x.block < W.heap.size := by obtain ⟨m, hm⟩ := k0; exact DataW.trod_lt m _ _ _ hm
 have k1 := h1
 have lt1 : ∀ x ∈ p1, x.block < W.heap.size := by obtain ⟨m, hm⟩ := k1; exact DataW.trod_lt m _ _ _ hm
 obtain ⟨b0, s0, yb0, ys0, m0, rfl, rfl, rfl, hb0, hs0⟩ := Go.Joins.open_agg2 Tryz.underlying24 (by kernel_rfl) (by kernel_rfl) (hval 0 24 v0 rfl rfl) h0
 obtain ⟨a0, n0, c0, z0, rfl, wn0, wl0, wz0⟩ := open_rows (N := 4) Tryz.underlying22 Tryz.underlying77 (by kernel_rfl) (by kernel_rfl) rfl (by decide) (fields_int Tryz.underlying2 _ (by decide)) hb0
 obtain ⟨a0', n0', c0', z0', rfl, wn0', wl0', wz0'⟩ := open_rows (N := 4) Tryz.underlying22 Tryz.underlying77 (by kernel_rfl) (by kernel_rfl) rfl (by decide) (fields_int Tryz.underlying2 _ (by decide)) hs0
 obtain ⟨c1_0, c1_1, c1_2, c1_3, c1_4, c1_5, c1_6, c1_7, y1_0, y1_1, y1_2, y1_3, y1_4, y1_5, y1_6, y1_7, m1, rfl, rfl, rfl, hy1_0, hy1_1, hy1_2, hy1_3, hy1_4, hy1_5, hy1_6, hy1_7⟩ := open_agg8 Tryz.underlying26 (by kernel_rfl) (by kernel_rfl) (hval 1 26 v1 rfl rfl) h1
 obtain ⟨x1_0, e1_0, rfl, w1_0⟩ := DataW.trod_int Tryz.underlying2 hy1_0
 obtain ⟨x1_1, e1_1, rfl, w1_1⟩ := DataW.trod_int Tryz.underlying2 hy1_1
 obtain ⟨x1_2, e1_2, rfl, w1_2⟩ := DataW.trod_int Tryz.underlying2 hy1_2
 obtain ⟨x1_3, e1_3, rfl, w1_3⟩ := DataW.trod_int Tryz.underlying2 hy1_3
 obtain ⟨x1_4, e1_4, rfl, w1_4⟩ := DataW.trod_int Tryz.underlying2 hy1_4
 obtain ⟨x1_5, e1_5, rfl, w1_5⟩ := DataW.trod_int Tryz.underlying2 hy1_5
 obtain ⟨x1_6, e1_6, rfl, w1_6⟩ := DataW.trod_int Tryz.underlying2 hy1_6
 obtain ⟨x1_7, e1_7, rfl, w1_7⟩ := DataW.trod_int Tryz.underlying2 hy1_7
 simp only [List.cons.injEq, and_true] at e1_0 e1_1 e1_2 e1_3 e1_4 e1_5 e1_6 e1_7
 subst e1_0 e1_1 e1_2 e1_3 e1_4 e1_5 e1_6 e1_7
 clear hA0 hval0
 refine (law_Exec a0 n0 c0 a0' n0' c0' z0 z0' x1_0 x1_1 x1_2 x1_3 x1_4 x1_5 x1_6 x1_7 W ⟨wl0, wl0'⟩ wn0 wn0'  hL).mono fun e W' ⟨he, bel⟩ => ?_
 subst he
 exact ⟨_, rfl, _, _, _, [], _, _, hW', trodAll_mk1 (shut_bool Tryz.underlying4 _), (trodAll_cons_mk (Below.trod laidOut (by kernel_rfl) (of_decide_eq_true (by kernel_rfl)) k0 bel lt0) (trodAll_cons_mk (Below.trod laidOut (by kernel_rfl) (of_decide_eq_true (by kernel_rfl)) k1 bel lt1) trodAll_mk0)), Below.trodVars laidOut bel (by kernel_rfl) hV, bel.frame _, fun h => by cases h⟩

theorem closed : joinedFacts Tryz.prog 3 Tryz.f3 Rows.fnExactExecSpec Rows.fnExactExecRow = true := by
 simp only [joinedFacts, Bool.and_eq_true]
 repeat' apply And.intro
 all_goals (first | with_reducible exact Closed.mayEnter0 | with_reducible exact Closed.laidOut0 | with_reducible exact Closed.mapsRowed0 | with_reducible exact Closed.stopsHeard0 | (rw [Closed.lifts0]; rfl) | (as_aux_lemma => kernel_rfl))
theorem named : Tryz.prog.funcNamed Rows.fnExactExecRow.func = some 3 := by kernel_rfl
theorem instOf : Tryz.f3.isInstance Tryz.prog Rows.fnExactExecRow.origin Rows.fnExactExecRow.targs := of_decide_eq_true (by as_aux_lemma => kernel_rfl)
theorem wrapOf : Tryz.f3.isWrapper Tryz.prog Rows.fnExactExecRow.wrapper Rows.fnExactExecRow.mainSum := by unfold Func.isWrapper; first | (rw [if_pos (by decide +kernel)]; kernel_rfl) | (rw [if_neg (by decide +kernel)]; exact ⟨rfl, rfl⟩)
theorem over : Rows.fnExactExecRow.holds Tryz.pinned (OpenSpec.ofChange Rows.fnExactExecSpec) :=
 OpenClaim.holds_of_wide 3 Tryz.f3 rfl rfl rfl rfl rfl rfl rfl ⟨rfl, rfl, rfl, rfl, rfl⟩ rfl rfl rfl rfl rfl named Tryz.func3 closed
  instOf wrapOf
  (fun os started H enc _ => lifted os started H enc)

theorem proved : Rows.FnExactExecCardSaid :=
 Claim7.holds_tied_plain_at .later [] [.handle, .sentinel, .sentinel, .sentinel, .sentinel, .sentinel, .sentinel, .sentinel] true (true, "b175330ec89ec42f4c91c8abb77d3ef9f9c9b37ff3e769058eae71f7670ab6b3") true
  over (fun _ h => by cases h) (by kernel_rfl) (fun _ h => by cases h) fnExactExec_row_tie rfl ⟨rfl, rfl⟩ (by kernel_rfl) rfl
  (fun f fn hf hfn => by
   obtain rfl : f = 3 := Option.some.inj ((show Tryz.prog.funcNamed "loop.example/g00609/laws.FnExactExec" = some 3 by kernel_rfl).symm.trans hf) |>.symm
   obtain rfl : fn = Tryz.f3 := (Option.some.inj (Tryz.func3.symm.trans hfn)).symm
   exact ⟨by kernel_rfl, fun j t ht => by
    have hall : (Tryz.f3.params.toList.all fun u => !Tryz.prog.wantsStandIn u) = true := by kernel_rfl
    have hm : t ∈ Tryz.f3.params.toList := Array.mem_toList_iff.2 (Array.mem_of_getElem? ht)
    exact (show Tryz.prog.wantsStandIn t = false by simpa using List.all_eq_true.1 hall t hm)⟩)
  (by kernel_rfl)
#print axioms proved
end Go.Proofs.YtgjjdnojiegidaaGreatDoor.fnExactExec

