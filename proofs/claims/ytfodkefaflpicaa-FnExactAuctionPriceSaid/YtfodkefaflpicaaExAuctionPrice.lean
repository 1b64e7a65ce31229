/-
  For every input the law FnExactAuctionPrice returns true, and its arguments read behind the call as they read before it; no condition.
-/
import Derived.Test.YtfodkefaflpicaaRows
import Derived.Test.YtfodkefaflpicaaOpen
import Derived.Test.YtfodkefaflpicaaClosed
import Derived.Test.YtfodkefaflpicaaLawAuctionPrice
namespace Go.Proofs.Ytfodkefaflpicaa.fnExactAuctionPrice
open Go.ChangeShapes Go.WideShapes Go.ChangeAt Go.RowKit
open Go.ChangeMaps (open_string shut_string)
set_option linter.unusedVariables false

theorem own : ownKnob Try.prog.godebug = none := by kernel_rfl
theorem laidOut : laidOutB Try.prog = true := Closed.laidOut0

set_option maxRecDepth 100000 in
theorem lifted (os : Os) (started : os.Started) (H : Type) (enc : TypeId × Value → H) :
    ReturnsInHanded {} Try.checked os 7 .any (Rows.fnExactAuctionPriceSpec.pre6 enc Try.prog Try.f7 Rows.fnExactAuctionPriceRow.domain false) (Rows.fnExactAuctionPriceSpec.post enc Try.prog Try.f7 false true false false) := by
  refine returnsInHanded_of_change (C := Try.checked) own started (by kernel_rfl) Try.func7
    (ChangeSpec.witness6 (enc := enc) (C := Try.checked) false ⟨#[], #[.slice none 0 0, .slice none 0 0], []⟩ 8 (by kernel_rfl) (by kernel_rfl) (by kernel_rfl) (by kernel_rfl)) ?_
  intro W base args ds gs before hval0 hW hcnd _
  have hval : ∀ (j : Nat) t v, Try.f7.params[j]? = some t → args[j]? = some v → Value.okWide Try.prog W .any base t v := hval0
  have hW' := hW
  obtain ⟨p, q, hA0, hV, rfl, hfz, hnd⟩ := hW
  have hA : DataW.TrodAll enc Try.prog W 0 (fun _ => true) true Try.f7.params.toList args.toList ds p := hA0
  rw [Try.params7] at hA hval
  obtain ⟨v0, vs0, d0, ds0, p0, q0, hargs, rfl, rfl, h0, r0⟩ := trodAll_cons hA
  obtain ⟨v1, vs1, d1, ds1, p1, q1, rfl, rfl, rfl, h1, r1⟩ := trodAll_cons r0
  obtain ⟨rfl, rfl, rfl⟩ := trodAll_nil r1
  obtain rfl : args = #[v0, v1] := by cases args; simp_all
  obtain ⟨rfl, rfl⟩ := trodVars_none hV
  have k0 := h0
  have lt0 : ∀ x ∈ p0, x.block < W.heap.size := by obtain ⟨m, hm⟩ := k0; exact DataW.trod_lt m _ _ _ hm
  have k1 := h1
  have lt1 : ∀ x ∈ p1, x.block < W.heap.size := by obtain ⟨m, hm⟩ := k1; exact DataW.trod_lt m _ _ _ hm
  obtain ⟨a0, n0, c0, z0, rfl, wn0, wl0, wz0⟩ : ∃ (A : Option Addr) (n c : Nat) (zs : List Int), v0 = .slice A n c ∧ n ≤ maxLen ∧ Lst W W.heap.size 4 A n zs ∧ ∀ q, q < n * 4 → I64 (num zs q) := by
    obtain ⟨fuel, hf⟩ := h0
    obtain ⟨a0, len0, cap0, rfl⟩ := okWide_slice Try.underlying52 (hval 0 52 v0 rfl rfl)
    exact open_rows Try.underlying52 Try.underlying105 (by kernel_rfl) (by kernel_rfl) rfl (by omega) (fields_int Try.underlying2 _ (by decide)) hf
  obtain ⟨a1, n1, c1, z1, rfl, wn1, wl1, wz1⟩ : ∃ (A : Option Addr) (n c : Nat) (zs : List Int), v1 = .slice A n c ∧ n ≤ maxLen ∧ Lst W W.heap.size 4 A n zs ∧ ∀ q, q < n * 4 → I64 (num zs q) := by
    obtain ⟨fuel, hf⟩ := h1
    obtain ⟨a0, len0, cap0, rfl⟩ := okWide_slice Try.underlying52 (hval 1 52 v1 rfl rfl)
    exact open_rows Try.underlying52 Try.underlying105 (by kernel_rfl) (by kernel_rfl) rfl (by omega) (fields_int Try.underlying2 _ (by decide)) hf
  clear hA0 hval0
  refine (law_AuctionPrice a0 n0 c0 z0 a1 n1 c1 z1 W wl0 wn0 wl1 wn1).mono fun e W' ⟨he, bel⟩ => ?_
  subst he
  exact ⟨_, rfl, _, _, _, [], _, [], hW', trodAll_mk1 (shut_bool Try.underlying4 _), (trodAll_cons_mk (Below.trod laidOut (by kernel_rfl) (of_decide_eq_true (by kernel_rfl)) k0 bel lt0) (trodAll_cons_mk (Below.trod laidOut (by kernel_rfl) (of_decide_eq_true (by kernel_rfl)) k1 bel lt1) trodAll_mk0)), rfl, bel.frame _, fun h => by cases h⟩

set_option maxHeartbeats 16000000 in
theorem closed : joinedFacts Try.prog 7 Try.f7 Rows.fnExactAuctionPriceSpec Rows.fnExactAuctionPriceRow = true := by
  simp only [joinedFacts, Bool.and_eq_true]
  repeat' apply And.intro
  all_goals (first | with_reducible exact Closed.mayEnter0 | with_reducible exact Closed.laidOut0 | with_reducible exact Closed.mapsRowed0 | with_reducible exact Closed.stopsHeard0 | (rw [Closed.lifts0]; rfl) | (as_aux_lemma => kernel_rfl))
theorem named : Try.prog.funcNamed Rows.fnExactAuctionPriceRow.func = some 7 := by kernel_rfl
theorem instOf : Try.f7.isInstance Try.prog Rows.fnExactAuctionPriceRow.origin Rows.fnExactAuctionPriceRow.targs := of_decide_eq_true (by as_aux_lemma => kernel_rfl)
theorem wrapOf : Try.f7.isWrapper Try.prog Rows.fnExactAuctionPriceRow.wrapper Rows.fnExactAuctionPriceRow.mainSum := by unfold Func.isWrapper; first | (rw [if_pos (by decide +kernel)]; kernel_rfl) | (rw [if_neg (by decide +kernel)]; exact ⟨rfl, rfl⟩)
theorem over : Rows.fnExactAuctionPriceRow.holds Try.pinned (OpenSpec.ofChange Rows.fnExactAuctionPriceSpec) :=
  OpenClaim.holds_of_wide 7 Try.f7 rfl rfl rfl rfl rfl rfl rfl ⟨rfl, rfl, rfl, rfl, rfl⟩ rfl rfl rfl rfl rfl named Try.func7 closed
    instOf wrapOf
    (fun os started H enc _ => lifted os started H enc)

/-- the statement -/
theorem proved : Rows.FnExactAuctionPriceSaid := over
#print axioms proved
end Go.Proofs.Ytfodkefaflpicaa.fnExactAuctionPrice
