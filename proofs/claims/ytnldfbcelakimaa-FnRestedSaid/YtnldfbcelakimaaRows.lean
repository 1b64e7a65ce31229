/-
  No cell of these rows narrows 'for every input' (looked for: loops, veiled, ifaces, maps, wideKeys, modest, calm, conditions, laid).
  DERIVED. THE GIVEN ROWS OF THIS SEAT. 6 by the template 'for every input the law returns true; each argument reads behind the call as it read before'; 0 by the template 'total and deterministic' (their statements: YtnldfbcelakimaaTotals.lean).
  GIVEN WITH THE SEED: the statements are not yours to turn. If you find one false, say at which input.
  Laid BY PROGRAM, IN A SANDBOX (cutbox-rows.mjs): the forced cells as the released guide's own fill.sh prints them over the translation 777bc96402cee16f… (all of the seat's roots in one cut). By AI agents, Wed Nov 11 2026. No macro, syntax, notation, axiom, sorry.
-/
import Derived.Test.YtnldfbcelakimaaChecked
import GoSem.Claim
import GoSem.ClaimJoined
import GoSem.ClaimMapViews
import Derived.JoinedTies
import Derived.KernelRfl
namespace Go.Proofs.Ytnldfbcelakimaa
/- THE CELL 'sum', in the pinned program and in every row, IS THE sha256 OF THE DUMP (.gsa) THAT YtnldfbcelakimaaProg.lean LOADS. Nothing in Lean hashes anything: it is a label: what it is worth is what the hold of that sum in a sandbox is worth. -/
noncomputable def Try.pinned : Pinned := { name := "ytnldfbcelakimaa", sum := "777bc96402cee16fadf0e11a7f8f3c3632d4949a5dad1c00cd50281e0c996234", checked := Try.checked }
namespace Rows
def none {H : Type} : Left H := { results := [], args := [] }

/-- 'laws.FnBooks': WHATEVER THE INPUT: true; the input reads as it did. -/
def fnBooksSpec : ChangeSpec := { name := "fnBooks", fn := fun _ => fun
  | [d] => { results := [.lit (.bool true)], args := [d] }
  | _ => none }
def fnBooksRow : OpenClaim := { program := "ytnldfbcelakimaa", sum := "777bc96402cee16fadf0e11a7f8f3c3632d4949a5dad1c00cd50281e0c996234", func := "loop.example/g00609/laws.FnBooks", spec := "fnBooks", unfollowed := true, recurses := true, apart := false }
def FnBooksSaid : Prop := fnBooksRow.holds Try.pinned (OpenSpec.ofChange fnBooksSpec)

/-- ITS FALSE NEIGHBOUR: 'it returns false'. Refute it at one input. -/
def fnBooksWrong : ChangeSpec := { name := "fnBooks", fn := fun _ => fun
  | [d] => { results := [.lit (.bool false)], args := [d] }
  | _ => none }
def FnBooksWrongFalsely : Prop := fnBooksRow.holds Try.pinned (OpenSpec.ofChange fnBooksWrong)

/-- 'laws.FnRested': WHATEVER THE INPUT: true; the input reads as it did. -/
def fnRestedSpec : ChangeSpec := { name := "fnRested", fn := fun _ => fun
  | [d] => { results := [.lit (.bool true)], args := [d] }
  | _ => none }
def fnRestedRow : OpenClaim := { program := "ytnldfbcelakimaa", sum := "777bc96402cee16fadf0e11a7f8f3c3632d4949a5dad1c00cd50281e0c996234", func := "loop.example/g00609/laws.FnRested", spec := "fnRested", inPlace := ["slices.overlaps[*loop.example/g00609/impl.Order]"], unfollowed := true, recurses := true, apart := false }
def FnRestedSaid : Prop := fnRestedRow.holds Try.pinned (OpenSpec.ofChange fnRestedSpec)

/-- ITS FALSE NEIGHBOUR: 'it returns false'. Refute it at one input. -/
def fnRestedWrong : ChangeSpec := { name := "fnRested", fn := fun _ => fun
  | [d] => { results := [.lit (.bool false)], args := [d] }
  | _ => none }
def FnRestedWrongFalsely : Prop := fnRestedRow.holds Try.pinned (OpenSpec.ofChange fnRestedWrong)

/-- 'laws.FnTaken': WHATEVER THE INPUT: true; the input reads as it did. -/
def fnTakenSpec : ChangeSpec := { name := "fnTaken", fn := fun _ => fun
  | [d] => { results := [.lit (.bool true)], args := [d] }
  | _ => none }
def fnTakenRow : OpenClaim := { program := "ytnldfbcelakimaa", sum := "777bc96402cee16fadf0e11a7f8f3c3632d4949a5dad1c00cd50281e0c996234", func := "loop.example/g00609/laws.FnTaken", spec := "fnTaken", unfollowed := true, recurses := true, apart := false }
def FnTakenSaid : Prop := fnTakenRow.holds Try.pinned (OpenSpec.ofChange fnTakenSpec)

/-- ITS FALSE NEIGHBOUR: 'it returns false'. Refute it at one input. -/
def fnTakenWrong : ChangeSpec := { name := "fnTaken", fn := fun _ => fun
  | [d] => { results := [.lit (.bool false)], args := [d] }
  | _ => none }
def FnTakenWrongFalsely : Prop := fnTakenRow.holds Try.pinned (OpenSpec.ofChange fnTakenWrong)

/-- 'laws.FnCrossing': WHATEVER THE INPUT: true; the input reads as it did. -/
def fnCrossingSpec : ChangeSpec := { name := "fnCrossing", fn := fun _ => fun
  | [d] => { results := [.lit (.bool true)], args := [d] }
  | _ => none }
def fnCrossingRow : OpenClaim := { program := "ytnldfbcelakimaa", sum := "777bc96402cee16fadf0e11a7f8f3c3632d4949a5dad1c00cd50281e0c996234", func := "loop.example/g00609/laws.FnCrossing", spec := "fnCrossing", unfollowed := true, recurses := true, apart := false }
def FnCrossingSaid : Prop := fnCrossingRow.holds Try.pinned (OpenSpec.ofChange fnCrossingSpec)

/-- ITS FALSE NEIGHBOUR: 'it returns false'. Refute it at one input. -/
def fnCrossingWrong : ChangeSpec := { name := "fnCrossing", fn := fun _ => fun
  | [d] => { results := [.lit (.bool false)], args := [d] }
  | _ => none }
def FnCrossingWrongFalsely : Prop := fnCrossingRow.holds Try.pinned (OpenSpec.ofChange fnCrossingWrong)

/-- 'laws.FnExactCancelAll': WHATEVER THE INPUT: true; the input reads as it did. -/
def fnExactCancelAllSpec : ChangeSpec := { name := "fnExactCancelAll", fn := fun _ => fun
  | [d1, d2] => { results := [.lit (.bool true)], args := [d1, d2] }
  | _ => none }
def fnExactCancelAllRow : OpenClaim := { program := "ytnldfbcelakimaa", sum := "777bc96402cee16fadf0e11a7f8f3c3632d4949a5dad1c00cd50281e0c996234", func := "loop.example/g00609/laws.FnExactCancelAll", spec := "fnExactCancelAll", unfollowed := true, recurses := true, apart := false }
def FnExactCancelAllSaid : Prop := fnExactCancelAllRow.holds Try.pinned (OpenSpec.ofChange fnExactCancelAllSpec)

/-- ITS FALSE NEIGHBOUR: 'it returns false'. Refute it at one input. -/
def fnExactCancelAllWrong : ChangeSpec := { name := "fnExactCancelAll", fn := fun _ => fun
  | [d1, d2] => { results := [.lit (.bool false)], args := [d1, d2] }
  | _ => none }
def FnExactCancelAllWrongFalsely : Prop := fnExactCancelAllRow.holds Try.pinned (OpenSpec.ofChange fnExactCancelAllWrong)

/-- 'laws.FnExactDepthApplied': WHATEVER THE INPUT: true; the input reads as it did. -/
def fnExactDepthAppliedSpec : ChangeSpec := { name := "fnExactDepthApplied", fn := fun _ => fun
  | [d1, d2, d3] => { results := [.lit (.bool true)], args := [d1, d2, d3] }
  | _ => none }
def fnExactDepthAppliedRow : OpenClaim := { program := "ytnldfbcelakimaa", sum := "777bc96402cee16fadf0e11a7f8f3c3632d4949a5dad1c00cd50281e0c996234", func := "loop.example/g00609/laws.FnExactDepthApplied", spec := "fnExactDepthApplied", inPlace := ["slices.overlaps[loop.example/g00609/impl.Level]"], unfollowed := true, recurses := true, apart := false }
def FnExactDepthAppliedSaid : Prop := fnExactDepthAppliedRow.holds Try.pinned (OpenSpec.ofChange fnExactDepthAppliedSpec)

/-- ITS FALSE NEIGHBOUR: 'it returns false'. Refute it at one input. -/
def fnExactDepthAppliedWrong : ChangeSpec := { name := "fnExactDepthApplied", fn := fun _ => fun
  | [d1, d2, d3] => { results := [.lit (.bool false)], args := [d1, d2, d3] }
  | _ => none }
def FnExactDepthAppliedWrongFalsely : Prop := fnExactDepthAppliedRow.holds Try.pinned (OpenSpec.ofChange fnExactDepthAppliedWrong)

/- THE SECOND FORM. 'bulk': how many values and letters a reading holds, each counted each time it is reached (what is shared counts as often as it is met; a slice's spare places count too). A statement '..UptoSaid' is the law's where the arguments, and the package variables that the reading takes, are together of bulk at most 1048576: NARROWER than '..Said'. Prove '..Said' where nothing that the law and all that it calls make is longer than what came in: it says more and counts as full. Else prove '..UptoSaid'. A law counts once. -/
mutual
def uptoBulk {H : Type} : DataW H → Nat
  | .lit (.string bytes) => bytes.length + 1
  | .lit _ => 1
  | .nil => 1
  | .ptr d => uptoBulk d + 1
  | .slice elems spare => uptoBulkAll elems + uptoBulkAll spare + 1
  | .agg parts => uptoBulkAll parts + 1
  | .iface _ d => uptoBulk d + 1
  | .map entries => uptoBulkEntries entries + 1
  | .held _ => 1
def uptoBulkAll {H : Type} : List (DataW H) → Nat
  | [] => 0
  | d :: r => uptoBulk d + uptoBulkAll r
def uptoBulkEntries {H : Type} : List (Lit × DataW H) → Nat
  | [] => 0
  | x :: r => uptoBulkEntry x + uptoBulkEntries r
def uptoBulkEntry {H : Type} : Lit × DataW H → Nat
  | (.string bytes, d) => bytes.length + uptoBulk d + 1
  | (_, d) => uptoBulk d + 1
 end
def uptoSmall : (H : Type) → List (DataW H) → Bool := fun _ ds => decide (uptoBulkAll ds ≤ 1048576)
def OpenSpec.upto (s : _root_.Go.ChangeSpec) : _root_.Go.OpenSpec := { _root_.Go.OpenSpec.ofChange s with cond := some uptoSmall }

/-- 'laws.FnBooks', WHERE WHAT IT READS IS OF BULK AT MOST 1048576: true; the input reads as it did. -/
def fnBooksUptoRow : OpenClaim := { program := "ytnldfbcelakimaa", sum := "777bc96402cee16fadf0e11a7f8f3c3632d4949a5dad1c00cd50281e0c996234", func := "loop.example/g00609/laws.FnBooks", spec := "fnBooks", unfollowed := true, recurses := true, apart := false, narrowed := true }
def FnBooksUptoSaid : Prop := fnBooksUptoRow.holds Try.pinned (OpenSpec.upto fnBooksSpec)

/-- 'laws.FnRested', WHERE WHAT IT READS IS OF BULK AT MOST 1048576: true; the input reads as it did. -/
def fnRestedUptoRow : OpenClaim := { program := "ytnldfbcelakimaa", sum := "777bc96402cee16fadf0e11a7f8f3c3632d4949a5dad1c00cd50281e0c996234", func := "loop.example/g00609/laws.FnRested", spec := "fnRested", inPlace := ["slices.overlaps[*loop.example/g00609/impl.Order]"], unfollowed := true, recurses := true, apart := false, narrowed := true }
def FnRestedUptoSaid : Prop := fnRestedUptoRow.holds Try.pinned (OpenSpec.upto fnRestedSpec)

/-- 'laws.FnTaken', WHERE WHAT IT READS IS OF BULK AT MOST 1048576: true; the input reads as it did. -/
def fnTakenUptoRow : OpenClaim := { program := "ytnldfbcelakimaa", sum := "777bc96402cee16fadf0e11a7f8f3c3632d4949a5dad1c00cd50281e0c996234", func := "loop.example/g00609/laws.FnTaken", spec := "fnTaken", unfollowed := true, recurses := true, apart := false, narrowed := true }
def FnTakenUptoSaid : Prop := fnTakenUptoRow.holds Try.pinned (OpenSpec.upto fnTakenSpec)

/-- 'laws.FnCrossing', WHERE WHAT IT READS IS OF BULK AT MOST 1048576: true; the input reads as it did. -/
def fnCrossingUptoRow : OpenClaim := { program := "ytnldfbcelakimaa", sum := "777bc96402cee16fadf0e11a7f8f3c3632d4949a5dad1c00cd50281e0c996234", func := "loop.example/g00609/laws.FnCrossing", spec := "fnCrossing", unfollowed := true, recurses := true, apart := false, narrowed := true }
def FnCrossingUptoSaid : Prop := fnCrossingUptoRow.holds Try.pinned (OpenSpec.upto fnCrossingSpec)

/-- 'laws.FnExactCancelAll', WHERE WHAT IT READS IS OF BULK AT MOST 1048576: true; the input reads as it did. -/
def fnExactCancelAllUptoRow : OpenClaim := { program := "ytnldfbcelakimaa", sum := "777bc96402cee16fadf0e11a7f8f3c3632d4949a5dad1c00cd50281e0c996234", func := "loop.example/g00609/laws.FnExactCancelAll", spec := "fnExactCancelAll", unfollowed := true, recurses := true, apart := false, narrowed := true }
def FnExactCancelAllUptoSaid : Prop := fnExactCancelAllUptoRow.holds Try.pinned (OpenSpec.upto fnExactCancelAllSpec)

/-- 'laws.FnExactDepthApplied', WHERE WHAT IT READS IS OF BULK AT MOST 1048576: true; the input reads as it did. -/
def fnExactDepthAppliedUptoRow : OpenClaim := { program := "ytnldfbcelakimaa", sum := "777bc96402cee16fadf0e11a7f8f3c3632d4949a5dad1c00cd50281e0c996234", func := "loop.example/g00609/laws.FnExactDepthApplied", spec := "fnExactDepthApplied", inPlace := ["slices.overlaps[loop.example/g00609/impl.Level]"], unfollowed := true, recurses := true, apart := false, narrowed := true }
def FnExactDepthAppliedUptoSaid : Prop := fnExactDepthAppliedUptoRow.holds Try.pinned (OpenSpec.upto fnExactDepthAppliedSpec)

end Rows
end Go.Proofs.Ytnldfbcelakimaa
