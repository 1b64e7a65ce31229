/-
  No cell of these rows narrows 'for every input' (looked for: loops, veiled, ifaces, maps, wideKeys, modest, calm, conditions, laid).
  DERIVED. THE GIVEN ROWS OF THIS SEAT. 11 by the template 'for every input the law returns true; each argument reads behind the call as it read before'; 0 by the template 'total and deterministic' (their statements: YthmoddohkchhfaaTotals.lean).
  GIVEN WITH THE SEED: the statements are not yours to turn. If you find one false, say at which input.
  Laid BY PROGRAM, IN A SANDBOX (cutbox-rows.mjs): the forced cells as the released guide's own fill.sh prints them over the translation 022be742caf36f14… (all of the seat's roots in one cut). By AI agents, Wed Nov 11 2026. No macro, syntax, notation, axiom, sorry.
-/
import Derived.Test.YthmoddohkchhfaaChecked
import GoSem.Claim
import GoSem.ClaimJoined
import GoSem.ClaimMapViews
import Derived.JoinedTies
import Derived.KernelRfl
namespace Go.Proofs.Ythmoddohkchhfaa
/- THE CELL 'sum', in the pinned program and in every row, IS THE sha256 OF THE DUMP (.gsa) THAT YthmoddohkchhfaaProg.lean LOADS. Nothing in Lean hashes anything: it is a label: what it is worth is what the hold of that sum in a sandbox is worth. -/
noncomputable def Try.pinned : Pinned := { name := "ythmoddohkchhfaa", sum := "022be742caf36f14301ba79caed3d665a292e254764f5c0f30b4894d8a9fea64", checked := Try.checked }
namespace Rows
def none {H : Type} : Left H := { results := [], args := [] }

/-- 'laws.FnExactCmdOk': WHATEVER THE INPUT: true; the input reads as it did. -/
def fnExactCmdOkSpec : ChangeSpec := { name := "fnExactCmdOk", fn := fun _ => fun
  | [d] => { results := [.lit (.bool true)], args := [d] }
  | _ => none }
def fnExactCmdOkRow : OpenClaim := { program := "ythmoddohkchhfaa", sum := "022be742caf36f14301ba79caed3d665a292e254764f5c0f30b4894d8a9fea64", func := "loop.example/g00609/laws.FnExactCmdOk", spec := "fnExactCmdOk", apart := false }
def FnExactCmdOkSaid : Prop := fnExactCmdOkRow.holds Try.pinned (OpenSpec.ofChange fnExactCmdOkSpec)

/-- ITS FALSE NEIGHBOUR: 'it returns false'. Refute it at one input. -/
def fnExactCmdOkWrong : ChangeSpec := { name := "fnExactCmdOk", fn := fun _ => fun
  | [d] => { results := [.lit (.bool false)], args := [d] }
  | _ => none }
def FnExactCmdOkWrongFalsely : Prop := fnExactCmdOkRow.holds Try.pinned (OpenSpec.ofChange fnExactCmdOkWrong)

/-- 'laws.FnExactCmdBytes': WHATEVER THE INPUT: true; the input reads as it did. -/
def fnExactCmdBytesSpec : ChangeSpec := { name := "fnExactCmdBytes", fn := fun _ => fun
  | [d] => { results := [.lit (.bool true)], args := [d] }
  | _ => none }
def fnExactCmdBytesRow : OpenClaim := { program := "ythmoddohkchhfaa", sum := "022be742caf36f14301ba79caed3d665a292e254764f5c0f30b4894d8a9fea64", func := "loop.example/g00609/laws.FnExactCmdBytes", spec := "fnExactCmdBytes", apart := false }
def FnExactCmdBytesSaid : Prop := fnExactCmdBytesRow.holds Try.pinned (OpenSpec.ofChange fnExactCmdBytesSpec)

/-- ITS FALSE NEIGHBOUR: 'it returns false'. Refute it at one input. -/
def fnExactCmdBytesWrong : ChangeSpec := { name := "fnExactCmdBytes", fn := fun _ => fun
  | [d] => { results := [.lit (.bool false)], args := [d] }
  | _ => none }
def FnExactCmdBytesWrongFalsely : Prop := fnExactCmdBytesRow.holds Try.pinned (OpenSpec.ofChange fnExactCmdBytesWrong)

/-- 'laws.FnExactReadCmd': WHATEVER THE INPUT: true; the input reads as it did. -/
def fnExactReadCmdSpec : ChangeSpec := { name := "fnExactReadCmd", fn := fun _ => fun
  | [d] => { results := [.lit (.bool true)], args := [d] }
  | _ => none }
def fnExactReadCmdRow : OpenClaim := { program := "ythmoddohkchhfaa", sum := "022be742caf36f14301ba79caed3d665a292e254764f5c0f30b4894d8a9fea64", func := "loop.example/g00609/laws.FnExactReadCmd", spec := "fnExactReadCmd", unfollowed := true, recurses := true, apart := false }
def FnExactReadCmdSaid : Prop := fnExactReadCmdRow.holds Try.pinned (OpenSpec.ofChange fnExactReadCmdSpec)

/-- ITS FALSE NEIGHBOUR: 'it returns false'. Refute it at one input. -/
def fnExactReadCmdWrong : ChangeSpec := { name := "fnExactReadCmd", fn := fun _ => fun
  | [d] => { results := [.lit (.bool false)], args := [d] }
  | _ => none }
def FnExactReadCmdWrongFalsely : Prop := fnExactReadCmdRow.holds Try.pinned (OpenSpec.ofChange fnExactReadCmdWrong)

/-- 'laws.FnExactCmdsOf': WHATEVER THE INPUT: true; the input reads as it did. -/
def fnExactCmdsOfSpec : ChangeSpec := { name := "fnExactCmdsOf", fn := fun _ => fun
  | [d] => { results := [.lit (.bool true)], args := [d] }
  | _ => none }
def fnExactCmdsOfRow : OpenClaim := { program := "ythmoddohkchhfaa", sum := "022be742caf36f14301ba79caed3d665a292e254764f5c0f30b4894d8a9fea64", func := "loop.example/g00609/laws.FnExactCmdsOf", spec := "fnExactCmdsOf", unfollowed := true, recurses := true, apart := false }
def FnExactCmdsOfSaid : Prop := fnExactCmdsOfRow.holds Try.pinned (OpenSpec.ofChange fnExactCmdsOfSpec)

/-- ITS FALSE NEIGHBOUR: 'it returns false'. Refute it at one input. -/
def fnExactCmdsOfWrong : ChangeSpec := { name := "fnExactCmdsOf", fn := fun _ => fun
  | [d] => { results := [.lit (.bool false)], args := [d] }
  | _ => none }
def FnExactCmdsOfWrongFalsely : Prop := fnExactCmdsOfRow.holds Try.pinned (OpenSpec.ofChange fnExactCmdsOfWrong)

/-- 'laws.FnCmds': WHATEVER THE INPUT: true; the input reads as it did. -/
def fnCmdsSpec : ChangeSpec := { name := "fnCmds", fn := fun _ => fun
  | [d] => { results := [.lit (.bool true)], args := [d] }
  | _ => none }
def fnCmdsRow : OpenClaim := { program := "ythmoddohkchhfaa", sum := "022be742caf36f14301ba79caed3d665a292e254764f5c0f30b4894d8a9fea64", func := "loop.example/g00609/laws.FnCmds", spec := "fnCmds", unfollowed := true, recurses := true, apart := false }
def FnCmdsSaid : Prop := fnCmdsRow.holds Try.pinned (OpenSpec.ofChange fnCmdsSpec)

/-- ITS FALSE NEIGHBOUR: 'it returns false'. Refute it at one input. -/
def fnCmdsWrong : ChangeSpec := { name := "fnCmds", fn := fun _ => fun
  | [d] => { results := [.lit (.bool false)], args := [d] }
  | _ => none }
def FnCmdsWrongFalsely : Prop := fnCmdsRow.holds Try.pinned (OpenSpec.ofChange fnCmdsWrong)

/-- 'laws.FnCmdStream': WHATEVER THE INPUT: true; the input reads as it did. -/
def fnCmdStreamSpec : ChangeSpec := { name := "fnCmdStream", fn := fun _ => fun
  | [d] => { results := [.lit (.bool true)], args := [d] }
  | _ => none }
def fnCmdStreamRow : OpenClaim := { program := "ythmoddohkchhfaa", sum := "022be742caf36f14301ba79caed3d665a292e254764f5c0f30b4894d8a9fea64", func := "loop.example/g00609/laws.FnCmdStream", spec := "fnCmdStream", unfollowed := true, recurses := true, apart := false }
def FnCmdStreamSaid : Prop := fnCmdStreamRow.holds Try.pinned (OpenSpec.ofChange fnCmdStreamSpec)

/-- ITS FALSE NEIGHBOUR: 'it returns false'. Refute it at one input. -/
def fnCmdStreamWrong : ChangeSpec := { name := "fnCmdStream", fn := fun _ => fun
  | [d] => { results := [.lit (.bool false)], args := [d] }
  | _ => none }
def FnCmdStreamWrongFalsely : Prop := fnCmdStreamRow.holds Try.pinned (OpenSpec.ofChange fnCmdStreamWrong)

/-- 'laws.FnExactDepth': WHATEVER THE INPUT: true; the input reads as it did. -/
def fnExactDepthSpec : ChangeSpec := { name := "fnExactDepth", fn := fun _ => fun
  | [d1, d2] => { results := [.lit (.bool true)], args := [d1, d2] }
  | _ => none }
def fnExactDepthRow : OpenClaim := { program := "ythmoddohkchhfaa", sum := "022be742caf36f14301ba79caed3d665a292e254764f5c0f30b4894d8a9fea64", func := "loop.example/g00609/laws.FnExactDepth", spec := "fnExactDepth", unfollowed := true, recurses := true, apart := false }
def FnExactDepthSaid : Prop := fnExactDepthRow.holds Try.pinned (OpenSpec.ofChange fnExactDepthSpec)

/-- ITS FALSE NEIGHBOUR: 'it returns false'. Refute it at one input. -/
def fnExactDepthWrong : ChangeSpec := { name := "fnExactDepth", fn := fun _ => fun
  | [d1, d2] => { results := [.lit (.bool false)], args := [d1, d2] }
  | _ => none }
def FnExactDepthWrongFalsely : Prop := fnExactDepthRow.holds Try.pinned (OpenSpec.ofChange fnExactDepthWrong)

/-- 'laws.FnExactDepthApplied': WHATEVER THE INPUT: true; the input reads as it did. -/
def fnExactDepthAppliedSpec : ChangeSpec := { name := "fnExactDepthApplied", fn := fun _ => fun
  | [d1, d2, d3] => { results := [.lit (.bool true)], args := [d1, d2, d3] }
  | _ => none }
def fnExactDepthAppliedRow : OpenClaim := { program := "ythmoddohkchhfaa", sum := "022be742caf36f14301ba79caed3d665a292e254764f5c0f30b4894d8a9fea64", func := "loop.example/g00609/laws.FnExactDepthApplied", spec := "fnExactDepthApplied", inPlace := ["slices.overlaps[loop.example/g00609/impl.Level]"], unfollowed := true, recurses := true, apart := false }
def FnExactDepthAppliedSaid : Prop := fnExactDepthAppliedRow.holds Try.pinned (OpenSpec.ofChange fnExactDepthAppliedSpec)

/-- ITS FALSE NEIGHBOUR: 'it returns false'. Refute it at one input. -/
def fnExactDepthAppliedWrong : ChangeSpec := { name := "fnExactDepthApplied", fn := fun _ => fun
  | [d1, d2, d3] => { results := [.lit (.bool false)], args := [d1, d2, d3] }
  | _ => none }
def FnExactDepthAppliedWrongFalsely : Prop := fnExactDepthAppliedRow.holds Try.pinned (OpenSpec.ofChange fnExactDepthAppliedWrong)

/-- 'laws.FnExactCanFill': WHATEVER THE INPUT: true; the input reads as it did. -/
def fnExactCanFillSpec : ChangeSpec := { name := "fnExactCanFill", fn := fun _ => fun
  | [d1, d2, d3, d4] => { results := [.lit (.bool true)], args := [d1, d2, d3, d4] }
  | _ => none }
def fnExactCanFillRow : OpenClaim := { program := "ythmoddohkchhfaa", sum := "022be742caf36f14301ba79caed3d665a292e254764f5c0f30b4894d8a9fea64", func := "loop.example/g00609/laws.FnExactCanFill", spec := "fnExactCanFill", unfollowed := true, recurses := true, apart := false }
def FnExactCanFillSaid : Prop := fnExactCanFillRow.holds Try.pinned (OpenSpec.ofChange fnExactCanFillSpec)

/-- ITS FALSE NEIGHBOUR: 'it returns false'. Refute it at one input. -/
def fnExactCanFillWrong : ChangeSpec := { name := "fnExactCanFill", fn := fun _ => fun
  | [d1, d2, d3, d4] => { results := [.lit (.bool false)], args := [d1, d2, d3, d4] }
  | _ => none }
def FnExactCanFillWrongFalsely : Prop := fnExactCanFillRow.holds Try.pinned (OpenSpec.ofChange fnExactCanFillWrong)

/-- 'laws.FnExactMatched': WHATEVER THE INPUT: true; the input reads as it did. -/
def fnExactMatchedSpec : ChangeSpec := { name := "fnExactMatched", fn := fun _ => fun
  | [d1, d2, d3, d4] => { results := [.lit (.bool true)], args := [d1, d2, d3, d4] }
  | _ => none }
def fnExactMatchedRow : OpenClaim := { program := "ythmoddohkchhfaa", sum := "022be742caf36f14301ba79caed3d665a292e254764f5c0f30b4894d8a9fea64", func := "loop.example/g00609/laws.FnExactMatched", spec := "fnExactMatched", unfollowed := true, recurses := true, apart := false }
def FnExactMatchedSaid : Prop := fnExactMatchedRow.holds Try.pinned (OpenSpec.ofChange fnExactMatchedSpec)

/-- ITS FALSE NEIGHBOUR: 'it returns false'. Refute it at one input. -/
def fnExactMatchedWrong : ChangeSpec := { name := "fnExactMatched", fn := fun _ => fun
  | [d1, d2, d3, d4] => { results := [.lit (.bool false)], args := [d1, d2, d3, d4] }
  | _ => none }
def FnExactMatchedWrongFalsely : Prop := fnExactMatchedRow.holds Try.pinned (OpenSpec.ofChange fnExactMatchedWrong)

/-- 'laws.FnExactCancelAll': WHATEVER THE INPUT: true; the input reads as it did. -/
def fnExactCancelAllSpec : ChangeSpec := { name := "fnExactCancelAll", fn := fun _ => fun
  | [d1, d2] => { results := [.lit (.bool true)], args := [d1, d2] }
  | _ => none }
def fnExactCancelAllRow : OpenClaim := { program := "ythmoddohkchhfaa", sum := "022be742caf36f14301ba79caed3d665a292e254764f5c0f30b4894d8a9fea64", func := "loop.example/g00609/laws.FnExactCancelAll", spec := "fnExactCancelAll", unfollowed := true, recurses := true, apart := false }
def FnExactCancelAllSaid : Prop := fnExactCancelAllRow.holds Try.pinned (OpenSpec.ofChange fnExactCancelAllSpec)

/-- ITS FALSE NEIGHBOUR: 'it returns false'. Refute it at one input. -/
def fnExactCancelAllWrong : ChangeSpec := { name := "fnExactCancelAll", fn := fun _ => fun
  | [d1, d2] => { results := [.lit (.bool false)], args := [d1, d2] }
  | _ => none }
def FnExactCancelAllWrongFalsely : Prop := fnExactCancelAllRow.holds Try.pinned (OpenSpec.ofChange fnExactCancelAllWrong)

/- THE SECOND FORM. 'bulk': how many values and letters a reading holds, each counted each time it is reached (what is shared counts as often as it is met; a slice's spare places count too). A statement '..UptoSaid' is the law's where the arguments, and the package variables that the reading takes, are together of bulk at most 1048576: NARROWER than '..Said'. Prove '..Said' where nothing that the law and all that it calls make is longer than what came in: it says more and counts as full. Else prove '..UptoSaid'. A law counts once. -/
mutual
def uptoBulk {H : Type} : DataW H → Nat
  | .lit (.string bytes) => bytes.length + 1
  | .lit _ => 1
  | .nil => 1
  | .ptr d => uptoBulk d + 1
  | .slice elems spare => uptoBulkAll elems + uptoBulkAll spare + 1
  | .agg parts => uptoBulkAll parts + 1
  | .iface _ d => uptoBulk d + 1
  | .map entries => uptoBulkEntries entries + 1
  | .held _ => 1
def uptoBulkAll {H : Type} : List (DataW H) → Nat
  | [] => 0
  | d :: r => uptoBulk d + uptoBulkAll r
def uptoBulkEntries {H : Type} : List (Lit × DataW H) → Nat
  | [] => 0
  | x :: r => uptoBulkEntry x + uptoBulkEntries r
def uptoBulkEntry {H : Type} : Lit × DataW H → Nat
  | (.string bytes, d) => bytes.length + uptoBulk d + 1
  | (_, d) => uptoBulk d + 1
 end
def uptoSmall : (H : Type) → List (DataW H) → Bool := fun _ ds => decide (uptoBulkAll ds ≤ 1048576)
def OpenSpec.upto (s : _root_.Go.ChangeSpec) : _root_.Go.OpenSpec := { _root_.Go.OpenSpec.ofChange s with cond := some uptoSmall }

/-- 'laws.FnExactCmdOk', WHERE WHAT IT READS IS OF BULK AT MOST 1048576: true; the input reads as it did. -/
def fnExactCmdOkUptoRow : OpenClaim := { program := "ythmoddohkchhfaa", sum := "022be742caf36f14301ba79caed3d665a292e254764f5c0f30b4894d8a9fea64", func := "loop.example/g00609/laws.FnExactCmdOk", spec := "fnExactCmdOk", apart := false, narrowed := true }
def FnExactCmdOkUptoSaid : Prop := fnExactCmdOkUptoRow.holds Try.pinned (OpenSpec.upto fnExactCmdOkSpec)

/-- 'laws.FnExactCmdBytes', WHERE WHAT IT READS IS OF BULK AT MOST 1048576: true; the input reads as it did. -/
def fnExactCmdBytesUptoRow : OpenClaim := { program := "ythmoddohkchhfaa", sum := "022be742caf36f14301ba79caed3d665a292e254764f5c0f30b4894d8a9fea64", func := "loop.example/g00609/laws.FnExactCmdBytes", spec := "fnExactCmdBytes", apart := false, narrowed := true }
def FnExactCmdBytesUptoSaid : Prop := fnExactCmdBytesUptoRow.holds Try.pinned (OpenSpec.upto fnExactCmdBytesSpec)

/-- 'laws.FnExactReadCmd', WHERE WHAT IT READS IS OF BULK AT MOST 1048576: true; the input reads as it did. -/
def fnExactReadCmdUptoRow : OpenClaim := { program := "ythmoddohkchhfaa", sum := "022be742caf36f14301ba79caed3d665a292e254764f5c0f30b4894d8a9fea64", func := "loop.example/g00609/laws.FnExactReadCmd", spec := "fnExactReadCmd", unfollowed := true, recurses := true, apart := false, narrowed := true }
def FnExactReadCmdUptoSaid : Prop := fnExactReadCmdUptoRow.holds Try.pinned (OpenSpec.upto fnExactReadCmdSpec)

/-- 'laws.FnExactCmdsOf', WHERE WHAT IT READS IS OF BULK AT MOST 1048576: true; the input reads as it did. -/
def fnExactCmdsOfUptoRow : OpenClaim := { program := "ythmoddohkchhfaa", sum := "022be742caf36f14301ba79caed3d665a292e254764f5c0f30b4894d8a9fea64", func := "loop.example/g00609/laws.FnExactCmdsOf", spec := "fnExactCmdsOf", unfollowed := true, recurses := true, apart := false, narrowed := true }
def FnExactCmdsOfUptoSaid : Prop := fnExactCmdsOfUptoRow.holds Try.pinned (OpenSpec.upto fnExactCmdsOfSpec)

/-- 'laws.FnCmds', WHERE WHAT IT READS IS OF BULK AT MOST 1048576: true; the input reads as it did. -/
def fnCmdsUptoRow : OpenClaim := { program := "ythmoddohkchhfaa", sum := "022be742caf36f14301ba79caed3d665a292e254764f5c0f30b4894d8a9fea64", func := "loop.example/g00609/laws.FnCmds", spec := "fnCmds", unfollowed := true, recurses := true, apart := false, narrowed := true }
def FnCmdsUptoSaid : Prop := fnCmdsUptoRow.holds Try.pinned (OpenSpec.upto fnCmdsSpec)

/-- 'laws.FnCmdStream', WHERE WHAT IT READS IS OF BULK AT MOST 1048576: true; the input reads as it did. -/
def fnCmdStreamUptoRow : OpenClaim := { program := "ythmoddohkchhfaa", sum := "022be742caf36f14301ba79caed3d665a292e254764f5c0f30b4894d8a9fea64", func := "loop.example/g00609/laws.FnCmdStream", spec := "fnCmdStream", unfollowed := true, recurses := true, apart := false, narrowed := true }
def FnCmdStreamUptoSaid : Prop := fnCmdStreamUptoRow.holds Try.pinned (OpenSpec.upto fnCmdStreamSpec)

/-- 'laws.FnExactDepth', WHERE WHAT IT READS IS OF BULK AT MOST 1048576: true; the input reads as it did. -/
def fnExactDepthUptoRow : OpenClaim := { program := "ythmoddohkchhfaa", sum := "022be742caf36f14301ba79caed3d665a292e254764f5c0f30b4894d8a9fea64", func := "loop.example/g00609/laws.FnExactDepth", spec := "fnExactDepth", unfollowed := true, recurses := true, apart := false, narrowed := true }
def FnExactDepthUptoSaid : Prop := fnExactDepthUptoRow.holds Try.pinned (OpenSpec.upto fnExactDepthSpec)

/-- 'laws.FnExactDepthApplied', WHERE WHAT IT READS IS OF BULK AT MOST 1048576: true; the input reads as it did. -/
def fnExactDepthAppliedUptoRow : OpenClaim := { program := "ythmoddohkchhfaa", sum := "022be742caf36f14301ba79caed3d665a292e254764f5c0f30b4894d8a9fea64", func := "loop.example/g00609/laws.FnExactDepthApplied", spec := "fnExactDepthApplied", inPlace := ["slices.overlaps[loop.example/g00609/impl.Level]"], unfollowed := true, recurses := true, apart := false, narrowed := true }
def FnExactDepthAppliedUptoSaid : Prop := fnExactDepthAppliedUptoRow.holds Try.pinned (OpenSpec.upto fnExactDepthAppliedSpec)

/-- 'laws.FnExactCanFill', WHERE WHAT IT READS IS OF BULK AT MOST 1048576: true; the input reads as it did. -/
def fnExactCanFillUptoRow : OpenClaim := { program := "ythmoddohkchhfaa", sum := "022be742caf36f14301ba79caed3d665a292e254764f5c0f30b4894d8a9fea64", func := "loop.example/g00609/laws.FnExactCanFill", spec := "fnExactCanFill", unfollowed := true, recurses := true, apart := false, narrowed := true }
def FnExactCanFillUptoSaid : Prop := fnExactCanFillUptoRow.holds Try.pinned (OpenSpec.upto fnExactCanFillSpec)

/-- 'laws.FnExactMatched', WHERE WHAT IT READS IS OF BULK AT MOST 1048576: true; the input reads as it did. -/
def fnExactMatchedUptoRow : OpenClaim := { program := "ythmoddohkchhfaa", sum := "022be742caf36f14301ba79caed3d665a292e254764f5c0f30b4894d8a9fea64", func := "loop.example/g00609/laws.FnExactMatched", spec := "fnExactMatched", unfollowed := true, recurses := true, apart := false, narrowed := true }
def FnExactMatchedUptoSaid : Prop := fnExactMatchedUptoRow.holds Try.pinned (OpenSpec.upto fnExactMatchedSpec)

/-- 'laws.FnExactCancelAll', WHERE WHAT IT READS IS OF BULK AT MOST 1048576: true; the input reads as it did. -/
def fnExactCancelAllUptoRow : OpenClaim := { program := "ythmoddohkchhfaa", sum := "022be742caf36f14301ba79caed3d665a292e254764f5c0f30b4894d8a9fea64", func := "loop.example/g00609/laws.FnExactCancelAll", spec := "fnExactCancelAll", unfollowed := true, recurses := true, apart := false, narrowed := true }
def FnExactCancelAllUptoSaid : Prop := fnExactCancelAllUptoRow.holds Try.pinned (OpenSpec.upto fnExactCancelAllSpec)

end Rows
end Go.Proofs.Ythmoddohkchhfaa
