/-
  No cell of these rows narrows 'for every input' (looked for: loops, veiled, ifaces, maps, wideKeys, modest, calm, conditions, laid).
  DERIVED. THE GIVEN ROWS OF THIS SEAT. 18 by the template 'for every input the law returns true; each argument reads behind the call as it read before'; 0 by the template 'total and deterministic' (their statements: YtlaklbagcgbioaaTotals.lean).
  GIVEN WITH THE SEED: the statements are not yours to turn. If you find one false, say at which input.
  Laid BY PROGRAM, IN A SANDBOX (cutbox-rows.mjs): the forced cells as the released guide's own fill.sh prints them over the translation 3aa63ae2d8acc5aa… (all of the seat's roots in one cut). By AI agents, Wed Nov 11 2026. No macro, syntax, notation, axiom, sorry.
-/
import Derived.Test.YtlaklbagcgbioaaChecked
import GoSem.Claim
import GoSem.ClaimJoined
import GoSem.ClaimMapViews
import Derived.JoinedTies
import Derived.KernelRfl
namespace Go.Proofs.Ytlaklbagcgbioaa
/- THE CELL 'sum', in the pinned program and in every row, IS THE sha256 OF THE DUMP (.gsa) THAT YtlaklbagcgbioaaProg.lean LOADS. Nothing in Lean hashes anything: it is a label: what it is worth is what the hold of that sum in a sandbox is worth. -/
noncomputable def Try.pinned : Pinned := { name := "ytlaklbagcgbioaa", sum := "3aa63ae2d8acc5aab1b7be921951b7e6670456d65dbd98fa13a6024d0cbce574", checked := Try.checked }
namespace Rows
def none {H : Type} : Left H := { results := [], args := [] }

/-- 'laws.FnInts': WHATEVER THE INPUT: true; the input reads as it did. -/
def fnIntsSpec : ChangeSpec := { name := "fnInts", fn := fun _ => fun
  | [d] => { results := [.lit (.bool true)], args := [d] }
  | _ => none }
def fnIntsRow : OpenClaim := { program := "ytlaklbagcgbioaa", sum := "3aa63ae2d8acc5aab1b7be921951b7e6670456d65dbd98fa13a6024d0cbce574", func := "loop.example/g00609/laws.FnInts", spec := "fnInts", apart := false }
def FnIntsSaid : Prop := fnIntsRow.holds Try.pinned (OpenSpec.ofChange fnIntsSpec)

/-- ITS FALSE NEIGHBOUR: 'it returns false'. Refute it at one input. -/
def fnIntsWrong : ChangeSpec := { name := "fnInts", fn := fun _ => fun
  | [d] => { results := [.lit (.bool false)], args := [d] }
  | _ => none }
def FnIntsWrongFalsely : Prop := fnIntsRow.holds Try.pinned (OpenSpec.ofChange fnIntsWrong)

/-- 'laws.FnCmds': WHATEVER THE INPUT: true; the input reads as it did. -/
def fnCmdsSpec : ChangeSpec := { name := "fnCmds", fn := fun _ => fun
  | [d] => { results := [.lit (.bool true)], args := [d] }
  | _ => none }
def fnCmdsRow : OpenClaim := { program := "ytlaklbagcgbioaa", sum := "3aa63ae2d8acc5aab1b7be921951b7e6670456d65dbd98fa13a6024d0cbce574", func := "loop.example/g00609/laws.FnCmds", spec := "fnCmds", unfollowed := true, recurses := true, apart := false }
def FnCmdsSaid : Prop := fnCmdsRow.holds Try.pinned (OpenSpec.ofChange fnCmdsSpec)

/-- ITS FALSE NEIGHBOUR: 'it returns false'. Refute it at one input. -/
def fnCmdsWrong : ChangeSpec := { name := "fnCmds", fn := fun _ => fun
  | [d] => { results := [.lit (.bool false)], args := [d] }
  | _ => none }
def FnCmdsWrongFalsely : Prop := fnCmdsRow.holds Try.pinned (OpenSpec.ofChange fnCmdsWrong)

/-- 'laws.FnCmdStream': WHATEVER THE INPUT: true; the input reads as it did. -/
def fnCmdStreamSpec : ChangeSpec := { name := "fnCmdStream", fn := fun _ => fun
  | [d] => { results := [.lit (.bool true)], args := [d] }
  | _ => none }
def fnCmdStreamRow : OpenClaim := { program := "ytlaklbagcgbioaa", sum := "3aa63ae2d8acc5aab1b7be921951b7e6670456d65dbd98fa13a6024d0cbce574", func := "loop.example/g00609/laws.FnCmdStream", spec := "fnCmdStream", unfollowed := true, recurses := true, apart := false }
def FnCmdStreamSaid : Prop := fnCmdStreamRow.holds Try.pinned (OpenSpec.ofChange fnCmdStreamSpec)

/-- ITS FALSE NEIGHBOUR: 'it returns false'. Refute it at one input. -/
def fnCmdStreamWrong : ChangeSpec := { name := "fnCmdStream", fn := fun _ => fun
  | [d] => { results := [.lit (.bool false)], args := [d] }
  | _ => none }
def FnCmdStreamWrongFalsely : Prop := fnCmdStreamRow.holds Try.pinned (OpenSpec.ofChange fnCmdStreamWrong)

/-- 'laws.FnRecs': WHATEVER THE INPUT: true; the input reads as it did. -/
def fnRecsSpec : ChangeSpec := { name := "fnRecs", fn := fun _ => fun
  | [d] => { results := [.lit (.bool true)], args := [d] }
  | _ => none }
def fnRecsRow : OpenClaim := { program := "ytlaklbagcgbioaa", sum := "3aa63ae2d8acc5aab1b7be921951b7e6670456d65dbd98fa13a6024d0cbce574", func := "loop.example/g00609/laws.FnRecs", spec := "fnRecs", unfollowed := true, recurses := true, apart := false }
def FnRecsSaid : Prop := fnRecsRow.holds Try.pinned (OpenSpec.ofChange fnRecsSpec)

/-- ITS FALSE NEIGHBOUR: 'it returns false'. Refute it at one input. -/
def fnRecsWrong : ChangeSpec := { name := "fnRecs", fn := fun _ => fun
  | [d] => { results := [.lit (.bool false)], args := [d] }
  | _ => none }
def FnRecsWrongFalsely : Prop := fnRecsRow.holds Try.pinned (OpenSpec.ofChange fnRecsWrong)

/-- 'laws.FnTapes': WHATEVER THE INPUT: true; the input reads as it did. -/
def fnTapesSpec : ChangeSpec := { name := "fnTapes", fn := fun _ => fun
  | [d] => { results := [.lit (.bool true)], args := [d] }
  | _ => none }
def fnTapesRow : OpenClaim := { program := "ytlaklbagcgbioaa", sum := "3aa63ae2d8acc5aab1b7be921951b7e6670456d65dbd98fa13a6024d0cbce574", func := "loop.example/g00609/laws.FnTapes", spec := "fnTapes", inPlace := ["internal/abi.NoEscape"], unfollowed := true, recurses := true, apart := false }
def FnTapesSaid : Prop := fnTapesRow.holds Try.pinned (OpenSpec.ofChange fnTapesSpec)

/-- ITS FALSE NEIGHBOUR: 'it returns false'. Refute it at one input. -/
def fnTapesWrong : ChangeSpec := { name := "fnTapes", fn := fun _ => fun
  | [d] => { results := [.lit (.bool false)], args := [d] }
  | _ => none }
def FnTapesWrongFalsely : Prop := fnTapesRow.holds Try.pinned (OpenSpec.ofChange fnTapesWrong)

/-- 'laws.FnExactPutInt': WHATEVER THE INPUT: true; the input reads as it did. -/
def fnExactPutIntSpec : ChangeSpec := { name := "fnExactPutInt", fn := fun _ => fun
  | [d1, d2] => { results := [.lit (.bool true)], args := [d1, d2] }
  | _ => none }
def fnExactPutIntRow : OpenClaim := { program := "ytlaklbagcgbioaa", sum := "3aa63ae2d8acc5aab1b7be921951b7e6670456d65dbd98fa13a6024d0cbce574", func := "loop.example/g00609/laws.FnExactPutInt", spec := "fnExactPutInt", apart := false }
def FnExactPutIntSaid : Prop := fnExactPutIntRow.holds Try.pinned (OpenSpec.ofChange fnExactPutIntSpec)

/-- ITS FALSE NEIGHBOUR: 'it returns false'. Refute it at one input. -/
def fnExactPutIntWrong : ChangeSpec := { name := "fnExactPutInt", fn := fun _ => fun
  | [d1, d2] => { results := [.lit (.bool false)], args := [d1, d2] }
  | _ => none }
def FnExactPutIntWrongFalsely : Prop := fnExactPutIntRow.holds Try.pinned (OpenSpec.ofChange fnExactPutIntWrong)

/-- 'laws.FnExactGetInt': WHATEVER THE INPUT: true; the input reads as it did. -/
def fnExactGetIntSpec : ChangeSpec := { name := "fnExactGetInt", fn := fun _ => fun
  | [d] => { results := [.lit (.bool true)], args := [d] }
  | _ => none }
def fnExactGetIntRow : OpenClaim := { program := "ytlaklbagcgbioaa", sum := "3aa63ae2d8acc5aab1b7be921951b7e6670456d65dbd98fa13a6024d0cbce574", func := "loop.example/g00609/laws.FnExactGetInt", spec := "fnExactGetInt", apart := false }
def FnExactGetIntSaid : Prop := fnExactGetIntRow.holds Try.pinned (OpenSpec.ofChange fnExactGetIntSpec)

/-- ITS FALSE NEIGHBOUR: 'it returns false'. Refute it at one input. -/
def fnExactGetIntWrong : ChangeSpec := { name := "fnExactGetInt", fn := fun _ => fun
  | [d] => { results := [.lit (.bool false)], args := [d] }
  | _ => none }
def FnExactGetIntWrongFalsely : Prop := fnExactGetIntRow.holds Try.pinned (OpenSpec.ofChange fnExactGetIntWrong)

/-- 'laws.FnExactCmdOk': WHATEVER THE INPUT: true; the input reads as it did. -/
def fnExactCmdOkSpec : ChangeSpec := { name := "fnExactCmdOk", fn := fun _ => fun
  | [d] => { results := [.lit (.bool true)], args := [d] }
  | _ => none }
def fnExactCmdOkRow : OpenClaim := { program := "ytlaklbagcgbioaa", sum := "3aa63ae2d8acc5aab1b7be921951b7e6670456d65dbd98fa13a6024d0cbce574", func := "loop.example/g00609/laws.FnExactCmdOk", spec := "fnExactCmdOk", apart := false }
def FnExactCmdOkSaid : Prop := fnExactCmdOkRow.holds Try.pinned (OpenSpec.ofChange fnExactCmdOkSpec)

/-- ITS FALSE NEIGHBOUR: 'it returns false'. Refute it at one input. -/
def fnExactCmdOkWrong : ChangeSpec := { name := "fnExactCmdOk", fn := fun _ => fun
  | [d] => { results := [.lit (.bool false)], args := [d] }
  | _ => none }
def FnExactCmdOkWrongFalsely : Prop := fnExactCmdOkRow.holds Try.pinned (OpenSpec.ofChange fnExactCmdOkWrong)

/-- 'laws.FnExactCmdBytes': WHATEVER THE INPUT: true; the input reads as it did. -/
def fnExactCmdBytesSpec : ChangeSpec := { name := "fnExactCmdBytes", fn := fun _ => fun
  | [d] => { results := [.lit (.bool true)], args := [d] }
  | _ => none }
def fnExactCmdBytesRow : OpenClaim := { program := "ytlaklbagcgbioaa", sum := "3aa63ae2d8acc5aab1b7be921951b7e6670456d65dbd98fa13a6024d0cbce574", func := "loop.example/g00609/laws.FnExactCmdBytes", spec := "fnExactCmdBytes", apart := false }
def FnExactCmdBytesSaid : Prop := fnExactCmdBytesRow.holds Try.pinned (OpenSpec.ofChange fnExactCmdBytesSpec)

/-- ITS FALSE NEIGHBOUR: 'it returns false'. Refute it at one input. -/
def fnExactCmdBytesWrong : ChangeSpec := { name := "fnExactCmdBytes", fn := fun _ => fun
  | [d] => { results := [.lit (.bool false)], args := [d] }
  | _ => none }
def FnExactCmdBytesWrongFalsely : Prop := fnExactCmdBytesRow.holds Try.pinned (OpenSpec.ofChange fnExactCmdBytesWrong)

/-- 'laws.FnExactReadCmd': WHATEVER THE INPUT: true; the input reads as it did. -/
def fnExactReadCmdSpec : ChangeSpec := { name := "fnExactReadCmd", fn := fun _ => fun
  | [d] => { results := [.lit (.bool true)], args := [d] }
  | _ => none }
def fnExactReadCmdRow : OpenClaim := { program := "ytlaklbagcgbioaa", sum := "3aa63ae2d8acc5aab1b7be921951b7e6670456d65dbd98fa13a6024d0cbce574", func := "loop.example/g00609/laws.FnExactReadCmd", spec := "fnExactReadCmd", unfollowed := true, recurses := true, apart := false }
def FnExactReadCmdSaid : Prop := fnExactReadCmdRow.holds Try.pinned (OpenSpec.ofChange fnExactReadCmdSpec)

/-- ITS FALSE NEIGHBOUR: 'it returns false'. Refute it at one input. -/
def fnExactReadCmdWrong : ChangeSpec := { name := "fnExactReadCmd", fn := fun _ => fun
  | [d] => { results := [.lit (.bool false)], args := [d] }
  | _ => none }
def FnExactReadCmdWrongFalsely : Prop := fnExactReadCmdRow.holds Try.pinned (OpenSpec.ofChange fnExactReadCmdWrong)

/-- 'laws.FnExactCmdsOf': WHATEVER THE INPUT: true; the input reads as it did. -/
def fnExactCmdsOfSpec : ChangeSpec := { name := "fnExactCmdsOf", fn := fun _ => fun
  | [d] => { results := [.lit (.bool true)], args := [d] }
  | _ => none }
def fnExactCmdsOfRow : OpenClaim := { program := "ytlaklbagcgbioaa", sum := "3aa63ae2d8acc5aab1b7be921951b7e6670456d65dbd98fa13a6024d0cbce574", func := "loop.example/g00609/laws.FnExactCmdsOf", spec := "fnExactCmdsOf", unfollowed := true, recurses := true, apart := false }
def FnExactCmdsOfSaid : Prop := fnExactCmdsOfRow.holds Try.pinned (OpenSpec.ofChange fnExactCmdsOfSpec)

/-- ITS FALSE NEIGHBOUR: 'it returns false'. Refute it at one input. -/
def fnExactCmdsOfWrong : ChangeSpec := { name := "fnExactCmdsOf", fn := fun _ => fun
  | [d] => { results := [.lit (.bool false)], args := [d] }
  | _ => none }
def FnExactCmdsOfWrongFalsely : Prop := fnExactCmdsOfRow.holds Try.pinned (OpenSpec.ofChange fnExactCmdsOfWrong)

/-- 'laws.FnExactRecOk': WHATEVER THE INPUT: true; the input reads as it did. -/
def fnExactRecOkSpec : ChangeSpec := { name := "fnExactRecOk", fn := fun _ => fun
  | [d] => { results := [.lit (.bool true)], args := [d] }
  | _ => none }
def fnExactRecOkRow : OpenClaim := { program := "ytlaklbagcgbioaa", sum := "3aa63ae2d8acc5aab1b7be921951b7e6670456d65dbd98fa13a6024d0cbce574", func := "loop.example/g00609/laws.FnExactRecOk", spec := "fnExactRecOk", apart := false }
def FnExactRecOkSaid : Prop := fnExactRecOkRow.holds Try.pinned (OpenSpec.ofChange fnExactRecOkSpec)

/-- ITS FALSE NEIGHBOUR: 'it returns false'. Refute it at one input. -/
def fnExactRecOkWrong : ChangeSpec := { name := "fnExactRecOk", fn := fun _ => fun
  | [d] => { results := [.lit (.bool false)], args := [d] }
  | _ => none }
def FnExactRecOkWrongFalsely : Prop := fnExactRecOkRow.holds Try.pinned (OpenSpec.ofChange fnExactRecOkWrong)

/-- 'laws.FnExactRecBytes': WHATEVER THE INPUT: true; the input reads as it did. -/
def fnExactRecBytesSpec : ChangeSpec := { name := "fnExactRecBytes", fn := fun _ => fun
  | [d] => { results := [.lit (.bool true)], args := [d] }
  | _ => none }
def fnExactRecBytesRow : OpenClaim := { program := "ytlaklbagcgbioaa", sum := "3aa63ae2d8acc5aab1b7be921951b7e6670456d65dbd98fa13a6024d0cbce574", func := "loop.example/g00609/laws.FnExactRecBytes", spec := "fnExactRecBytes", apart := false }
def FnExactRecBytesSaid : Prop := fnExactRecBytesRow.holds Try.pinned (OpenSpec.ofChange fnExactRecBytesSpec)

/-- ITS FALSE NEIGHBOUR: 'it returns false'. Refute it at one input. -/
def fnExactRecBytesWrong : ChangeSpec := { name := "fnExactRecBytes", fn := fun _ => fun
  | [d] => { results := [.lit (.bool false)], args := [d] }
  | _ => none }
def FnExactRecBytesWrongFalsely : Prop := fnExactRecBytesRow.holds Try.pinned (OpenSpec.ofChange fnExactRecBytesWrong)

/-- 'laws.FnExactReadRec': WHATEVER THE INPUT: true; the input reads as it did. -/
def fnExactReadRecSpec : ChangeSpec := { name := "fnExactReadRec", fn := fun _ => fun
  | [d] => { results := [.lit (.bool true)], args := [d] }
  | _ => none }
def fnExactReadRecRow : OpenClaim := { program := "ytlaklbagcgbioaa", sum := "3aa63ae2d8acc5aab1b7be921951b7e6670456d65dbd98fa13a6024d0cbce574", func := "loop.example/g00609/laws.FnExactReadRec", spec := "fnExactReadRec", unfollowed := true, recurses := true, apart := false }
def FnExactReadRecSaid : Prop := fnExactReadRecRow.holds Try.pinned (OpenSpec.ofChange fnExactReadRecSpec)

/-- ITS FALSE NEIGHBOUR: 'it returns false'. Refute it at one input. -/
def fnExactReadRecWrong : ChangeSpec := { name := "fnExactReadRec", fn := fun _ => fun
  | [d] => { results := [.lit (.bool false)], args := [d] }
  | _ => none }
def FnExactReadRecWrongFalsely : Prop := fnExactReadRecRow.holds Try.pinned (OpenSpec.ofChange fnExactReadRecWrong)

/-- 'laws.FnExactTapeBytes': WHATEVER THE INPUT: true; the input reads as it did. -/
def fnExactTapeBytesSpec : ChangeSpec := { name := "fnExactTapeBytes", fn := fun _ => fun
  | [d] => { results := [.lit (.bool true)], args := [d] }
  | _ => none }
def fnExactTapeBytesRow : OpenClaim := { program := "ytlaklbagcgbioaa", sum := "3aa63ae2d8acc5aab1b7be921951b7e6670456d65dbd98fa13a6024d0cbce574", func := "loop.example/g00609/laws.FnExactTapeBytes", spec := "fnExactTapeBytes", inPlace := ["internal/abi.NoEscape"], apart := false }
def FnExactTapeBytesSaid : Prop := fnExactTapeBytesRow.holds Try.pinned (OpenSpec.ofChange fnExactTapeBytesSpec)

/-- ITS FALSE NEIGHBOUR: 'it returns false'. Refute it at one input. -/
def fnExactTapeBytesWrong : ChangeSpec := { name := "fnExactTapeBytes", fn := fun _ => fun
  | [d] => { results := [.lit (.bool false)], args := [d] }
  | _ => none }
def FnExactTapeBytesWrongFalsely : Prop := fnExactTapeBytesRow.holds Try.pinned (OpenSpec.ofChange fnExactTapeBytesWrong)

/-- 'laws.FnExactReadTape': WHATEVER THE INPUT: true; the input reads as it did. -/
def fnExactReadTapeSpec : ChangeSpec := { name := "fnExactReadTape", fn := fun _ => fun
  | [d] => { results := [.lit (.bool true)], args := [d] }
  | _ => none }
def fnExactReadTapeRow : OpenClaim := { program := "ytlaklbagcgbioaa", sum := "3aa63ae2d8acc5aab1b7be921951b7e6670456d65dbd98fa13a6024d0cbce574", func := "loop.example/g00609/laws.FnExactReadTape", spec := "fnExactReadTape", unfollowed := true, recurses := true, apart := false }
def FnExactReadTapeSaid : Prop := fnExactReadTapeRow.holds Try.pinned (OpenSpec.ofChange fnExactReadTapeSpec)

/-- ITS FALSE NEIGHBOUR: 'it returns false'. Refute it at one input. -/
def fnExactReadTapeWrong : ChangeSpec := { name := "fnExactReadTape", fn := fun _ => fun
  | [d] => { results := [.lit (.bool false)], args := [d] }
  | _ => none }
def FnExactReadTapeWrongFalsely : Prop := fnExactReadTapeRow.holds Try.pinned (OpenSpec.ofChange fnExactReadTapeWrong)

/-- 'laws.FnFilled': WHATEVER THE INPUT: true; the input reads as it did. -/
def fnFilledSpec : ChangeSpec := { name := "fnFilled", fn := fun _ => fun
  | [d] => { results := [.lit (.bool true)], args := [d] }
  | _ => none }
def fnFilledRow : OpenClaim := { program := "ytlaklbagcgbioaa", sum := "3aa63ae2d8acc5aab1b7be921951b7e6670456d65dbd98fa13a6024d0cbce574", func := "loop.example/g00609/laws.FnFilled", spec := "fnFilled", apart := false }
def FnFilledSaid : Prop := fnFilledRow.holds Try.pinned (OpenSpec.ofChange fnFilledSpec)

/-- ITS FALSE NEIGHBOUR: 'it returns false'. Refute it at one input. -/
def fnFilledWrong : ChangeSpec := { name := "fnFilled", fn := fun _ => fun
  | [d] => { results := [.lit (.bool false)], args := [d] }
  | _ => none }
def FnFilledWrongFalsely : Prop := fnFilledRow.holds Try.pinned (OpenSpec.ofChange fnFilledWrong)

/-- 'laws.FnExactFilled': WHATEVER THE INPUT: true; the input reads as it did. -/
def fnExactFilledSpec : ChangeSpec := { name := "fnExactFilled", fn := fun _ => fun
  | [d1, d2] => { results := [.lit (.bool true)], args := [d1, d2] }
  | _ => none }
def fnExactFilledRow : OpenClaim := { program := "ytlaklbagcgbioaa", sum := "3aa63ae2d8acc5aab1b7be921951b7e6670456d65dbd98fa13a6024d0cbce574", func := "loop.example/g00609/laws.FnExactFilled", spec := "fnExactFilled", apart := false }
def FnExactFilledSaid : Prop := fnExactFilledRow.holds Try.pinned (OpenSpec.ofChange fnExactFilledSpec)

/-- ITS FALSE NEIGHBOUR: 'it returns false'. Refute it at one input. -/
def fnExactFilledWrong : ChangeSpec := { name := "fnExactFilled", fn := fun _ => fun
  | [d1, d2] => { results := [.lit (.bool false)], args := [d1, d2] }
  | _ => none }
def FnExactFilledWrongFalsely : Prop := fnExactFilledRow.holds Try.pinned (OpenSpec.ofChange fnExactFilledWrong)

/- THE SECOND FORM. 'bulk': how many values and letters a reading holds, each counted each time it is reached (what is shared counts as often as it is met; a slice's spare places count too). A statement '..UptoSaid' is the law's where the arguments, and the package variables that the reading takes, are together of bulk at most 1048576: NARROWER than '..Said'. Prove '..Said' where nothing that the law and all that it calls make is longer than what came in: it says more and counts as full. Else prove '..UptoSaid'. A law counts once. -/
mutual
def uptoBulk {H : Type} : DataW H → Nat
  | .lit (.string bytes) => bytes.length + 1
  | .lit _ => 1
  | .nil => 1
  | .ptr d => uptoBulk d + 1
  | .slice elems spare => uptoBulkAll elems + uptoBulkAll spare + 1
  | .agg parts => uptoBulkAll parts + 1
  | .iface _ d => uptoBulk d + 1
  | .map entries => uptoBulkEntries entries + 1
  | .held _ => 1
def uptoBulkAll {H : Type} : List (DataW H) → Nat
  | [] => 0
  | d :: r => uptoBulk d + uptoBulkAll r
def uptoBulkEntries {H : Type} : List (Lit × DataW H) → Nat
  | [] => 0
  | x :: r => uptoBulkEntry x + uptoBulkEntries r
def uptoBulkEntry {H : Type} : Lit × DataW H → Nat
  | (.string bytes, d) => bytes.length + uptoBulk d + 1
  | (_, d) => uptoBulk d + 1
 end
def uptoSmall : (H : Type) → List (DataW H) → Bool := fun _ ds => decide (uptoBulkAll ds ≤ 1048576)
def OpenSpec.upto (s : _root_.Go.ChangeSpec) : _root_.Go.OpenSpec := { _root_.Go.OpenSpec.ofChange s with cond := some uptoSmall }

/-- 'laws.FnInts', WHERE WHAT IT READS IS OF BULK AT MOST 1048576: true; the input reads as it did. -/
def fnIntsUptoRow : OpenClaim := { program := "ytlaklbagcgbioaa", sum := "3aa63ae2d8acc5aab1b7be921951b7e6670456d65dbd98fa13a6024d0cbce574", func := "loop.example/g00609/laws.FnInts", spec := "fnInts", apart := false, narrowed := true }
def FnIntsUptoSaid : Prop := fnIntsUptoRow.holds Try.pinned (OpenSpec.upto fnIntsSpec)

/-- 'laws.FnCmds', WHERE WHAT IT READS IS OF BULK AT MOST 1048576: true; the input reads as it did. -/
def fnCmdsUptoRow : OpenClaim := { program := "ytlaklbagcgbioaa", sum := "3aa63ae2d8acc5aab1b7be921951b7e6670456d65dbd98fa13a6024d0cbce574", func := "loop.example/g00609/laws.FnCmds", spec := "fnCmds", unfollowed := true, recurses := true, apart := false, narrowed := true }
def FnCmdsUptoSaid : Prop := fnCmdsUptoRow.holds Try.pinned (OpenSpec.upto fnCmdsSpec)

/-- 'laws.FnCmdStream', WHERE WHAT IT READS IS OF BULK AT MOST 1048576: true; the input reads as it did. -/
def fnCmdStreamUptoRow : OpenClaim := { program := "ytlaklbagcgbioaa", sum := "3aa63ae2d8acc5aab1b7be921951b7e6670456d65dbd98fa13a6024d0cbce574", func := "loop.example/g00609/laws.FnCmdStream", spec := "fnCmdStream", unfollowed := true, recurses := true, apart := false, narrowed := true }
def FnCmdStreamUptoSaid : Prop := fnCmdStreamUptoRow.holds Try.pinned (OpenSpec.upto fnCmdStreamSpec)

/-- 'laws.FnRecs', WHERE WHAT IT READS IS OF BULK AT MOST 1048576: true; the input reads as it did. -/
def fnRecsUptoRow : OpenClaim := { program := "ytlaklbagcgbioaa", sum := "3aa63ae2d8acc5aab1b7be921951b7e6670456d65dbd98fa13a6024d0cbce574", func := "loop.example/g00609/laws.FnRecs", spec := "fnRecs", unfollowed := true, recurses := true, apart := false, narrowed := true }
def FnRecsUptoSaid : Prop := fnRecsUptoRow.holds Try.pinned (OpenSpec.upto fnRecsSpec)

/-- 'laws.FnTapes', WHERE WHAT IT READS IS OF BULK AT MOST 1048576: true; the input reads as it did. -/
def fnTapesUptoRow : OpenClaim := { program := "ytlaklbagcgbioaa", sum := "3aa63ae2d8acc5aab1b7be921951b7e6670456d65dbd98fa13a6024d0cbce574", func := "loop.example/g00609/laws.FnTapes", spec := "fnTapes", inPlace := ["internal/abi.NoEscape"], unfollowed := true, recurses := true, apart := false, narrowed := true }
def FnTapesUptoSaid : Prop := fnTapesUptoRow.holds Try.pinned (OpenSpec.upto fnTapesSpec)

/-- 'laws.FnExactPutInt', WHERE WHAT IT READS IS OF BULK AT MOST 1048576: true; the input reads as it did. -/
def fnExactPutIntUptoRow : OpenClaim := { program := "ytlaklbagcgbioaa", sum := "3aa63ae2d8acc5aab1b7be921951b7e6670456d65dbd98fa13a6024d0cbce574", func := "loop.example/g00609/laws.FnExactPutInt", spec := "fnExactPutInt", apart := false, narrowed := true }
def FnExactPutIntUptoSaid : Prop := fnExactPutIntUptoRow.holds Try.pinned (OpenSpec.upto fnExactPutIntSpec)

/-- 'laws.FnExactGetInt', WHERE WHAT IT READS IS OF BULK AT MOST 1048576: true; the input reads as it did. -/
def fnExactGetIntUptoRow : OpenClaim := { program := "ytlaklbagcgbioaa", sum := "3aa63ae2d8acc5aab1b7be921951b7e6670456d65dbd98fa13a6024d0cbce574", func := "loop.example/g00609/laws.FnExactGetInt", spec := "fnExactGetInt", apart := false, narrowed := true }
def FnExactGetIntUptoSaid : Prop := fnExactGetIntUptoRow.holds Try.pinned (OpenSpec.upto fnExactGetIntSpec)

/-- 'laws.FnExactCmdOk', WHERE WHAT IT READS IS OF BULK AT MOST 1048576: true; the input reads as it did. -/
def fnExactCmdOkUptoRow : OpenClaim := { program := "ytlaklbagcgbioaa", sum := "3aa63ae2d8acc5aab1b7be921951b7e6670456d65dbd98fa13a6024d0cbce574", func := "loop.example/g00609/laws.FnExactCmdOk", spec := "fnExactCmdOk", apart := false, narrowed := true }
def FnExactCmdOkUptoSaid : Prop := fnExactCmdOkUptoRow.holds Try.pinned (OpenSpec.upto fnExactCmdOkSpec)

/-- 'laws.FnExactCmdBytes', WHERE WHAT IT READS IS OF BULK AT MOST 1048576: true; the input reads as it did. -/
def fnExactCmdBytesUptoRow : OpenClaim := { program := "ytlaklbagcgbioaa", sum := "3aa63ae2d8acc5aab1b7be921951b7e6670456d65dbd98fa13a6024d0cbce574", func := "loop.example/g00609/laws.FnExactCmdBytes", spec := "fnExactCmdBytes", apart := false, narrowed := true }
def FnExactCmdBytesUptoSaid : Prop := fnExactCmdBytesUptoRow.holds Try.pinned (OpenSpec.upto fnExactCmdBytesSpec)

/-- 'laws.FnExactReadCmd', WHERE WHAT IT READS IS OF BULK AT MOST 1048576: true; the input reads as it did. -/
def fnExactReadCmdUptoRow : OpenClaim := { program := "ytlaklbagcgbioaa", sum := "3aa63ae2d8acc5aab1b7be921951b7e6670456d65dbd98fa13a6024d0cbce574", func := "loop.example/g00609/laws.FnExactReadCmd", spec := "fnExactReadCmd", unfollowed := true, recurses := true, apart := false, narrowed := true }
def FnExactReadCmdUptoSaid : Prop := fnExactReadCmdUptoRow.holds Try.pinned (OpenSpec.upto fnExactReadCmdSpec)

/-- 'laws.FnExactCmdsOf', WHERE WHAT IT READS IS OF BULK AT MOST 1048576: true; the input reads as it did. -/
def fnExactCmdsOfUptoRow : OpenClaim := { program := "ytlaklbagcgbioaa", sum := "3aa63ae2d8acc5aab1b7be921951b7e6670456d65dbd98fa13a6024d0cbce574", func := "loop.example/g00609/laws.FnExactCmdsOf", spec := "fnExactCmdsOf", unfollowed := true, recurses := true, apart := false, narrowed := true }
def FnExactCmdsOfUptoSaid : Prop := fnExactCmdsOfUptoRow.holds Try.pinned (OpenSpec.upto fnExactCmdsOfSpec)

/-- 'laws.FnExactRecOk', WHERE WHAT IT READS IS OF BULK AT MOST 1048576: true; the input reads as it did. -/
def fnExactRecOkUptoRow : OpenClaim := { program := "ytlaklbagcgbioaa", sum := "3aa63ae2d8acc5aab1b7be921951b7e6670456d65dbd98fa13a6024d0cbce574", func := "loop.example/g00609/laws.FnExactRecOk", spec := "fnExactRecOk", apart := false, narrowed := true }
def FnExactRecOkUptoSaid : Prop := fnExactRecOkUptoRow.holds Try.pinned (OpenSpec.upto fnExactRecOkSpec)

/-- 'laws.FnExactRecBytes', WHERE WHAT IT READS IS OF BULK AT MOST 1048576: true; the input reads as it did. -/
def fnExactRecBytesUptoRow : OpenClaim := { program := "ytlaklbagcgbioaa", sum := "3aa63ae2d8acc5aab1b7be921951b7e6670456d65dbd98fa13a6024d0cbce574", func := "loop.example/g00609/laws.FnExactRecBytes", spec := "fnExactRecBytes", apart := false, narrowed := true }
def FnExactRecBytesUptoSaid : Prop := fnExactRecBytesUptoRow.holds Try.pinned (OpenSpec.upto fnExactRecBytesSpec)

/-- 'laws.FnExactReadRec', WHERE WHAT IT READS IS OF BULK AT MOST 1048576: true; the input reads as it did. -/
def fnExactReadRecUptoRow : OpenClaim := { program := "ytlaklbagcgbioaa", sum := "3aa63ae2d8acc5aab1b7be921951b7e6670456d65dbd98fa13a6024d0cbce574", func := "loop.example/g00609/laws.FnExactReadRec", spec := "fnExactReadRec", unfollowed := true, recurses := true, apart := false, narrowed := true }
def FnExactReadRecUptoSaid : Prop := fnExactReadRecUptoRow.holds Try.pinned (OpenSpec.upto fnExactReadRecSpec)

/-- 'laws.FnExactTapeBytes', WHERE WHAT IT READS IS OF BULK AT MOST 1048576: true; the input reads as it did. -/
def fnExactTapeBytesUptoRow : OpenClaim := { program := "ytlaklbagcgbioaa", sum := "3aa63ae2d8acc5aab1b7be921951b7e6670456d65dbd98fa13a6024d0cbce574", func := "loop.example/g00609/laws.FnExactTapeBytes", spec := "fnExactTapeBytes", inPlace := ["internal/abi.NoEscape"], apart := false, narrowed := true }
def FnExactTapeBytesUptoSaid : Prop := fnExactTapeBytesUptoRow.holds Try.pinned (OpenSpec.upto fnExactTapeBytesSpec)

/-- 'laws.FnExactReadTape', WHERE WHAT IT READS IS OF BULK AT MOST 1048576: true; the input reads as it did. -/
def fnExactReadTapeUptoRow : OpenClaim := { program := "ytlaklbagcgbioaa", sum := "3aa63ae2d8acc5aab1b7be921951b7e6670456d65dbd98fa13a6024d0cbce574", func := "loop.example/g00609/laws.FnExactReadTape", spec := "fnExactReadTape", unfollowed := true, recurses := true, apart := false, narrowed := true }
def FnExactReadTapeUptoSaid : Prop := fnExactReadTapeUptoRow.holds Try.pinned (OpenSpec.upto fnExactReadTapeSpec)

/-- 'laws.FnFilled', WHERE WHAT IT READS IS OF BULK AT MOST 1048576: true; the input reads as it did. -/
def fnFilledUptoRow : OpenClaim := { program := "ytlaklbagcgbioaa", sum := "3aa63ae2d8acc5aab1b7be921951b7e6670456d65dbd98fa13a6024d0cbce574", func := "loop.example/g00609/laws.FnFilled", spec := "fnFilled", apart := false, narrowed := true }
def FnFilledUptoSaid : Prop := fnFilledUptoRow.holds Try.pinned (OpenSpec.upto fnFilledSpec)

/-- 'laws.FnExactFilled', WHERE WHAT IT READS IS OF BULK AT MOST 1048576: true; the input reads as it did. -/
def fnExactFilledUptoRow : OpenClaim := { program := "ytlaklbagcgbioaa", sum := "3aa63ae2d8acc5aab1b7be921951b7e6670456d65dbd98fa13a6024d0cbce574", func := "loop.example/g00609/laws.FnExactFilled", spec := "fnExactFilled", apart := false, narrowed := true }
def FnExactFilledUptoSaid : Prop := fnExactFilledUptoRow.holds Try.pinned (OpenSpec.upto fnExactFilledSpec)

end Rows
end Go.Proofs.Ytlaklbagcgbioaa
