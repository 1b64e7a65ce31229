/-
  No cell of these rows narrows 'for every input' (looked for: loops, veiled, ifaces, maps, wideKeys, modest, calm, conditions, laid).
  DERIVED. THE GIVEN ROWS OF THIS SEAT. 12 by the template 'for every input the law returns true; each argument reads behind the call as it read before'; 0 by the template 'total and deterministic' (their statements: YtfboaohjngmknabTotals.lean).
  GIVEN WITH THE SEED: the statements are not yours to turn. If you find one false, say at which input.
  Laid BY PROGRAM, IN A SANDBOX (cutbox-rows.mjs): the forced cells as the released guide's own fill.sh prints them over the translation 61b051216a063b44… (all of the seat's roots in one cut). By AI agents, Wed Nov 11 2026. No macro, syntax, notation, axiom, sorry.
-/
import Derived.Test.YtfboaohjngmknabChecked
import GoSem.Claim
import GoSem.ClaimJoined
import GoSem.ClaimMapViews
import Derived.JoinedTies
import Derived.KernelRfl
namespace Go.Proofs.Ytfboaohjngmknab
/- THE CELL 'sum', in the pinned program and in every row, IS THE sha256 OF THE DUMP (.gsa) THAT YtfboaohjngmknabProg.lean LOADS. Nothing in Lean hashes anything: it is a label: what it is worth is what the hold of that sum in a sandbox is worth. -/
noncomputable def Try.pinned : Pinned := { name := "ytfboaohjngmknab", sum := "61b051216a063b443cfd99ec2ed3fcfc155eb8df136d36fd4900beaa736b36a3", checked := Try.checked }
namespace Rows
def none {H : Type} : Left H := { results := [], args := [] }

/-- 'laws.FnExactCmdBytes': WHATEVER THE INPUT: true; the input reads as it did. -/
def fnExactCmdBytesSpec : ChangeSpec := { name := "fnExactCmdBytes", fn := fun _ => fun
  | [d] => { results := [.lit (.bool true)], args := [d] }
  | _ => none }
def fnExactCmdBytesRow : OpenClaim := { program := "ytfboaohjngmknab", sum := "61b051216a063b443cfd99ec2ed3fcfc155eb8df136d36fd4900beaa736b36a3", func := "loop.example/g00609/laws.FnExactCmdBytes", spec := "fnExactCmdBytes", apart := false }
def FnExactCmdBytesSaid : Prop := fnExactCmdBytesRow.holds Try.pinned (OpenSpec.ofChange fnExactCmdBytesSpec)

/-- ITS FALSE NEIGHBOUR: 'it returns false'. Refute it at one input. -/
def fnExactCmdBytesWrong : ChangeSpec := { name := "fnExactCmdBytes", fn := fun _ => fun
  | [d] => { results := [.lit (.bool false)], args := [d] }
  | _ => none }
def FnExactCmdBytesWrongFalsely : Prop := fnExactCmdBytesRow.holds Try.pinned (OpenSpec.ofChange fnExactCmdBytesWrong)

/-- 'laws.FnExactReadCmd': WHATEVER THE INPUT: true; the input reads as it did. -/
def fnExactReadCmdSpec : ChangeSpec := { name := "fnExactReadCmd", fn := fun _ => fun
  | [d] => { results := [.lit (.bool true)], args := [d] }
  | _ => none }
def fnExactReadCmdRow : OpenClaim := { program := "ytfboaohjngmknab", sum := "61b051216a063b443cfd99ec2ed3fcfc155eb8df136d36fd4900beaa736b36a3", func := "loop.example/g00609/laws.FnExactReadCmd", spec := "fnExactReadCmd", unfollowed := true, recurses := true, apart := false }
def FnExactReadCmdSaid : Prop := fnExactReadCmdRow.holds Try.pinned (OpenSpec.ofChange fnExactReadCmdSpec)

/-- ITS FALSE NEIGHBOUR: 'it returns false'. Refute it at one input. -/
def fnExactReadCmdWrong : ChangeSpec := { name := "fnExactReadCmd", fn := fun _ => fun
  | [d] => { results := [.lit (.bool false)], args := [d] }
  | _ => none }
def FnExactReadCmdWrongFalsely : Prop := fnExactReadCmdRow.holds Try.pinned (OpenSpec.ofChange fnExactReadCmdWrong)

/-- 'laws.FnExactCmdsOf': WHATEVER THE INPUT: true; the input reads as it did. -/
def fnExactCmdsOfSpec : ChangeSpec := { name := "fnExactCmdsOf", fn := fun _ => fun
  | [d] => { results := [.lit (.bool true)], args := [d] }
  | _ => none }
def fnExactCmdsOfRow : OpenClaim := { program := "ytfboaohjngmknab", sum := "61b051216a063b443cfd99ec2ed3fcfc155eb8df136d36fd4900beaa736b36a3", func := "loop.example/g00609/laws.FnExactCmdsOf", spec := "fnExactCmdsOf", unfollowed := true, recurses := true, apart := false }
def FnExactCmdsOfSaid : Prop := fnExactCmdsOfRow.holds Try.pinned (OpenSpec.ofChange fnExactCmdsOfSpec)

/-- ITS FALSE NEIGHBOUR: 'it returns false'. Refute it at one input. -/
def fnExactCmdsOfWrong : ChangeSpec := { name := "fnExactCmdsOf", fn := fun _ => fun
  | [d] => { results := [.lit (.bool false)], args := [d] }
  | _ => none }
def FnExactCmdsOfWrongFalsely : Prop := fnExactCmdsOfRow.holds Try.pinned (OpenSpec.ofChange fnExactCmdsOfWrong)

/-- 'laws.FnExactRecOk': WHATEVER THE INPUT: true; the input reads as it did. -/
def fnExactRecOkSpec : ChangeSpec := { name := "fnExactRecOk", fn := fun _ => fun
  | [d] => { results := [.lit (.bool true)], args := [d] }
  | _ => none }
def fnExactRecOkRow : OpenClaim := { program := "ytfboaohjngmknab", sum := "61b051216a063b443cfd99ec2ed3fcfc155eb8df136d36fd4900beaa736b36a3", func := "loop.example/g00609/laws.FnExactRecOk", spec := "fnExactRecOk", apart := false }
def FnExactRecOkSaid : Prop := fnExactRecOkRow.holds Try.pinned (OpenSpec.ofChange fnExactRecOkSpec)

/-- ITS FALSE NEIGHBOUR: 'it returns false'. Refute it at one input. -/
def fnExactRecOkWrong : ChangeSpec := { name := "fnExactRecOk", fn := fun _ => fun
  | [d] => { results := [.lit (.bool false)], args := [d] }
  | _ => none }
def FnExactRecOkWrongFalsely : Prop := fnExactRecOkRow.holds Try.pinned (OpenSpec.ofChange fnExactRecOkWrong)

/-- 'laws.FnExactRecBytes': WHATEVER THE INPUT: true; the input reads as it did. -/
def fnExactRecBytesSpec : ChangeSpec := { name := "fnExactRecBytes", fn := fun _ => fun
  | [d] => { results := [.lit (.bool true)], args := [d] }
  | _ => none }
def fnExactRecBytesRow : OpenClaim := { program := "ytfboaohjngmknab", sum := "61b051216a063b443cfd99ec2ed3fcfc155eb8df136d36fd4900beaa736b36a3", func := "loop.example/g00609/laws.FnExactRecBytes", spec := "fnExactRecBytes", apart := false }
def FnExactRecBytesSaid : Prop := fnExactRecBytesRow.holds Try.pinned (OpenSpec.ofChange fnExactRecBytesSpec)

/-- ITS FALSE NEIGHBOUR: 'it returns false'. Refute it at one input. -/
def fnExactRecBytesWrong : ChangeSpec := { name := "fnExactRecBytes", fn := fun _ => fun
  | [d] => { results := [.lit (.bool false)], args := [d] }
  | _ => none }
def FnExactRecBytesWrongFalsely : Prop := fnExactRecBytesRow.holds Try.pinned (OpenSpec.ofChange fnExactRecBytesWrong)

/-- 'laws.FnExactReadRec': WHATEVER THE INPUT: true; the input reads as it did. -/
def fnExactReadRecSpec : ChangeSpec := { name := "fnExactReadRec", fn := fun _ => fun
  | [d] => { results := [.lit (.bool true)], args := [d] }
  | _ => none }
def fnExactReadRecRow : OpenClaim := { program := "ytfboaohjngmknab", sum := "61b051216a063b443cfd99ec2ed3fcfc155eb8df136d36fd4900beaa736b36a3", func := "loop.example/g00609/laws.FnExactReadRec", spec := "fnExactReadRec", unfollowed := true, recurses := true, apart := false }
def FnExactReadRecSaid : Prop := fnExactReadRecRow.holds Try.pinned (OpenSpec.ofChange fnExactReadRecSpec)

/-- ITS FALSE NEIGHBOUR: 'it returns false'. Refute it at one input. -/
def fnExactReadRecWrong : ChangeSpec := { name := "fnExactReadRec", fn := fun _ => fun
  | [d] => { results := [.lit (.bool false)], args := [d] }
  | _ => none }
def FnExactReadRecWrongFalsely : Prop := fnExactReadRecRow.holds Try.pinned (OpenSpec.ofChange fnExactReadRecWrong)

/-- 'laws.FnExactTapeBytes': WHATEVER THE INPUT: true; the input reads as it did. -/
def fnExactTapeBytesSpec : ChangeSpec := { name := "fnExactTapeBytes", fn := fun _ => fun
  | [d] => { results := [.lit (.bool true)], args := [d] }
  | _ => none }
def fnExactTapeBytesRow : OpenClaim := { program := "ytfboaohjngmknab", sum := "61b051216a063b443cfd99ec2ed3fcfc155eb8df136d36fd4900beaa736b36a3", func := "loop.example/g00609/laws.FnExactTapeBytes", spec := "fnExactTapeBytes", inPlace := ["internal/abi.NoEscape"], apart := false }
def FnExactTapeBytesSaid : Prop := fnExactTapeBytesRow.holds Try.pinned (OpenSpec.ofChange fnExactTapeBytesSpec)

/-- ITS FALSE NEIGHBOUR: 'it returns false'. Refute it at one input. -/
def fnExactTapeBytesWrong : ChangeSpec := { name := "fnExactTapeBytes", fn := fun _ => fun
  | [d] => { results := [.lit (.bool false)], args := [d] }
  | _ => none }
def FnExactTapeBytesWrongFalsely : Prop := fnExactTapeBytesRow.holds Try.pinned (OpenSpec.ofChange fnExactTapeBytesWrong)

/-- 'laws.FnExactReadTape': WHATEVER THE INPUT: true; the input reads as it did. -/
def fnExactReadTapeSpec : ChangeSpec := { name := "fnExactReadTape", fn := fun _ => fun
  | [d] => { results := [.lit (.bool true)], args := [d] }
  | _ => none }
def fnExactReadTapeRow : OpenClaim := { program := "ytfboaohjngmknab", sum := "61b051216a063b443cfd99ec2ed3fcfc155eb8df136d36fd4900beaa736b36a3", func := "loop.example/g00609/laws.FnExactReadTape", spec := "fnExactReadTape", unfollowed := true, recurses := true, apart := false }
def FnExactReadTapeSaid : Prop := fnExactReadTapeRow.holds Try.pinned (OpenSpec.ofChange fnExactReadTapeSpec)

/-- ITS FALSE NEIGHBOUR: 'it returns false'. Refute it at one input. -/
def fnExactReadTapeWrong : ChangeSpec := { name := "fnExactReadTape", fn := fun _ => fun
  | [d] => { results := [.lit (.bool false)], args := [d] }
  | _ => none }
def FnExactReadTapeWrongFalsely : Prop := fnExactReadTapeRow.holds Try.pinned (OpenSpec.ofChange fnExactReadTapeWrong)

/-- 'laws.FnExactBookOk': WHATEVER THE INPUT: true; the input reads as it did. -/
def fnExactBookOkSpec : ChangeSpec := { name := "fnExactBookOk", fn := fun _ => fun
  | [d] => { results := [.lit (.bool true)], args := [d] }
  | _ => none }
def fnExactBookOkRow : OpenClaim := { program := "ytfboaohjngmknab", sum := "61b051216a063b443cfd99ec2ed3fcfc155eb8df136d36fd4900beaa736b36a3", func := "loop.example/g00609/laws.FnExactBookOk", spec := "fnExactBookOk", unfollowed := true, recurses := true, apart := false }
def FnExactBookOkSaid : Prop := fnExactBookOkRow.holds Try.pinned (OpenSpec.ofChange fnExactBookOkSpec)

/-- ITS FALSE NEIGHBOUR: 'it returns false'. Refute it at one input. -/
def fnExactBookOkWrong : ChangeSpec := { name := "fnExactBookOk", fn := fun _ => fun
  | [d] => { results := [.lit (.bool false)], args := [d] }
  | _ => none }
def FnExactBookOkWrongFalsely : Prop := fnExactBookOkRow.holds Try.pinned (OpenSpec.ofChange fnExactBookOkWrong)

/-- 'laws.FnExactSide': WHATEVER THE INPUT: true; the input reads as it did. -/
def fnExactSideSpec : ChangeSpec := { name := "fnExactSide", fn := fun _ => fun
  | [d1, d2] => { results := [.lit (.bool true)], args := [d1, d2] }
  | _ => none }
def fnExactSideRow : OpenClaim := { program := "ytfboaohjngmknab", sum := "61b051216a063b443cfd99ec2ed3fcfc155eb8df136d36fd4900beaa736b36a3", func := "loop.example/g00609/laws.FnExactSide", spec := "fnExactSide", unfollowed := true, recurses := true, apart := false }
def FnExactSideSaid : Prop := fnExactSideRow.holds Try.pinned (OpenSpec.ofChange fnExactSideSpec)

/-- ITS FALSE NEIGHBOUR: 'it returns false'. Refute it at one input. -/
def fnExactSideWrong : ChangeSpec := { name := "fnExactSide", fn := fun _ => fun
  | [d1, d2] => { results := [.lit (.bool false)], args := [d1, d2] }
  | _ => none }
def FnExactSideWrongFalsely : Prop := fnExactSideRow.holds Try.pinned (OpenSpec.ofChange fnExactSideWrong)

/-- 'laws.FnExactFind': WHATEVER THE INPUT: true; the input reads as it did. -/
def fnExactFindSpec : ChangeSpec := { name := "fnExactFind", fn := fun _ => fun
  | [d1, d2] => { results := [.lit (.bool true)], args := [d1, d2] }
  | _ => none }
def fnExactFindRow : OpenClaim := { program := "ytfboaohjngmknab", sum := "61b051216a063b443cfd99ec2ed3fcfc155eb8df136d36fd4900beaa736b36a3", func := "loop.example/g00609/laws.FnExactFind", spec := "fnExactFind", unfollowed := true, recurses := true, apart := false }
def FnExactFindSaid : Prop := fnExactFindRow.holds Try.pinned (OpenSpec.ofChange fnExactFindSpec)

/-- ITS FALSE NEIGHBOUR: 'it returns false'. Refute it at one input. -/
def fnExactFindWrong : ChangeSpec := { name := "fnExactFind", fn := fun _ => fun
  | [d1, d2] => { results := [.lit (.bool false)], args := [d1, d2] }
  | _ => none }
def FnExactFindWrongFalsely : Prop := fnExactFindRow.holds Try.pinned (OpenSpec.ofChange fnExactFindWrong)

/-- 'laws.FnExactRested': WHATEVER THE INPUT: true; the input reads as it did. -/
def fnExactRestedSpec : ChangeSpec := { name := "fnExactRested", fn := fun _ => fun
  | [d1, d2, d3] => { results := [.lit (.bool true)], args := [d1, d2, d3] }
  | _ => none }
def fnExactRestedRow : OpenClaim := { program := "ytfboaohjngmknab", sum := "61b051216a063b443cfd99ec2ed3fcfc155eb8df136d36fd4900beaa736b36a3", func := "loop.example/g00609/laws.FnExactRested", spec := "fnExactRested", inPlace := ["slices.overlaps[*loop.example/g00609/impl.Order]"], unfollowed := true, recurses := true, apart := false }
def FnExactRestedSaid : Prop := fnExactRestedRow.holds Try.pinned (OpenSpec.ofChange fnExactRestedSpec)

/-- ITS FALSE NEIGHBOUR: 'it returns false'. Refute it at one input. -/
def fnExactRestedWrong : ChangeSpec := { name := "fnExactRested", fn := fun _ => fun
  | [d1, d2, d3] => { results := [.lit (.bool false)], args := [d1, d2, d3] }
  | _ => none }
def FnExactRestedWrongFalsely : Prop := fnExactRestedRow.holds Try.pinned (OpenSpec.ofChange fnExactRestedWrong)

/- THE SECOND FORM. 'bulk': how many values and letters a reading holds, each counted each time it is reached (what is shared counts as often as it is met; a slice's spare places count too). A statement '..UptoSaid' is the law's where the arguments, and the package variables that the reading takes, are together of bulk at most 1048576: NARROWER than '..Said'. Prove '..Said' where nothing that the law and all that it calls make is longer than what came in: it says more and counts as full. Else prove '..UptoSaid'. A law counts once. -/
mutual
def uptoBulk {H : Type} : DataW H → Nat
  | .lit (.string bytes) => bytes.length + 1
  | .lit _ => 1
  | .nil => 1
  | .ptr d => uptoBulk d + 1
  | .slice elems spare => uptoBulkAll elems + uptoBulkAll spare + 1
  | .agg parts => uptoBulkAll parts + 1
  | .iface _ d => uptoBulk d + 1
  | .map entries => uptoBulkEntries entries + 1
  | .held _ => 1
def uptoBulkAll {H : Type} : List (DataW H) → Nat
  | [] => 0
  | d :: r => uptoBulk d + uptoBulkAll r
def uptoBulkEntries {H : Type} : List (Lit × DataW H) → Nat
  | [] => 0
  | x :: r => uptoBulkEntry x + uptoBulkEntries r
def uptoBulkEntry {H : Type} : Lit × DataW H → Nat
  | (.string bytes, d) => bytes.length + uptoBulk d + 1
  | (_, d) => uptoBulk d + 1
 end
def uptoSmall : (H : Type) → List (DataW H) → Bool := fun _ ds => decide (uptoBulkAll ds ≤ 1048576)
def OpenSpec.upto (s : _root_.Go.ChangeSpec) : _root_.Go.OpenSpec := { _root_.Go.OpenSpec.ofChange s with cond := some uptoSmall }

/-- 'laws.FnExactCmdBytes', WHERE WHAT IT READS IS OF BULK AT MOST 1048576: true; the input reads as it did. -/
def fnExactCmdBytesUptoRow : OpenClaim := { program := "ytfboaohjngmknab", sum := "61b051216a063b443cfd99ec2ed3fcfc155eb8df136d36fd4900beaa736b36a3", func := "loop.example/g00609/laws.FnExactCmdBytes", spec := "fnExactCmdBytes", apart := false, narrowed := true }
def FnExactCmdBytesUptoSaid : Prop := fnExactCmdBytesUptoRow.holds Try.pinned (OpenSpec.upto fnExactCmdBytesSpec)

/-- 'laws.FnExactReadCmd', WHERE WHAT IT READS IS OF BULK AT MOST 1048576: true; the input reads as it did. -/
def fnExactReadCmdUptoRow : OpenClaim := { program := "ytfboaohjngmknab", sum := "61b051216a063b443cfd99ec2ed3fcfc155eb8df136d36fd4900beaa736b36a3", func := "loop.example/g00609/laws.FnExactReadCmd", spec := "fnExactReadCmd", unfollowed := true, recurses := true, apart := false, narrowed := true }
def FnExactReadCmdUptoSaid : Prop := fnExactReadCmdUptoRow.holds Try.pinned (OpenSpec.upto fnExactReadCmdSpec)

/-- 'laws.FnExactCmdsOf', WHERE WHAT IT READS IS OF BULK AT MOST 1048576: true; the input reads as it did. -/
def fnExactCmdsOfUptoRow : OpenClaim := { program := "ytfboaohjngmknab", sum := "61b051216a063b443cfd99ec2ed3fcfc155eb8df136d36fd4900beaa736b36a3", func := "loop.example/g00609/laws.FnExactCmdsOf", spec := "fnExactCmdsOf", unfollowed := true, recurses := true, apart := false, narrowed := true }
def FnExactCmdsOfUptoSaid : Prop := fnExactCmdsOfUptoRow.holds Try.pinned (OpenSpec.upto fnExactCmdsOfSpec)

/-- 'laws.FnExactRecOk', WHERE WHAT IT READS IS OF BULK AT MOST 1048576: true; the input reads as it did. -/
def fnExactRecOkUptoRow : OpenClaim := { program := "ytfboaohjngmknab", sum := "61b051216a063b443cfd99ec2ed3fcfc155eb8df136d36fd4900beaa736b36a3", func := "loop.example/g00609/laws.FnExactRecOk", spec := "fnExactRecOk", apart := false, narrowed := true }
def FnExactRecOkUptoSaid : Prop := fnExactRecOkUptoRow.holds Try.pinned (OpenSpec.upto fnExactRecOkSpec)

/-- 'laws.FnExactRecBytes', WHERE WHAT IT READS IS OF BULK AT MOST 1048576: true; the input reads as it did. -/
def fnExactRecBytesUptoRow : OpenClaim := { program := "ytfboaohjngmknab", sum := "61b051216a063b443cfd99ec2ed3fcfc155eb8df136d36fd4900beaa736b36a3", func := "loop.example/g00609/laws.FnExactRecBytes", spec := "fnExactRecBytes", apart := false, narrowed := true }
def FnExactRecBytesUptoSaid : Prop := fnExactRecBytesUptoRow.holds Try.pinned (OpenSpec.upto fnExactRecBytesSpec)

/-- 'laws.FnExactReadRec', WHERE WHAT IT READS IS OF BULK AT MOST 1048576: true; the input reads as it did. -/
def fnExactReadRecUptoRow : OpenClaim := { program := "ytfboaohjngmknab", sum := "61b051216a063b443cfd99ec2ed3fcfc155eb8df136d36fd4900beaa736b36a3", func := "loop.example/g00609/laws.FnExactReadRec", spec := "fnExactReadRec", unfollowed := true, recurses := true, apart := false, narrowed := true }
def FnExactReadRecUptoSaid : Prop := fnExactReadRecUptoRow.holds Try.pinned (OpenSpec.upto fnExactReadRecSpec)

/-- 'laws.FnExactTapeBytes', WHERE WHAT IT READS IS OF BULK AT MOST 1048576: true; the input reads as it did. -/
def fnExactTapeBytesUptoRow : OpenClaim := { program := "ytfboaohjngmknab", sum := "61b051216a063b443cfd99ec2ed3fcfc155eb8df136d36fd4900beaa736b36a3", func := "loop.example/g00609/laws.FnExactTapeBytes", spec := "fnExactTapeBytes", inPlace := ["internal/abi.NoEscape"], apart := false, narrowed := true }
def FnExactTapeBytesUptoSaid : Prop := fnExactTapeBytesUptoRow.holds Try.pinned (OpenSpec.upto fnExactTapeBytesSpec)

/-- 'laws.FnExactReadTape', WHERE WHAT IT READS IS OF BULK AT MOST 1048576: true; the input reads as it did. -/
def fnExactReadTapeUptoRow : OpenClaim := { program := "ytfboaohjngmknab", sum := "61b051216a063b443cfd99ec2ed3fcfc155eb8df136d36fd4900beaa736b36a3", func := "loop.example/g00609/laws.FnExactReadTape", spec := "fnExactReadTape", unfollowed := true, recurses := true, apart := false, narrowed := true }
def FnExactReadTapeUptoSaid : Prop := fnExactReadTapeUptoRow.holds Try.pinned (OpenSpec.upto fnExactReadTapeSpec)

/-- 'laws.FnExactBookOk', WHERE WHAT IT READS IS OF BULK AT MOST 1048576: true; the input reads as it did. -/
def fnExactBookOkUptoRow : OpenClaim := { program := "ytfboaohjngmknab", sum := "61b051216a063b443cfd99ec2ed3fcfc155eb8df136d36fd4900beaa736b36a3", func := "loop.example/g00609/laws.FnExactBookOk", spec := "fnExactBookOk", unfollowed := true, recurses := true, apart := false, narrowed := true }
def FnExactBookOkUptoSaid : Prop := fnExactBookOkUptoRow.holds Try.pinned (OpenSpec.upto fnExactBookOkSpec)

/-- 'laws.FnExactSide', WHERE WHAT IT READS IS OF BULK AT MOST 1048576: true; the input reads as it did. -/
def fnExactSideUptoRow : OpenClaim := { program := "ytfboaohjngmknab", sum := "61b051216a063b443cfd99ec2ed3fcfc155eb8df136d36fd4900beaa736b36a3", func := "loop.example/g00609/laws.FnExactSide", spec := "fnExactSide", unfollowed := true, recurses := true, apart := false, narrowed := true }
def FnExactSideUptoSaid : Prop := fnExactSideUptoRow.holds Try.pinned (OpenSpec.upto fnExactSideSpec)

/-- 'laws.FnExactFind', WHERE WHAT IT READS IS OF BULK AT MOST 1048576: true; the input reads as it did. -/
def fnExactFindUptoRow : OpenClaim := { program := "ytfboaohjngmknab", sum := "61b051216a063b443cfd99ec2ed3fcfc155eb8df136d36fd4900beaa736b36a3", func := "loop.example/g00609/laws.FnExactFind", spec := "fnExactFind", unfollowed := true, recurses := true, apart := false, narrowed := true }
def FnExactFindUptoSaid : Prop := fnExactFindUptoRow.holds Try.pinned (OpenSpec.upto fnExactFindSpec)

/-- 'laws.FnExactRested', WHERE WHAT IT READS IS OF BULK AT MOST 1048576: true; the input reads as it did. -/
def fnExactRestedUptoRow : OpenClaim := { program := "ytfboaohjngmknab", sum := "61b051216a063b443cfd99ec2ed3fcfc155eb8df136d36fd4900beaa736b36a3", func := "loop.example/g00609/laws.FnExactRested", spec := "fnExactRested", inPlace := ["slices.overlaps[*loop.example/g00609/impl.Order]"], unfollowed := true, recurses := true, apart := false, narrowed := true }
def FnExactRestedUptoSaid : Prop := fnExactRestedUptoRow.holds Try.pinned (OpenSpec.upto fnExactRestedSpec)

end Rows
end Go.Proofs.Ytfboaohjngmknab
