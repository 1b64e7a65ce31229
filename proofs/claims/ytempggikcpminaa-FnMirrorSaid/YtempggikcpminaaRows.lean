/-
  No cell of these rows narrows 'for every input' (looked for: loops, veiled, ifaces, maps, wideKeys, modest, calm, conditions, laid).
  DERIVED. THE GIVEN ROWS OF THIS SEAT. 4 by the template 'for every input the law returns true; each argument reads behind the call as it read before'; 0 by the template 'total and deterministic' (their statements: YtempggikcpminaaTotals.lean).
  GIVEN WITH THE SEED: the statements are not yours to turn. If you find one false, say at which input.
  Laid BY PROGRAM, IN A SANDBOX (cutbox-rows.mjs): the forced cells as the released guide's own fill.sh prints them over the translation f79691954927a902… (all of the seat's roots in one cut). By AI agents, Wed Nov 11 2026. No macro, syntax, notation, axiom, sorry.
-/
import Derived.Test.YtempggikcpminaaChecked
import GoSem.Claim
import GoSem.ClaimJoined
import GoSem.ClaimMapViews
import Derived.JoinedTies
import Derived.KernelRfl
namespace Go.Proofs.Ytempggikcpminaa
/- THE CELL 'sum', in the pinned program and in every row, IS THE sha256 OF THE DUMP (.gsa) THAT YtempggikcpminaaProg.lean LOADS. Nothing in Lean hashes anything: it is a label: what it is worth is what the hold of that sum in a sandbox is worth. -/
noncomputable def Try.pinned : Pinned := { name := "ytempggikcpminaa", sum := "f79691954927a90229b2c446626905af8325b4e759e641c8c0b2e4ca39ef2114", checked := Try.checked }
namespace Rows
def none {H : Type} : Left H := { results := [], args := [] }

/-- 'laws.FnMirror': WHATEVER THE INPUT: true; the input reads as it did. -/
def fnMirrorSpec : ChangeSpec := { name := "fnMirror", fn := fun _ => fun
  | [d] => { results := [.lit (.bool true)], args := [d] }
  | _ => none }
def fnMirrorRow : OpenClaim := { program := "ytempggikcpminaa", sum := "f79691954927a90229b2c446626905af8325b4e759e641c8c0b2e4ca39ef2114", func := "loop.example/g00609/laws.FnMirror", spec := "fnMirror", unfollowed := true, recurses := true, apart := false }
def FnMirrorSaid : Prop := fnMirrorRow.holds Try.pinned (OpenSpec.ofChange fnMirrorSpec)

/-- ITS FALSE NEIGHBOUR: 'it returns false'. Refute it at one input. -/
def fnMirrorWrong : ChangeSpec := { name := "fnMirror", fn := fun _ => fun
  | [d] => { results := [.lit (.bool false)], args := [d] }
  | _ => none }
def FnMirrorWrongFalsely : Prop := fnMirrorRow.holds Try.pinned (OpenSpec.ofChange fnMirrorWrong)

/-- 'laws.FnExactUncrossed': WHATEVER THE INPUT: true; the input reads as it did. -/
def fnExactUncrossedSpec : ChangeSpec := { name := "fnExactUncrossed", fn := fun _ => fun
  | [d1, d2] => { results := [.lit (.bool true)], args := [d1, d2] }
  | _ => none }
def fnExactUncrossedRow : OpenClaim := { program := "ytempggikcpminaa", sum := "f79691954927a90229b2c446626905af8325b4e759e641c8c0b2e4ca39ef2114", func := "loop.example/g00609/laws.FnExactUncrossed", spec := "fnExactUncrossed", inPlace := ["slices.overlaps[*loop.example/g00609/impl.Order]"], unfollowed := true, recurses := true, apart := false }
def FnExactUncrossedSaid : Prop := fnExactUncrossedRow.holds Try.pinned (OpenSpec.ofChange fnExactUncrossedSpec)

/-- ITS FALSE NEIGHBOUR: 'it returns false'. Refute it at one input. -/
def fnExactUncrossedWrong : ChangeSpec := { name := "fnExactUncrossed", fn := fun _ => fun
  | [d1, d2] => { results := [.lit (.bool false)], args := [d1, d2] }
  | _ => none }
def FnExactUncrossedWrongFalsely : Prop := fnExactUncrossedRow.holds Try.pinned (OpenSpec.ofChange fnExactUncrossedWrong)

/-- 'laws.FnUncrossed': WHATEVER THE INPUT: true; the input reads as it did. -/
def fnUncrossedSpec : ChangeSpec := { name := "fnUncrossed", fn := fun _ => fun
  | [d] => { results := [.lit (.bool true)], args := [d] }
  | _ => none }
def fnUncrossedRow : OpenClaim := { program := "ytempggikcpminaa", sum := "f79691954927a90229b2c446626905af8325b4e759e641c8c0b2e4ca39ef2114", func := "loop.example/g00609/laws.FnUncrossed", spec := "fnUncrossed", inPlace := ["slices.overlaps[*loop.example/g00609/impl.Order]"], unfollowed := true, recurses := true, apart := false }
def FnUncrossedSaid : Prop := fnUncrossedRow.holds Try.pinned (OpenSpec.ofChange fnUncrossedSpec)

/-- ITS FALSE NEIGHBOUR: 'it returns false'. Refute it at one input. -/
def fnUncrossedWrong : ChangeSpec := { name := "fnUncrossed", fn := fun _ => fun
  | [d] => { results := [.lit (.bool false)], args := [d] }
  | _ => none }
def FnUncrossedWrongFalsely : Prop := fnUncrossedRow.holds Try.pinned (OpenSpec.ofChange fnUncrossedWrong)

/-- 'laws.FnNoWorse': WHATEVER THE INPUT: true; the input reads as it did. -/
def fnNoWorseSpec : ChangeSpec := { name := "fnNoWorse", fn := fun _ => fun
  | [d] => { results := [.lit (.bool true)], args := [d] }
  | _ => none }
def fnNoWorseRow : OpenClaim := { program := "ytempggikcpminaa", sum := "f79691954927a90229b2c446626905af8325b4e759e641c8c0b2e4ca39ef2114", func := "loop.example/g00609/laws.FnNoWorse", spec := "fnNoWorse", inPlace := ["slices.overlaps[*loop.example/g00609/impl.Order]"], unfollowed := true, recurses := true, apart := false }
def FnNoWorseSaid : Prop := fnNoWorseRow.holds Try.pinned (OpenSpec.ofChange fnNoWorseSpec)

/-- ITS FALSE NEIGHBOUR: 'it returns false'. Refute it at one input. -/
def fnNoWorseWrong : ChangeSpec := { name := "fnNoWorse", fn := fun _ => fun
  | [d] => { results := [.lit (.bool false)], args := [d] }
  | _ => none }
def FnNoWorseWrongFalsely : Prop := fnNoWorseRow.holds Try.pinned (OpenSpec.ofChange fnNoWorseWrong)

/- THE SECOND FORM. 'bulk': how many values and letters a reading holds, each counted each time it is reached (what is shared counts as often as it is met; a slice's spare places count too). A statement '..UptoSaid' is the law's where the arguments, and the package variables that the reading takes, are together of bulk at most 1048576: NARROWER than '..Said'. Prove '..Said' where nothing that the law and all that it calls make is longer than what came in: it says more and counts as full. Else prove '..UptoSaid'. A law counts once. -/
mutual
def uptoBulk {H : Type} : DataW H → Nat
  | .lit (.string bytes) => bytes.length + 1
  | .lit _ => 1
  | .nil => 1
  | .ptr d => uptoBulk d + 1
  | .slice elems spare => uptoBulkAll elems + uptoBulkAll spare + 1
  | .agg parts => uptoBulkAll parts + 1
  | .iface _ d => uptoBulk d + 1
  | .map entries => uptoBulkEntries entries + 1
  | .held _ => 1
def uptoBulkAll {H : Type} : List (DataW H) → Nat
  | [] => 0
  | d :: r => uptoBulk d + uptoBulkAll r
def uptoBulkEntries {H : Type} : List (Lit × DataW H) → Nat
  | [] => 0
  | x :: r => uptoBulkEntry x + uptoBulkEntries r
def uptoBulkEntry {H : Type} : Lit × DataW H → Nat
  | (.string bytes, d) => bytes.length + uptoBulk d + 1
  | (_, d) => uptoBulk d + 1
 end
def uptoSmall : (H : Type) → List (DataW H) → Bool := fun _ ds => decide (uptoBulkAll ds ≤ 1048576)
def OpenSpec.upto (s : _root_.Go.ChangeSpec) : _root_.Go.OpenSpec := { _root_.Go.OpenSpec.ofChange s with cond := some uptoSmall }

/-- 'laws.FnMirror', WHERE WHAT IT READS IS OF BULK AT MOST 1048576: true; the input reads as it did. -/
def fnMirrorUptoRow : OpenClaim := { program := "ytempggikcpminaa", sum := "f79691954927a90229b2c446626905af8325b4e759e641c8c0b2e4ca39ef2114", func := "loop.example/g00609/laws.FnMirror", spec := "fnMirror", unfollowed := true, recurses := true, apart := false, narrowed := true }
def FnMirrorUptoSaid : Prop := fnMirrorUptoRow.holds Try.pinned (OpenSpec.upto fnMirrorSpec)

/-- 'laws.FnExactUncrossed', WHERE WHAT IT READS IS OF BULK AT MOST 1048576: true; the input reads as it did. -/
def fnExactUncrossedUptoRow : OpenClaim := { program := "ytempggikcpminaa", sum := "f79691954927a90229b2c446626905af8325b4e759e641c8c0b2e4ca39ef2114", func := "loop.example/g00609/laws.FnExactUncrossed", spec := "fnExactUncrossed", inPlace := ["slices.overlaps[*loop.example/g00609/impl.Order]"], unfollowed := true, recurses := true, apart := false, narrowed := true }
def FnExactUncrossedUptoSaid : Prop := fnExactUncrossedUptoRow.holds Try.pinned (OpenSpec.upto fnExactUncrossedSpec)

/-- 'laws.FnUncrossed', WHERE WHAT IT READS IS OF BULK AT MOST 1048576: true; the input reads as it did. -/
def fnUncrossedUptoRow : OpenClaim := { program := "ytempggikcpminaa", sum := "f79691954927a90229b2c446626905af8325b4e759e641c8c0b2e4ca39ef2114", func := "loop.example/g00609/laws.FnUncrossed", spec := "fnUncrossed", inPlace := ["slices.overlaps[*loop.example/g00609/impl.Order]"], unfollowed := true, recurses := true, apart := false, narrowed := true }
def FnUncrossedUptoSaid : Prop := fnUncrossedUptoRow.holds Try.pinned (OpenSpec.upto fnUncrossedSpec)

/-- 'laws.FnNoWorse', WHERE WHAT IT READS IS OF BULK AT MOST 1048576: true; the input reads as it did. -/
def fnNoWorseUptoRow : OpenClaim := { program := "ytempggikcpminaa", sum := "f79691954927a90229b2c446626905af8325b4e759e641c8c0b2e4ca39ef2114", func := "loop.example/g00609/laws.FnNoWorse", spec := "fnNoWorse", inPlace := ["slices.overlaps[*loop.example/g00609/impl.Order]"], unfollowed := true, recurses := true, apart := false, narrowed := true }
def FnNoWorseUptoSaid : Prop := fnNoWorseUptoRow.holds Try.pinned (OpenSpec.upto fnNoWorseSpec)

end Rows
end Go.Proofs.Ytempggikcpminaa
