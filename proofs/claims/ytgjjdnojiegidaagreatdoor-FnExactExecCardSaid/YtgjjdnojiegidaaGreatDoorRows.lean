/-
  NARROWER THAN 'FOR EVERY INPUT', by the rows' own cells (each row's printed sentence says how): FnExactExec: ifaces, laid.
  DERIVED. THE GIVEN ROWS OF THIS SEAT. 1 by the template 'for every input the law returns true; each argument reads behind the call as it read before'; 0 by the template 'total and deterministic' (their statements: YtgjjdnojiegidaaGreatDoorTotals.lean).
  GIVEN WITH THE SEED: the statements are not yours to turn. If you find one false, say at which input.
  Laid BY PROGRAM, IN A SANDBOX (cutbox-rows.mjs): the forced cells as the released guide's own fill.sh prints them over the translation 99692fc43b1a0b4e… (all of the seat's roots in one cut). By AI agents, Wed Nov 11 2026. No macro, syntax, notation, axiom, sorry.
-/
import Derived.Test.YtgjjdnojiegidaaGreatDoorChecked
import GoSem.Claim
import GoSem.ClaimJoined
import GoSem.ClaimMapViews
import Derived.JoinedTies
import Derived.KernelRfl
namespace Go.Proofs.YtgjjdnojiegidaaGreatDoor
/- THE CELL 'sum', in the pinned program and in every row, IS THE sha256 OF THE DUMP (.gsa) THAT YtgjjdnojiegidaaGreatDoorProg.lean LOADS. Nothing in Lean hashes anything: it is a label: what it is worth is what the hold of that sum in a sandbox is worth. -/
noncomputable def Tryz.pinned : Pinned := { name := "ytgjjdnojiegidaagreatdoor", sum := "99692fc43b1a0b4e3724c57015cdd73dd21152ac1a3d98e8ba7bf2e7c6438397", checked := Tryz.checked }
namespace Rows
def none {H : Type} : Left H := { results := [], args := [] }

/- WHAT THE LISTED PACKAGE-LEVEL VARIABLES READ AS WHEN THE CALL BEGINS. Each datum BY PROGRAM (the guide's laid-datum.mjs) off the statement by which the dump's own 'gosem.cut.vars' lays the variable. In a bare row this is a premise. The card (YtgjjdnojiegidaaGreatDoorCards.lean) ties it to the program's text. -/
def laid_errors_errorType {H : Type} : DataW H := .iface "internal/reflectlite.rtype" (.agg [.ptr (.lit (.string [101, 114, 114, 111, 114]))])
def laid_loop_example_g00609_impl_errForm {H : Type} : DataW H := .iface "*errors.errorString" (.ptr (.agg [.lit (.string [110, 111, 116, 32, 97, 32, 118, 97, 108, 105, 100, 32, 99, 111, 109, 109, 97, 110, 100, 32, 111, 110, 32, 97, 32, 98, 111, 111, 107])]))
def laid_loop_example_g00609_impl_errBlocked {H : Type} : DataW H := .iface "*errors.errorString" (.ptr (.agg [.lit (.string [116, 104, 101, 32, 97, 99, 99, 111, 117, 110, 116, 32, 105, 115, 32, 98, 108, 111, 99, 107, 101, 100])]))
def laid_loop_example_g00609_impl_errTwice {H : Type} : DataW H := .iface "*errors.errorString" (.ptr (.agg [.lit (.string [116, 104, 101, 32, 111, 114, 100, 101, 114, 32, 110, 117, 109, 98, 101, 114, 32, 105, 115, 32, 116, 97, 107, 101, 110])]))
def laid_loop_example_g00609_impl_errNone {H : Type} : DataW H := .iface "*errors.errorString" (.ptr (.agg [.lit (.string [116, 104, 101, 32, 97, 99, 99, 111, 117, 110, 116, 32, 104, 97, 115, 32, 110, 111, 32, 115, 117, 99, 104, 32, 111, 114, 100, 101, 114])]))
def laid_loop_example_g00609_impl_errCross {H : Type} : DataW H := .iface "*errors.errorString" (.ptr (.agg [.lit (.string [116, 104, 101, 32, 111, 114, 100, 101, 114, 32, 109, 101, 101, 116, 115, 32, 97, 110, 111, 116, 104, 101, 114, 32, 111, 110, 101])]))
def laid_loop_example_g00609_impl_errFill {H : Type} : DataW H := .iface "*errors.errorString" (.ptr (.agg [.lit (.string [116, 104, 101, 32, 111, 114, 100, 101, 114, 32, 99, 97, 110, 110, 111, 116, 32, 98, 101, 32, 102, 105, 108, 108, 101, 100])]))
def laid_loop_example_g00609_impl_errRoom {H : Type} : DataW H := .iface "*errors.errorString" (.ptr (.agg [.lit (.string [116, 104, 101, 32, 115, 105, 100, 101, 32, 105, 115, 32, 102, 117, 108, 108])]))

/-- 'laws.FnExactExec': WHATEVER THE INPUT: true; the input reads as it did. -/
def fnExactExecSpec : ChangeSpec := { name := "fnExactExec", vars := ["loop.example/g00609/impl.errForm", "loop.example/g00609/impl.errNone", "loop.example/g00609/impl.errTwice", "loop.example/g00609/impl.errFill", "loop.example/g00609/impl.errCross", "loop.example/g00609/impl.errRoom", "loop.example/g00609/impl.errBlocked"], fn := fun _ => fun
  | [d1, d2, g1, g2, g3, g4, g5, g6, g7] => { results := [.lit (.bool true)], args := [d1, d2], vars := [g1, g2, g3, g4, g5, g6, g7] }
  | _ => none }
def fnExactExecRow : OpenClaim := { program := "ytgjjdnojiegidaagreatdoor", sum := "99692fc43b1a0b4e3724c57015cdd73dd21152ac1a3d98e8ba7bf2e7c6438397", func := "loop.example/g00609/laws.FnExactExec", spec := "fnExactExec", inPlace := ["internal/reflectlite.ValueOf", "(internal/reflectlite.Value).Type", "(internal/reflectlite.Value).IsNil", "internal/reflectlite.TypeOf", "(internal/reflectlite.Value).Elem", "(internal/reflectlite.Value).Set", "slices.overlaps[loop.example/g00609/impl.Rec]", "slices.overlaps[*loop.example/g00609/impl.Order]"], unfollowed := true, recurses := true, named := ["loop.example/g00609/impl.errForm", "loop.example/g00609/impl.errNone", "loop.example/g00609/impl.errTwice", "loop.example/g00609/impl.errFill", "loop.example/g00609/impl.errCross", "loop.example/g00609/impl.errRoom", "errors.errorType", "loop.example/g00609/impl.errBlocked"], ifaces := true, apart := false, laid := [("errors.errorType", laid_errors_errorType), ("loop.example/g00609/impl.errForm", laid_loop_example_g00609_impl_errForm), ("loop.example/g00609/impl.errBlocked", laid_loop_example_g00609_impl_errBlocked), ("loop.example/g00609/impl.errTwice", laid_loop_example_g00609_impl_errTwice), ("loop.example/g00609/impl.errNone", laid_loop_example_g00609_impl_errNone), ("loop.example/g00609/impl.errCross", laid_loop_example_g00609_impl_errCross), ("loop.example/g00609/impl.errFill", laid_loop_example_g00609_impl_errFill), ("loop.example/g00609/impl.errRoom", laid_loop_example_g00609_impl_errRoom)] }
def FnExactExecSaid : Prop := fnExactExecRow.holds Tryz.pinned (OpenSpec.ofChange fnExactExecSpec)

/-- ITS FALSE NEIGHBOUR: 'it returns false'. Refute it at one input. -/
def fnExactExecWrong : ChangeSpec := { name := "fnExactExec", vars := ["loop.example/g00609/impl.errForm", "loop.example/g00609/impl.errNone", "loop.example/g00609/impl.errTwice", "loop.example/g00609/impl.errFill", "loop.example/g00609/impl.errCross", "loop.example/g00609/impl.errRoom", "loop.example/g00609/impl.errBlocked"], fn := fun _ => fun
  | [d1, d2, g1, g2, g3, g4, g5, g6, g7] => { results := [.lit (.bool false)], args := [d1, d2], vars := [g1, g2, g3, g4, g5, g6, g7] }
  | _ => none }
def FnExactExecWrongFalsely : Prop := fnExactExecRow.holds Tryz.pinned (OpenSpec.ofChange fnExactExecWrong)

/- THE SECOND FORM. 'bulk': how many values and letters a reading holds, each counted each time it is reached (what is shared counts as often as it is met; a slice's spare places count too). A statement '..UptoSaid' is the law's where the arguments, and the package variables that the reading takes, are together of bulk at most 1048576: NARROWER than '..Said'. Prove '..Said' where nothing that the law and all that it calls make is longer than what came in: it says more and counts as full. Else prove '..UptoSaid'. A law counts once. -/
mutual
def uptoBulk {H : Type} : DataW H → Nat
  | .lit (.string bytes) => bytes.length + 1
  | .lit _ => 1
  | .nil => 1
  | .ptr d => uptoBulk d + 1
  | .slice elems spare => uptoBulkAll elems + uptoBulkAll spare + 1
  | .agg parts => uptoBulkAll parts + 1
  | .iface _ d => uptoBulk d + 1
  | .map entries => uptoBulkEntries entries + 1
  | .held _ => 1
def uptoBulkAll {H : Type} : List (DataW H) → Nat
  | [] => 0
  | d :: r => uptoBulk d + uptoBulkAll r
def uptoBulkEntries {H : Type} : List (Lit × DataW H) → Nat
  | [] => 0
  | x :: r => uptoBulkEntry x + uptoBulkEntries r
def uptoBulkEntry {H : Type} : Lit × DataW H → Nat
  | (.string bytes, d) => bytes.length + uptoBulk d + 1
  | (_, d) => uptoBulk d + 1
 end
def uptoSmall : (H : Type) → List (DataW H) → Bool := fun _ ds => decide (uptoBulkAll ds ≤ 1048576)
def OpenSpec.upto (s : _root_.Go.ChangeSpec) : _root_.Go.OpenSpec := { _root_.Go.OpenSpec.ofChange s with cond := some uptoSmall }

/-- 'laws.FnExactExec', WHERE WHAT IT READS IS OF BULK AT MOST 1048576: true; the input reads as it did. -/
def fnExactExecUptoRow : OpenClaim := { program := "ytgjjdnojiegidaagreatdoor", sum := "99692fc43b1a0b4e3724c57015cdd73dd21152ac1a3d98e8ba7bf2e7c6438397", func := "loop.example/g00609/laws.FnExactExec", spec := "fnExactExec", inPlace := ["internal/reflectlite.ValueOf", "(internal/reflectlite.Value).Type", "(internal/reflectlite.Value).IsNil", "internal/reflectlite.TypeOf", "(internal/reflectlite.Value).Elem", "(internal/reflectlite.Value).Set", "slices.overlaps[loop.example/g00609/impl.Rec]", "slices.overlaps[*loop.example/g00609/impl.Order]"], unfollowed := true, recurses := true, named := ["loop.example/g00609/impl.errForm", "loop.example/g00609/impl.errNone", "loop.example/g00609/impl.errTwice", "loop.example/g00609/impl.errFill", "loop.example/g00609/impl.errCross", "loop.example/g00609/impl.errRoom", "errors.errorType", "loop.example/g00609/impl.errBlocked"], ifaces := true, apart := false, laid := [("errors.errorType", laid_errors_errorType), ("loop.example/g00609/impl.errForm", laid_loop_example_g00609_impl_errForm), ("loop.example/g00609/impl.errBlocked", laid_loop_example_g00609_impl_errBlocked), ("loop.example/g00609/impl.errTwice", laid_loop_example_g00609_impl_errTwice), ("loop.example/g00609/impl.errNone", laid_loop_example_g00609_impl_errNone), ("loop.example/g00609/impl.errCross", laid_loop_example_g00609_impl_errCross), ("loop.example/g00609/impl.errFill", laid_loop_example_g00609_impl_errFill), ("loop.example/g00609/impl.errRoom", laid_loop_example_g00609_impl_errRoom)], narrowed := true }
def FnExactExecUptoSaid : Prop := fnExactExecUptoRow.holds Tryz.pinned (OpenSpec.upto fnExactExecSpec)

end Rows
end Go.Proofs.YtgjjdnojiegidaaGreatDoor
