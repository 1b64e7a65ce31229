/-
  No cell of these rows narrows 'for every input' (looked for: loops, veiled, ifaces, maps, wideKeys, modest, calm, conditions, laid).
  DERIVED. THE GIVEN ROWS OF THIS SEAT. 6 by the template 'for every input the law returns true; each argument reads behind the call as it read before'; 0 by the template 'total and deterministic' (their statements: YtfodkefaflpicaaTotals.lean).
  GIVEN WITH THE SEED: the statements are not yours to turn. If you find one false, say at which input.
  Laid BY PROGRAM, IN A SANDBOX (cutbox-rows.mjs): the forced cells as the released guide's own fill.sh prints them over the translation ec0820808817d68f… (all of the seat's roots in one cut). By AI agents, Wed Nov 11 2026. No macro, syntax, notation, axiom, sorry.
-/
import Derived.Test.YtfodkefaflpicaaChecked
import GoSem.Claim
import GoSem.ClaimJoined
import GoSem.ClaimMapViews
import Derived.JoinedTies
import Derived.KernelRfl
namespace Go.Proofs.Ytfodkefaflpicaa
/- THE CELL 'sum', in the pinned program and in every row, IS THE sha256 OF THE DUMP (.gsa) THAT YtfodkefaflpicaaProg.lean LOADS. Nothing in Lean hashes anything: it is a label: what it is worth is what the hold of that sum in a sandbox is worth. -/
noncomputable def Try.pinned : Pinned := { name := "ytfodkefaflpicaa", sum := "ec0820808817d68f4b2c1264d85900cf491416f8d9a6f9b4c4e2eeed6a4e8809", checked := Try.checked }
namespace Rows
def none {H : Type} : Left H := { results := [], args := [] }

/-- 'laws.FnMirror': WHATEVER THE INPUT: true; the input reads as it did. -/
def fnMirrorSpec : ChangeSpec := { name := "fnMirror", fn := fun _ => fun
  | [d] => { results := [.lit (.bool true)], args := [d] }
  | _ => none }
def fnMirrorRow : OpenClaim := { program := "ytfodkefaflpicaa", sum := "ec0820808817d68f4b2c1264d85900cf491416f8d9a6f9b4c4e2eeed6a4e8809", func := "loop.example/g00609/laws.FnMirror", spec := "fnMirror", unfollowed := true, recurses := true, apart := false }
def FnMirrorSaid : Prop := fnMirrorRow.holds Try.pinned (OpenSpec.ofChange fnMirrorSpec)

/-- ITS FALSE NEIGHBOUR: 'it returns false'. Refute it at one input. -/
def fnMirrorWrong : ChangeSpec := { name := "fnMirror", fn := fun _ => fun
  | [d] => { results := [.lit (.bool false)], args := [d] }
  | _ => none }
def FnMirrorWrongFalsely : Prop := fnMirrorRow.holds Try.pinned (OpenSpec.ofChange fnMirrorWrong)

/-- 'laws.FnDelta': WHATEVER THE INPUT: true; the input reads as it did. -/
def fnDeltaSpec : ChangeSpec := { name := "fnDelta", fn := fun _ => fun
  | [d] => { results := [.lit (.bool true)], args := [d] }
  | _ => none }
def fnDeltaRow : OpenClaim := { program := "ytfodkefaflpicaa", sum := "ec0820808817d68f4b2c1264d85900cf491416f8d9a6f9b4c4e2eeed6a4e8809", func := "loop.example/g00609/laws.FnDelta", spec := "fnDelta", inPlace := ["slices.overlaps[loop.example/g00609/impl.Level]"], unfollowed := true, recurses := true, apart := false }
def FnDeltaSaid : Prop := fnDeltaRow.holds Try.pinned (OpenSpec.ofChange fnDeltaSpec)

/-- ITS FALSE NEIGHBOUR: 'it returns false'. Refute it at one input. -/
def fnDeltaWrong : ChangeSpec := { name := "fnDelta", fn := fun _ => fun
  | [d] => { results := [.lit (.bool false)], args := [d] }
  | _ => none }
def FnDeltaWrongFalsely : Prop := fnDeltaRow.holds Try.pinned (OpenSpec.ofChange fnDeltaWrong)

/-- 'laws.FnApplied': WHATEVER THE INPUT: true; the input reads as it did. -/
def fnAppliedSpec : ChangeSpec := { name := "fnApplied", fn := fun _ => fun
  | [d] => { results := [.lit (.bool true)], args := [d] }
  | _ => none }
def fnAppliedRow : OpenClaim := { program := "ytfodkefaflpicaa", sum := "ec0820808817d68f4b2c1264d85900cf491416f8d9a6f9b4c4e2eeed6a4e8809", func := "loop.example/g00609/laws.FnApplied", spec := "fnApplied", inPlace := ["slices.overlaps[loop.example/g00609/impl.Level]"], unfollowed := true, recurses := true, apart := false }
def FnAppliedSaid : Prop := fnAppliedRow.holds Try.pinned (OpenSpec.ofChange fnAppliedSpec)

/-- ITS FALSE NEIGHBOUR: 'it returns false'. Refute it at one input. -/
def fnAppliedWrong : ChangeSpec := { name := "fnApplied", fn := fun _ => fun
  | [d] => { results := [.lit (.bool false)], args := [d] }
  | _ => none }
def FnAppliedWrongFalsely : Prop := fnAppliedRow.holds Try.pinned (OpenSpec.ofChange fnAppliedWrong)

/-- 'laws.FnExactDepthApplied': WHATEVER THE INPUT: true; the input reads as it did. -/
def fnExactDepthAppliedSpec : ChangeSpec := { name := "fnExactDepthApplied", fn := fun _ => fun
  | [d1, d2, d3] => { results := [.lit (.bool true)], args := [d1, d2, d3] }
  | _ => none }
def fnExactDepthAppliedRow : OpenClaim := { program := "ytfodkefaflpicaa", sum := "ec0820808817d68f4b2c1264d85900cf491416f8d9a6f9b4c4e2eeed6a4e8809", func := "loop.example/g00609/laws.FnExactDepthApplied", spec := "fnExactDepthApplied", inPlace := ["slices.overlaps[loop.example/g00609/impl.Level]"], unfollowed := true, recurses := true, apart := false }
def FnExactDepthAppliedSaid : Prop := fnExactDepthAppliedRow.holds Try.pinned (OpenSpec.ofChange fnExactDepthAppliedSpec)

/-- ITS FALSE NEIGHBOUR: 'it returns false'. Refute it at one input. -/
def fnExactDepthAppliedWrong : ChangeSpec := { name := "fnExactDepthApplied", fn := fun _ => fun
  | [d1, d2, d3] => { results := [.lit (.bool false)], args := [d1, d2, d3] }
  | _ => none }
def FnExactDepthAppliedWrongFalsely : Prop := fnExactDepthAppliedRow.holds Try.pinned (OpenSpec.ofChange fnExactDepthAppliedWrong)

/-- 'laws.FnExactAuctionPrice': WHATEVER THE INPUT: true; the input reads as it did. -/
def fnExactAuctionPriceSpec : ChangeSpec := { name := "fnExactAuctionPrice", fn := fun _ => fun
  | [d1, d2] => { results := [.lit (.bool true)], args := [d1, d2] }
  | _ => none }
def fnExactAuctionPriceRow : OpenClaim := { program := "ytfodkefaflpicaa", sum := "ec0820808817d68f4b2c1264d85900cf491416f8d9a6f9b4c4e2eeed6a4e8809", func := "loop.example/g00609/laws.FnExactAuctionPrice", spec := "fnExactAuctionPrice", unfollowed := true, recurses := true, apart := false }
def FnExactAuctionPriceSaid : Prop := fnExactAuctionPriceRow.holds Try.pinned (OpenSpec.ofChange fnExactAuctionPriceSpec)

/-- ITS FALSE NEIGHBOUR: 'it returns false'. Refute it at one input. -/
def fnExactAuctionPriceWrong : ChangeSpec := { name := "fnExactAuctionPrice", fn := fun _ => fun
  | [d1, d2] => { results := [.lit (.bool false)], args := [d1, d2] }
  | _ => none }
def FnExactAuctionPriceWrongFalsely : Prop := fnExactAuctionPriceRow.holds Try.pinned (OpenSpec.ofChange fnExactAuctionPriceWrong)

/-- 'laws.FnExactUncrossed': WHATEVER THE INPUT: true; the input reads as it did. -/
def fnExactUncrossedSpec : ChangeSpec := { name := "fnExactUncrossed", fn := fun _ => fun
  | [d1, d2] => { results := [.lit (.bool true)], args := [d1, d2] }
  | _ => none }
def fnExactUncrossedRow : OpenClaim := { program := "ytfodkefaflpicaa", sum := "ec0820808817d68f4b2c1264d85900cf491416f8d9a6f9b4c4e2eeed6a4e8809", func := "loop.example/g00609/laws.FnExactUncrossed", spec := "fnExactUncrossed", inPlace := ["slices.overlaps[*loop.example/g00609/impl.Order]"], unfollowed := true, recurses := true, apart := false }
def FnExactUncrossedSaid : Prop := fnExactUncrossedRow.holds Try.pinned (OpenSpec.ofChange fnExactUncrossedSpec)

/-- ITS FALSE NEIGHBOUR: 'it returns false'. Refute it at one input. -/
def fnExactUncrossedWrong : ChangeSpec := { name := "fnExactUncrossed", fn := fun _ => fun
  | [d1, d2] => { results := [.lit (.bool false)], args := [d1, d2] }
  | _ => none }
def FnExactUncrossedWrongFalsely : Prop := fnExactUncrossedRow.holds Try.pinned (OpenSpec.ofChange fnExactUncrossedWrong)

/- THE SECOND FORM. 'bulk': how many values and letters a reading holds, each counted each time it is reached (what is shared counts as often as it is met; a slice's spare places count too). A statement '..UptoSaid' is the law's where the arguments, and the package variables that the reading takes, are together of bulk at most 1048576: NARROWER than '..Said'. Prove '..Said' where nothing that the law and all that it calls make is longer than what came in: it says more and counts as full. Else prove '..UptoSaid'. A law counts once. -/
mutual
def uptoBulk {H : Type} : DataW H → Nat
  | .lit (.string bytes) => bytes.length + 1
  | .lit _ => 1
  | .nil => 1
  | .ptr d => uptoBulk d + 1
  | .slice elems spare => uptoBulkAll elems + uptoBulkAll spare + 1
  | .agg parts => uptoBulkAll parts + 1
  | .iface _ d => uptoBulk d + 1
  | .map entries => uptoBulkEntries entries + 1
  | .held _ => 1
def uptoBulkAll {H : Type} : List (DataW H) → Nat
  | [] => 0
  | d :: r => uptoBulk d + uptoBulkAll r
def uptoBulkEntries {H : Type} : List (Lit × DataW H) → Nat
  | [] => 0
  | x :: r => uptoBulkEntry x + uptoBulkEntries r
def uptoBulkEntry {H : Type} : Lit × DataW H → Nat
  | (.string bytes, d) => bytes.length + uptoBulk d + 1
  | (_, d) => uptoBulk d + 1
 end
def uptoSmall : (H : Type) → List (DataW H) → Bool := fun _ ds => decide (uptoBulkAll ds ≤ 1048576)
def OpenSpec.upto (s : _root_.Go.ChangeSpec) : _root_.Go.OpenSpec := { _root_.Go.OpenSpec.ofChange s with cond := some uptoSmall }

/-- 'laws.FnMirror', WHERE WHAT IT READS IS OF BULK AT MOST 1048576: true; the input reads as it did. -/
def fnMirrorUptoRow : OpenClaim := { program := "ytfodkefaflpicaa", sum := "ec0820808817d68f4b2c1264d85900cf491416f8d9a6f9b4c4e2eeed6a4e8809", func := "loop.example/g00609/laws.FnMirror", spec := "fnMirror", unfollowed := true, recurses := true, apart := false, narrowed := true }
def FnMirrorUptoSaid : Prop := fnMirrorUptoRow.holds Try.pinned (OpenSpec.upto fnMirrorSpec)

/-- 'laws.FnDelta', WHERE WHAT IT READS IS OF BULK AT MOST 1048576: true; the input reads as it did. -/
def fnDeltaUptoRow : OpenClaim := { program := "ytfodkefaflpicaa", sum := "ec0820808817d68f4b2c1264d85900cf491416f8d9a6f9b4c4e2eeed6a4e8809", func := "loop.example/g00609/laws.FnDelta", spec := "fnDelta", inPlace := ["slices.overlaps[loop.example/g00609/impl.Level]"], unfollowed := true, recurses := true, apart := false, narrowed := true }
def FnDeltaUptoSaid : Prop := fnDeltaUptoRow.holds Try.pinned (OpenSpec.upto fnDeltaSpec)

/-- 'laws.FnApplied', WHERE WHAT IT READS IS OF BULK AT MOST 1048576: true; the input reads as it did. -/
def fnAppliedUptoRow : OpenClaim := { program := "ytfodkefaflpicaa", sum := "ec0820808817d68f4b2c1264d85900cf491416f8d9a6f9b4c4e2eeed6a4e8809", func := "loop.example/g00609/laws.FnApplied", spec := "fnApplied", inPlace := ["slices.overlaps[loop.example/g00609/impl.Level]"], unfollowed := true, recurses := true, apart := false, narrowed := true }
def FnAppliedUptoSaid : Prop := fnAppliedUptoRow.holds Try.pinned (OpenSpec.upto fnAppliedSpec)

/-- 'laws.FnExactDepthApplied', WHERE WHAT IT READS IS OF BULK AT MOST 1048576: true; the input reads as it did. -/
def fnExactDepthAppliedUptoRow : OpenClaim := { program := "ytfodkefaflpicaa", sum := "ec0820808817d68f4b2c1264d85900cf491416f8d9a6f9b4c4e2eeed6a4e8809", func := "loop.example/g00609/laws.FnExactDepthApplied", spec := "fnExactDepthApplied", inPlace := ["slices.overlaps[loop.example/g00609/impl.Level]"], unfollowed := true, recurses := true, apart := false, narrowed := true }
def FnExactDepthAppliedUptoSaid : Prop := fnExactDepthAppliedUptoRow.holds Try.pinned (OpenSpec.upto fnExactDepthAppliedSpec)

/-- 'laws.FnExactAuctionPrice', WHERE WHAT IT READS IS OF BULK AT MOST 1048576: true; the input reads as it did. -/
def fnExactAuctionPriceUptoRow : OpenClaim := { program := "ytfodkefaflpicaa", sum := "ec0820808817d68f4b2c1264d85900cf491416f8d9a6f9b4c4e2eeed6a4e8809", func := "loop.example/g00609/laws.FnExactAuctionPrice", spec := "fnExactAuctionPrice", unfollowed := true, recurses := true, apart := false, narrowed := true }
def FnExactAuctionPriceUptoSaid : Prop := fnExactAuctionPriceUptoRow.holds Try.pinned (OpenSpec.upto fnExactAuctionPriceSpec)

/-- 'laws.FnExactUncrossed', WHERE WHAT IT READS IS OF BULK AT MOST 1048576: true; the input reads as it did. -/
def fnExactUncrossedUptoRow : OpenClaim := { program := "ytfodkefaflpicaa", sum := "ec0820808817d68f4b2c1264d85900cf491416f8d9a6f9b4c4e2eeed6a4e8809", func := "loop.example/g00609/laws.FnExactUncrossed", spec := "fnExactUncrossed", inPlace := ["slices.overlaps[*loop.example/g00609/impl.Order]"], unfollowed := true, recurses := true, apart := false, narrowed := true }
def FnExactUncrossedUptoSaid : Prop := fnExactUncrossedUptoRow.holds Try.pinned (OpenSpec.upto fnExactUncrossedSpec)

end Rows
end Go.Proofs.Ytfodkefaflpicaa
