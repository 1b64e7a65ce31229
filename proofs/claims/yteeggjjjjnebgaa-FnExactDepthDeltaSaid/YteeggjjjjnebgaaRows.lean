/-
  No cell of these rows narrows 'for every input' (looked for: loops, veiled, ifaces, maps, wideKeys, modest, calm, conditions, laid).
  DERIVED. THE GIVEN ROWS OF THIS SEAT. 11 by the template 'for every input the law returns true; each argument reads behind the call as it read before'; 0 by the template 'total and deterministic' (their statements: YteeggjjjjnebgaaTotals.lean).
  GIVEN WITH THE SEED: the statements are not yours to turn. If you find one false, say at which input.
  Laid BY PROGRAM, IN A SANDBOX (cutbox-rows.mjs): the forced cells as the released guide's own fill.sh prints them over the translation 9bfaa0a581455cab… (all of the seat's roots in one cut). By AI agents, Wed Nov 11 2026. No macro, syntax, notation, axiom, sorry.
-/
import Derived.Test.YteeggjjjjnebgaaChecked
import GoSem.Claim
import GoSem.ClaimJoined
import GoSem.ClaimMapViews
import Derived.JoinedTies
import Derived.KernelRfl
namespace Go.Proofs.Yteeggjjjjnebgaa
/- THE CELL 'sum', in the pinned program and in every row, IS THE sha256 OF THE DUMP (.gsa) THAT YteeggjjjjnebgaaProg.lean LOADS. Nothing in Lean hashes anything: it is a label: what it is worth is what the hold of that sum in a sandbox is worth. -/
noncomputable def Try.pinned : Pinned := { name := "yteeggjjjjnebgaa", sum := "9bfaa0a581455caba0cc25e285de4f398b3c4b786e3bb9dbb5fbd871af2922eb", checked := Try.checked }
namespace Rows
def none {H : Type} : Left H := { results := [], args := [] }

/-- 'laws.FnExactAuctionPrice': WHATEVER THE INPUT: true; the input reads as it did. -/
def fnExactAuctionPriceSpec : ChangeSpec := { name := "fnExactAuctionPrice", fn := fun _ => fun
  | [d1, d2] => { results := [.lit (.bool true)], args := [d1, d2] }
  | _ => none }
def fnExactAuctionPriceRow : OpenClaim := { program := "yteeggjjjjnebgaa", sum := "9bfaa0a581455caba0cc25e285de4f398b3c4b786e3bb9dbb5fbd871af2922eb", func := "loop.example/g00609/laws.FnExactAuctionPrice", spec := "fnExactAuctionPrice", unfollowed := true, recurses := true, apart := false }
def FnExactAuctionPriceSaid : Prop := fnExactAuctionPriceRow.holds Try.pinned (OpenSpec.ofChange fnExactAuctionPriceSpec)

/-- ITS FALSE NEIGHBOUR: 'it returns false'. Refute it at one input. -/
def fnExactAuctionPriceWrong : ChangeSpec := { name := "fnExactAuctionPrice", fn := fun _ => fun
  | [d1, d2] => { results := [.lit (.bool false)], args := [d1, d2] }
  | _ => none }
def FnExactAuctionPriceWrongFalsely : Prop := fnExactAuctionPriceRow.holds Try.pinned (OpenSpec.ofChange fnExactAuctionPriceWrong)

/-- 'laws.FnExactVolumeAt': WHATEVER THE INPUT: true; the input reads as it did. -/
def fnExactVolumeAtSpec : ChangeSpec := { name := "fnExactVolumeAt", fn := fun _ => fun
  | [d1, d2, d3] => { results := [.lit (.bool true)], args := [d1, d2, d3] }
  | _ => none }
def fnExactVolumeAtRow : OpenClaim := { program := "yteeggjjjjnebgaa", sum := "9bfaa0a581455caba0cc25e285de4f398b3c4b786e3bb9dbb5fbd871af2922eb", func := "loop.example/g00609/laws.FnExactVolumeAt", spec := "fnExactVolumeAt", unfollowed := true, recurses := true, apart := false }
def FnExactVolumeAtSaid : Prop := fnExactVolumeAtRow.holds Try.pinned (OpenSpec.ofChange fnExactVolumeAtSpec)

/-- ITS FALSE NEIGHBOUR: 'it returns false'. Refute it at one input. -/
def fnExactVolumeAtWrong : ChangeSpec := { name := "fnExactVolumeAt", fn := fun _ => fun
  | [d1, d2, d3] => { results := [.lit (.bool false)], args := [d1, d2, d3] }
  | _ => none }
def FnExactVolumeAtWrongFalsely : Prop := fnExactVolumeAtRow.holds Try.pinned (OpenSpec.ofChange fnExactVolumeAtWrong)

/-- 'laws.FnExactTradesOf': WHATEVER THE INPUT: true; the input reads as it did. -/
def fnExactTradesOfSpec : ChangeSpec := { name := "fnExactTradesOf", fn := fun _ => fun
  | [d1, d2] => { results := [.lit (.bool true)], args := [d1, d2] }
  | _ => none }
def fnExactTradesOfRow : OpenClaim := { program := "yteeggjjjjnebgaa", sum := "9bfaa0a581455caba0cc25e285de4f398b3c4b786e3bb9dbb5fbd871af2922eb", func := "loop.example/g00609/laws.FnExactTradesOf", spec := "fnExactTradesOf", unfollowed := true, recurses := true, apart := false }
def FnExactTradesOfSaid : Prop := fnExactTradesOfRow.holds Try.pinned (OpenSpec.ofChange fnExactTradesOfSpec)

/-- ITS FALSE NEIGHBOUR: 'it returns false'. Refute it at one input. -/
def fnExactTradesOfWrong : ChangeSpec := { name := "fnExactTradesOf", fn := fun _ => fun
  | [d1, d2] => { results := [.lit (.bool false)], args := [d1, d2] }
  | _ => none }
def FnExactTradesOfWrongFalsely : Prop := fnExactTradesOfRow.holds Try.pinned (OpenSpec.ofChange fnExactTradesOfWrong)

/-- 'laws.FnExactCandleOf': WHATEVER THE INPUT: true; the input reads as it did. -/
def fnExactCandleOfSpec : ChangeSpec := { name := "fnExactCandleOf", fn := fun _ => fun
  | [d] => { results := [.lit (.bool true)], args := [d] }
  | _ => none }
def fnExactCandleOfRow : OpenClaim := { program := "yteeggjjjjnebgaa", sum := "9bfaa0a581455caba0cc25e285de4f398b3c4b786e3bb9dbb5fbd871af2922eb", func := "loop.example/g00609/laws.FnExactCandleOf", spec := "fnExactCandleOf", unfollowed := true, recurses := true, apart := false }
def FnExactCandleOfSaid : Prop := fnExactCandleOfRow.holds Try.pinned (OpenSpec.ofChange fnExactCandleOfSpec)

/-- ITS FALSE NEIGHBOUR: 'it returns false'. Refute it at one input. -/
def fnExactCandleOfWrong : ChangeSpec := { name := "fnExactCandleOf", fn := fun _ => fun
  | [d] => { results := [.lit (.bool false)], args := [d] }
  | _ => none }
def FnExactCandleOfWrongFalsely : Prop := fnExactCandleOfRow.holds Try.pinned (OpenSpec.ofChange fnExactCandleOfWrong)

/-- 'laws.FnExactCandleOk': WHATEVER THE INPUT: true; the input reads as it did. -/
def fnExactCandleOkSpec : ChangeSpec := { name := "fnExactCandleOk", fn := fun _ => fun
  | [d] => { results := [.lit (.bool true)], args := [d] }
  | _ => none }
def fnExactCandleOkRow : OpenClaim := { program := "yteeggjjjjnebgaa", sum := "9bfaa0a581455caba0cc25e285de4f398b3c4b786e3bb9dbb5fbd871af2922eb", func := "loop.example/g00609/laws.FnExactCandleOk", spec := "fnExactCandleOk", apart := false }
def FnExactCandleOkSaid : Prop := fnExactCandleOkRow.holds Try.pinned (OpenSpec.ofChange fnExactCandleOkSpec)

/-- ITS FALSE NEIGHBOUR: 'it returns false'. Refute it at one input. -/
def fnExactCandleOkWrong : ChangeSpec := { name := "fnExactCandleOk", fn := fun _ => fun
  | [d] => { results := [.lit (.bool false)], args := [d] }
  | _ => none }
def FnExactCandleOkWrongFalsely : Prop := fnExactCandleOkRow.holds Try.pinned (OpenSpec.ofChange fnExactCandleOkWrong)

/-- 'laws.FnExactBehind': WHATEVER THE INPUT: true; the input reads as it did. -/
def fnExactBehindSpec : ChangeSpec := { name := "fnExactBehind", fn := fun _ => fun
  | [d1, d2] => { results := [.lit (.bool true)], args := [d1, d2] }
  | _ => none }
def fnExactBehindRow : OpenClaim := { program := "yteeggjjjjnebgaa", sum := "9bfaa0a581455caba0cc25e285de4f398b3c4b786e3bb9dbb5fbd871af2922eb", func := "loop.example/g00609/laws.FnExactBehind", spec := "fnExactBehind", apart := false }
def FnExactBehindSaid : Prop := fnExactBehindRow.holds Try.pinned (OpenSpec.ofChange fnExactBehindSpec)

/-- ITS FALSE NEIGHBOUR: 'it returns false'. Refute it at one input. -/
def fnExactBehindWrong : ChangeSpec := { name := "fnExactBehind", fn := fun _ => fun
  | [d1, d2] => { results := [.lit (.bool false)], args := [d1, d2] }
  | _ => none }
def FnExactBehindWrongFalsely : Prop := fnExactBehindRow.holds Try.pinned (OpenSpec.ofChange fnExactBehindWrong)

/-- 'laws.FnExactVwap': WHATEVER THE INPUT: true; the input reads as it did. -/
def fnExactVwapSpec : ChangeSpec := { name := "fnExactVwap", fn := fun _ => fun
  | [d] => { results := [.lit (.bool true)], args := [d] }
  | _ => none }
def fnExactVwapRow : OpenClaim := { program := "yteeggjjjjnebgaa", sum := "9bfaa0a581455caba0cc25e285de4f398b3c4b786e3bb9dbb5fbd871af2922eb", func := "loop.example/g00609/laws.FnExactVwap", spec := "fnExactVwap", unfollowed := true, recurses := true, apart := false }
def FnExactVwapSaid : Prop := fnExactVwapRow.holds Try.pinned (OpenSpec.ofChange fnExactVwapSpec)

/-- ITS FALSE NEIGHBOUR: 'it returns false'. Refute it at one input. -/
def fnExactVwapWrong : ChangeSpec := { name := "fnExactVwap", fn := fun _ => fun
  | [d] => { results := [.lit (.bool false)], args := [d] }
  | _ => none }
def FnExactVwapWrongFalsely : Prop := fnExactVwapRow.holds Try.pinned (OpenSpec.ofChange fnExactVwapWrong)

/-- 'laws.FnExactLevelsOk': WHATEVER THE INPUT: true; the input reads as it did. -/
def fnExactLevelsOkSpec : ChangeSpec := { name := "fnExactLevelsOk", fn := fun _ => fun
  | [d1, d2] => { results := [.lit (.bool true)], args := [d1, d2] }
  | _ => none }
def fnExactLevelsOkRow : OpenClaim := { program := "yteeggjjjjnebgaa", sum := "9bfaa0a581455caba0cc25e285de4f398b3c4b786e3bb9dbb5fbd871af2922eb", func := "loop.example/g00609/laws.FnExactLevelsOk", spec := "fnExactLevelsOk", apart := false }
def FnExactLevelsOkSaid : Prop := fnExactLevelsOkRow.holds Try.pinned (OpenSpec.ofChange fnExactLevelsOkSpec)

/-- ITS FALSE NEIGHBOUR: 'it returns false'. Refute it at one input. -/
def fnExactLevelsOkWrong : ChangeSpec := { name := "fnExactLevelsOk", fn := fun _ => fun
  | [d1, d2] => { results := [.lit (.bool false)], args := [d1, d2] }
  | _ => none }
def FnExactLevelsOkWrongFalsely : Prop := fnExactLevelsOkRow.holds Try.pinned (OpenSpec.ofChange fnExactLevelsOkWrong)

/-- 'laws.FnExactDepthDelta': WHATEVER THE INPUT: true; the input reads as it did. -/
def fnExactDepthDeltaSpec : ChangeSpec := { name := "fnExactDepthDelta", fn := fun _ => fun
  | [d1, d2, d3] => { results := [.lit (.bool true)], args := [d1, d2, d3] }
  | _ => none }
def fnExactDepthDeltaRow : OpenClaim := { program := "yteeggjjjjnebgaa", sum := "9bfaa0a581455caba0cc25e285de4f398b3c4b786e3bb9dbb5fbd871af2922eb", func := "loop.example/g00609/laws.FnExactDepthDelta", spec := "fnExactDepthDelta", apart := false }
def FnExactDepthDeltaSaid : Prop := fnExactDepthDeltaRow.holds Try.pinned (OpenSpec.ofChange fnExactDepthDeltaSpec)

/-- ITS FALSE NEIGHBOUR: 'it returns false'. Refute it at one input. -/
def fnExactDepthDeltaWrong : ChangeSpec := { name := "fnExactDepthDelta", fn := fun _ => fun
  | [d1, d2, d3] => { results := [.lit (.bool false)], args := [d1, d2, d3] }
  | _ => none }
def FnExactDepthDeltaWrongFalsely : Prop := fnExactDepthDeltaRow.holds Try.pinned (OpenSpec.ofChange fnExactDepthDeltaWrong)

/-- 'laws.FnExactDepthApplied': WHATEVER THE INPUT: true; the input reads as it did. -/
def fnExactDepthAppliedSpec : ChangeSpec := { name := "fnExactDepthApplied", fn := fun _ => fun
  | [d1, d2, d3] => { results := [.lit (.bool true)], args := [d1, d2, d3] }
  | _ => none }
def fnExactDepthAppliedRow : OpenClaim := { program := "yteeggjjjjnebgaa", sum := "9bfaa0a581455caba0cc25e285de4f398b3c4b786e3bb9dbb5fbd871af2922eb", func := "loop.example/g00609/laws.FnExactDepthApplied", spec := "fnExactDepthApplied", inPlace := ["slices.overlaps[loop.example/g00609/impl.Level]"], unfollowed := true, recurses := true, apart := false }
def FnExactDepthAppliedSaid : Prop := fnExactDepthAppliedRow.holds Try.pinned (OpenSpec.ofChange fnExactDepthAppliedSpec)

/-- ITS FALSE NEIGHBOUR: 'it returns false'. Refute it at one input. -/
def fnExactDepthAppliedWrong : ChangeSpec := { name := "fnExactDepthApplied", fn := fun _ => fun
  | [d1, d2, d3] => { results := [.lit (.bool false)], args := [d1, d2, d3] }
  | _ => none }
def FnExactDepthAppliedWrongFalsely : Prop := fnExactDepthAppliedRow.holds Try.pinned (OpenSpec.ofChange fnExactDepthAppliedWrong)

/-- 'laws.FnExactCost': WHATEVER THE INPUT: true; the input reads as it did. -/
def fnExactCostSpec : ChangeSpec := { name := "fnExactCost", fn := fun _ => fun
  | [d1, d2] => { results := [.lit (.bool true)], args := [d1, d2] }
  | _ => none }
def fnExactCostRow : OpenClaim := { program := "yteeggjjjjnebgaa", sum := "9bfaa0a581455caba0cc25e285de4f398b3c4b786e3bb9dbb5fbd871af2922eb", func := "loop.example/g00609/laws.FnExactCost", spec := "fnExactCost", apart := false }
def FnExactCostSaid : Prop := fnExactCostRow.holds Try.pinned (OpenSpec.ofChange fnExactCostSpec)

/-- ITS FALSE NEIGHBOUR: 'it returns false'. Refute it at one input. -/
def fnExactCostWrong : ChangeSpec := { name := "fnExactCost", fn := fun _ => fun
  | [d1, d2] => { results := [.lit (.bool false)], args := [d1, d2] }
  | _ => none }
def FnExactCostWrongFalsely : Prop := fnExactCostRow.holds Try.pinned (OpenSpec.ofChange fnExactCostWrong)

/- THE SECOND FORM. 'bulk': how many values and letters a reading holds, each counted each time it is reached (what is shared counts as often as it is met; a slice's spare places count too). A statement '..UptoSaid' is the law's where the arguments, and the package variables that the reading takes, are together of bulk at most 1048576: NARROWER than '..Said'. Prove '..Said' where nothing that the law and all that it calls make is longer than what came in: it says more and counts as full. Else prove '..UptoSaid'. A law counts once. -/
mutual
def uptoBulk {H : Type} : DataW H → Nat
  | .lit (.string bytes) => bytes.length + 1
  | .lit _ => 1
  | .nil => 1
  | .ptr d => uptoBulk d + 1
  | .slice elems spare => uptoBulkAll elems + uptoBulkAll spare + 1
  | .agg parts => uptoBulkAll parts + 1
  | .iface _ d => uptoBulk d + 1
  | .map entries => uptoBulkEntries entries + 1
  | .held _ => 1
def uptoBulkAll {H : Type} : List (DataW H) → Nat
  | [] => 0
  | d :: r => uptoBulk d + uptoBulkAll r
def uptoBulkEntries {H : Type} : List (Lit × DataW H) → Nat
  | [] => 0
  | x :: r => uptoBulkEntry x + uptoBulkEntries r
def uptoBulkEntry {H : Type} : Lit × DataW H → Nat
  | (.string bytes, d) => bytes.length + uptoBulk d + 1
  | (_, d) => uptoBulk d + 1
 end
def uptoSmall : (H : Type) → List (DataW H) → Bool := fun _ ds => decide (uptoBulkAll ds ≤ 1048576)
def OpenSpec.upto (s : _root_.Go.ChangeSpec) : _root_.Go.OpenSpec := { _root_.Go.OpenSpec.ofChange s with cond := some uptoSmall }

/-- 'laws.FnExactAuctionPrice', WHERE WHAT IT READS IS OF BULK AT MOST 1048576: true; the input reads as it did. -/
def fnExactAuctionPriceUptoRow : OpenClaim := { program := "yteeggjjjjnebgaa", sum := "9bfaa0a581455caba0cc25e285de4f398b3c4b786e3bb9dbb5fbd871af2922eb", func := "loop.example/g00609/laws.FnExactAuctionPrice", spec := "fnExactAuctionPrice", unfollowed := true, recurses := true, apart := false, narrowed := true }
def FnExactAuctionPriceUptoSaid : Prop := fnExactAuctionPriceUptoRow.holds Try.pinned (OpenSpec.upto fnExactAuctionPriceSpec)

/-- 'laws.FnExactVolumeAt', WHERE WHAT IT READS IS OF BULK AT MOST 1048576: true; the input reads as it did. -/
def fnExactVolumeAtUptoRow : OpenClaim := { program := "yteeggjjjjnebgaa", sum := "9bfaa0a581455caba0cc25e285de4f398b3c4b786e3bb9dbb5fbd871af2922eb", func := "loop.example/g00609/laws.FnExactVolumeAt", spec := "fnExactVolumeAt", unfollowed := true, recurses := true, apart := false, narrowed := true }
def FnExactVolumeAtUptoSaid : Prop := fnExactVolumeAtUptoRow.holds Try.pinned (OpenSpec.upto fnExactVolumeAtSpec)

/-- 'laws.FnExactTradesOf', WHERE WHAT IT READS IS OF BULK AT MOST 1048576: true; the input reads as it did. -/
def fnExactTradesOfUptoRow : OpenClaim := { program := "yteeggjjjjnebgaa", sum := "9bfaa0a581455caba0cc25e285de4f398b3c4b786e3bb9dbb5fbd871af2922eb", func := "loop.example/g00609/laws.FnExactTradesOf", spec := "fnExactTradesOf", unfollowed := true, recurses := true, apart := false, narrowed := true }
def FnExactTradesOfUptoSaid : Prop := fnExactTradesOfUptoRow.holds Try.pinned (OpenSpec.upto fnExactTradesOfSpec)

/-- 'laws.FnExactCandleOf', WHERE WHAT IT READS IS OF BULK AT MOST 1048576: true; the input reads as it did. -/
def fnExactCandleOfUptoRow : OpenClaim := { program := "yteeggjjjjnebgaa", sum := "9bfaa0a581455caba0cc25e285de4f398b3c4b786e3bb9dbb5fbd871af2922eb", func := "loop.example/g00609/laws.FnExactCandleOf", spec := "fnExactCandleOf", unfollowed := true, recurses := true, apart := false, narrowed := true }
def FnExactCandleOfUptoSaid : Prop := fnExactCandleOfUptoRow.holds Try.pinned (OpenSpec.upto fnExactCandleOfSpec)

/-- 'laws.FnExactCandleOk', WHERE WHAT IT READS IS OF BULK AT MOST 1048576: true; the input reads as it did. -/
def fnExactCandleOkUptoRow : OpenClaim := { program := "yteeggjjjjnebgaa", sum := "9bfaa0a581455caba0cc25e285de4f398b3c4b786e3bb9dbb5fbd871af2922eb", func := "loop.example/g00609/laws.FnExactCandleOk", spec := "fnExactCandleOk", apart := false, narrowed := true }
def FnExactCandleOkUptoSaid : Prop := fnExactCandleOkUptoRow.holds Try.pinned (OpenSpec.upto fnExactCandleOkSpec)

/-- 'laws.FnExactBehind', WHERE WHAT IT READS IS OF BULK AT MOST 1048576: true; the input reads as it did. -/
def fnExactBehindUptoRow : OpenClaim := { program := "yteeggjjjjnebgaa", sum := "9bfaa0a581455caba0cc25e285de4f398b3c4b786e3bb9dbb5fbd871af2922eb", func := "loop.example/g00609/laws.FnExactBehind", spec := "fnExactBehind", apart := false, narrowed := true }
def FnExactBehindUptoSaid : Prop := fnExactBehindUptoRow.holds Try.pinned (OpenSpec.upto fnExactBehindSpec)

/-- 'laws.FnExactVwap', WHERE WHAT IT READS IS OF BULK AT MOST 1048576: true; the input reads as it did. -/
def fnExactVwapUptoRow : OpenClaim := { program := "yteeggjjjjnebgaa", sum := "9bfaa0a581455caba0cc25e285de4f398b3c4b786e3bb9dbb5fbd871af2922eb", func := "loop.example/g00609/laws.FnExactVwap", spec := "fnExactVwap", unfollowed := true, recurses := true, apart := false, narrowed := true }
def FnExactVwapUptoSaid : Prop := fnExactVwapUptoRow.holds Try.pinned (OpenSpec.upto fnExactVwapSpec)

/-- 'laws.FnExactLevelsOk', WHERE WHAT IT READS IS OF BULK AT MOST 1048576: true; the input reads as it did. -/
def fnExactLevelsOkUptoRow : OpenClaim := { program := "yteeggjjjjnebgaa", sum := "9bfaa0a581455caba0cc25e285de4f398b3c4b786e3bb9dbb5fbd871af2922eb", func := "loop.example/g00609/laws.FnExactLevelsOk", spec := "fnExactLevelsOk", apart := false, narrowed := true }
def FnExactLevelsOkUptoSaid : Prop := fnExactLevelsOkUptoRow.holds Try.pinned (OpenSpec.upto fnExactLevelsOkSpec)

/-- 'laws.FnExactDepthDelta', WHERE WHAT IT READS IS OF BULK AT MOST 1048576: true; the input reads as it did. -/
def fnExactDepthDeltaUptoRow : OpenClaim := { program := "yteeggjjjjnebgaa", sum := "9bfaa0a581455caba0cc25e285de4f398b3c4b786e3bb9dbb5fbd871af2922eb", func := "loop.example/g00609/laws.FnExactDepthDelta", spec := "fnExactDepthDelta", apart := false, narrowed := true }
def FnExactDepthDeltaUptoSaid : Prop := fnExactDepthDeltaUptoRow.holds Try.pinned (OpenSpec.upto fnExactDepthDeltaSpec)

/-- 'laws.FnExactDepthApplied', WHERE WHAT IT READS IS OF BULK AT MOST 1048576: true; the input reads as it did. -/
def fnExactDepthAppliedUptoRow : OpenClaim := { program := "yteeggjjjjnebgaa", sum := "9bfaa0a581455caba0cc25e285de4f398b3c4b786e3bb9dbb5fbd871af2922eb", func := "loop.example/g00609/laws.FnExactDepthApplied", spec := "fnExactDepthApplied", inPlace := ["slices.overlaps[loop.example/g00609/impl.Level]"], unfollowed := true, recurses := true, apart := false, narrowed := true }
def FnExactDepthAppliedUptoSaid : Prop := fnExactDepthAppliedUptoRow.holds Try.pinned (OpenSpec.upto fnExactDepthAppliedSpec)

/-- 'laws.FnExactCost', WHERE WHAT IT READS IS OF BULK AT MOST 1048576: true; the input reads as it did. -/
def fnExactCostUptoRow : OpenClaim := { program := "yteeggjjjjnebgaa", sum := "9bfaa0a581455caba0cc25e285de4f398b3c4b786e3bb9dbb5fbd871af2922eb", func := "loop.example/g00609/laws.FnExactCost", spec := "fnExactCost", apart := false, narrowed := true }
def FnExactCostUptoSaid : Prop := fnExactCostUptoRow.holds Try.pinned (OpenSpec.upto fnExactCostSpec)

end Rows
end Go.Proofs.Yteeggjjjjnebgaa
