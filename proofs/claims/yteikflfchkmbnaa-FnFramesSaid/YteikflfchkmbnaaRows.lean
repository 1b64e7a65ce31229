/-
  No cell of these rows narrows 'for every input' (looked for: loops, veiled, ifaces, maps, wideKeys, modest, calm, conditions, laid).
  DERIVED. THE GIVEN ROWS OF THIS SEAT. 8 by the template 'for every input the law returns true; each argument reads behind the call as it read before'; 0 by the template 'total and deterministic' (their statements: YteikflfchkmbnaaTotals.lean).
  GIVEN WITH THE SEED: the statements are not yours to turn. If you find one false, say at which input.
  Laid BY PROGRAM, IN A SANDBOX (cutbox-rows.mjs): the forced cells as the released guide's own fill.sh prints them over the translation de14ae6cec29c4c1… (all of the seat's roots in one cut). By AI agents, Wed Nov 11 2026. No macro, syntax, notation, axiom, sorry.
-/
import Derived.Test.YteikflfchkmbnaaChecked
import GoSem.Claim
import GoSem.ClaimJoined
import GoSem.ClaimMapViews
import Derived.JoinedTies
import Derived.KernelRfl
namespace Go.Proofs.Yteikflfchkmbnaa
/- THE CELL 'sum', in the pinned program and in every row, IS THE sha256 OF THE DUMP (.gsa) THAT YteikflfchkmbnaaProg.lean LOADS. Nothing in Lean hashes anything: it is a label: what it is worth is what the hold of that sum in a sandbox is worth. -/
noncomputable def Try.pinned : Pinned := { name := "yteikflfchkmbnaa", sum := "de14ae6cec29c4c1bb4b78738f7cf44011aaa126797ab906cc83180499c43381", checked := Try.checked }
namespace Rows
def none {H : Type} : Left H := { results := [], args := [] }

/-- 'laws.FnVolume': WHATEVER THE INPUT: true; the input reads as it did. -/
def fnVolumeSpec : ChangeSpec := { name := "fnVolume", fn := fun _ => fun
  | [d] => { results := [.lit (.bool true)], args := [d] }
  | _ => none }
def fnVolumeRow : OpenClaim := { program := "yteikflfchkmbnaa", sum := "de14ae6cec29c4c1bb4b78738f7cf44011aaa126797ab906cc83180499c43381", func := "loop.example/g00609/laws.FnVolume", spec := "fnVolume", unfollowed := true, recurses := true, apart := false }
def FnVolumeSaid : Prop := fnVolumeRow.holds Try.pinned (OpenSpec.ofChange fnVolumeSpec)

/-- ITS FALSE NEIGHBOUR: 'it returns false'. Refute it at one input. -/
def fnVolumeWrong : ChangeSpec := { name := "fnVolume", fn := fun _ => fun
  | [d] => { results := [.lit (.bool false)], args := [d] }
  | _ => none }
def FnVolumeWrongFalsely : Prop := fnVolumeRow.holds Try.pinned (OpenSpec.ofChange fnVolumeWrong)

/-- 'laws.FnVolumeAt': WHATEVER THE INPUT: true; the input reads as it did. -/
def fnVolumeAtSpec : ChangeSpec := { name := "fnVolumeAt", fn := fun _ => fun
  | [d] => { results := [.lit (.bool true)], args := [d] }
  | _ => none }
def fnVolumeAtRow : OpenClaim := { program := "yteikflfchkmbnaa", sum := "de14ae6cec29c4c1bb4b78738f7cf44011aaa126797ab906cc83180499c43381", func := "loop.example/g00609/laws.FnVolumeAt", spec := "fnVolumeAt", unfollowed := true, recurses := true, apart := false }
def FnVolumeAtSaid : Prop := fnVolumeAtRow.holds Try.pinned (OpenSpec.ofChange fnVolumeAtSpec)

/-- ITS FALSE NEIGHBOUR: 'it returns false'. Refute it at one input. -/
def fnVolumeAtWrong : ChangeSpec := { name := "fnVolumeAt", fn := fun _ => fun
  | [d] => { results := [.lit (.bool false)], args := [d] }
  | _ => none }
def FnVolumeAtWrongFalsely : Prop := fnVolumeAtRow.holds Try.pinned (OpenSpec.ofChange fnVolumeAtWrong)

/-- 'laws.FnTrades': WHATEVER THE INPUT: true; the input reads as it did. -/
def fnTradesSpec : ChangeSpec := { name := "fnTrades", fn := fun _ => fun
  | [d] => { results := [.lit (.bool true)], args := [d] }
  | _ => none }
def fnTradesRow : OpenClaim := { program := "yteikflfchkmbnaa", sum := "de14ae6cec29c4c1bb4b78738f7cf44011aaa126797ab906cc83180499c43381", func := "loop.example/g00609/laws.FnTrades", spec := "fnTrades", unfollowed := true, recurses := true, apart := false }
def FnTradesSaid : Prop := fnTradesRow.holds Try.pinned (OpenSpec.ofChange fnTradesSpec)

/-- ITS FALSE NEIGHBOUR: 'it returns false'. Refute it at one input. -/
def fnTradesWrong : ChangeSpec := { name := "fnTrades", fn := fun _ => fun
  | [d] => { results := [.lit (.bool false)], args := [d] }
  | _ => none }
def FnTradesWrongFalsely : Prop := fnTradesRow.holds Try.pinned (OpenSpec.ofChange fnTradesWrong)

/-- 'laws.FnCandle': WHATEVER THE INPUT: true; the input reads as it did. -/
def fnCandleSpec : ChangeSpec := { name := "fnCandle", fn := fun _ => fun
  | [d] => { results := [.lit (.bool true)], args := [d] }
  | _ => none }
def fnCandleRow : OpenClaim := { program := "yteikflfchkmbnaa", sum := "de14ae6cec29c4c1bb4b78738f7cf44011aaa126797ab906cc83180499c43381", func := "loop.example/g00609/laws.FnCandle", spec := "fnCandle", unfollowed := true, recurses := true, apart := false }
def FnCandleSaid : Prop := fnCandleRow.holds Try.pinned (OpenSpec.ofChange fnCandleSpec)

/-- ITS FALSE NEIGHBOUR: 'it returns false'. Refute it at one input. -/
def fnCandleWrong : ChangeSpec := { name := "fnCandle", fn := fun _ => fun
  | [d] => { results := [.lit (.bool false)], args := [d] }
  | _ => none }
def FnCandleWrongFalsely : Prop := fnCandleRow.holds Try.pinned (OpenSpec.ofChange fnCandleWrong)

/-- 'laws.FnBehind': WHATEVER THE INPUT: true; the input reads as it did. -/
def fnBehindSpec : ChangeSpec := { name := "fnBehind", fn := fun _ => fun
  | [d] => { results := [.lit (.bool true)], args := [d] }
  | _ => none }
def fnBehindRow : OpenClaim := { program := "yteikflfchkmbnaa", sum := "de14ae6cec29c4c1bb4b78738f7cf44011aaa126797ab906cc83180499c43381", func := "loop.example/g00609/laws.FnBehind", spec := "fnBehind", apart := false }
def FnBehindSaid : Prop := fnBehindRow.holds Try.pinned (OpenSpec.ofChange fnBehindSpec)

/-- ITS FALSE NEIGHBOUR: 'it returns false'. Refute it at one input. -/
def fnBehindWrong : ChangeSpec := { name := "fnBehind", fn := fun _ => fun
  | [d] => { results := [.lit (.bool false)], args := [d] }
  | _ => none }
def FnBehindWrongFalsely : Prop := fnBehindRow.holds Try.pinned (OpenSpec.ofChange fnBehindWrong)

/-- 'laws.FnVwap': WHATEVER THE INPUT: true; the input reads as it did. -/
def fnVwapSpec : ChangeSpec := { name := "fnVwap", fn := fun _ => fun
  | [d] => { results := [.lit (.bool true)], args := [d] }
  | _ => none }
def fnVwapRow : OpenClaim := { program := "yteikflfchkmbnaa", sum := "de14ae6cec29c4c1bb4b78738f7cf44011aaa126797ab906cc83180499c43381", func := "loop.example/g00609/laws.FnVwap", spec := "fnVwap", unfollowed := true, recurses := true, apart := false }
def FnVwapSaid : Prop := fnVwapRow.holds Try.pinned (OpenSpec.ofChange fnVwapSpec)

/-- ITS FALSE NEIGHBOUR: 'it returns false'. Refute it at one input. -/
def fnVwapWrong : ChangeSpec := { name := "fnVwap", fn := fun _ => fun
  | [d] => { results := [.lit (.bool false)], args := [d] }
  | _ => none }
def FnVwapWrongFalsely : Prop := fnVwapRow.holds Try.pinned (OpenSpec.ofChange fnVwapWrong)

/-- 'laws.FnFrames': WHATEVER THE INPUT: true; the input reads as it did. -/
def fnFramesSpec : ChangeSpec := { name := "fnFrames", fn := fun _ => fun
  | [d] => { results := [.lit (.bool true)], args := [d] }
  | _ => none }
def fnFramesRow : OpenClaim := { program := "yteikflfchkmbnaa", sum := "de14ae6cec29c4c1bb4b78738f7cf44011aaa126797ab906cc83180499c43381", func := "loop.example/g00609/laws.FnFrames", spec := "fnFrames", apart := false }
def FnFramesSaid : Prop := fnFramesRow.holds Try.pinned (OpenSpec.ofChange fnFramesSpec)

/-- ITS FALSE NEIGHBOUR: 'it returns false'. Refute it at one input. -/
def fnFramesWrong : ChangeSpec := { name := "fnFrames", fn := fun _ => fun
  | [d] => { results := [.lit (.bool false)], args := [d] }
  | _ => none }
def FnFramesWrongFalsely : Prop := fnFramesRow.holds Try.pinned (OpenSpec.ofChange fnFramesWrong)

/-- 'laws.FnExactTradesOf': WHATEVER THE INPUT: true; the input reads as it did. -/
def fnExactTradesOfSpec : ChangeSpec := { name := "fnExactTradesOf", fn := fun _ => fun
  | [d1, d2] => { results := [.lit (.bool true)], args := [d1, d2] }
  | _ => none }
def fnExactTradesOfRow : OpenClaim := { program := "yteikflfchkmbnaa", sum := "de14ae6cec29c4c1bb4b78738f7cf44011aaa126797ab906cc83180499c43381", func := "loop.example/g00609/laws.FnExactTradesOf", spec := "fnExactTradesOf", unfollowed := true, recurses := true, apart := false }
def FnExactTradesOfSaid : Prop := fnExactTradesOfRow.holds Try.pinned (OpenSpec.ofChange fnExactTradesOfSpec)

/-- ITS FALSE NEIGHBOUR: 'it returns false'. Refute it at one input. -/
def fnExactTradesOfWrong : ChangeSpec := { name := "fnExactTradesOf", fn := fun _ => fun
  | [d1, d2] => { results := [.lit (.bool false)], args := [d1, d2] }
  | _ => none }
def FnExactTradesOfWrongFalsely : Prop := fnExactTradesOfRow.holds Try.pinned (OpenSpec.ofChange fnExactTradesOfWrong)

/- THE SECOND FORM. 'bulk': how many values and letters a reading holds, each counted each time it is reached (what is shared counts as often as it is met; a slice's spare places count too). A statement '..UptoSaid' is the law's where the arguments, and the package variables that the reading takes, are together of bulk at most 1048576: NARROWER than '..Said'. Prove '..Said' where nothing that the law and all that it calls make is longer than what came in: it says more and counts as full. Else prove '..UptoSaid'. A law counts once. -/
mutual
def uptoBulk {H : Type} : DataW H → Nat
  | .lit (.string bytes) => bytes.length + 1
  | .lit _ => 1
  | .nil => 1
  | .ptr d => uptoBulk d + 1
  | .slice elems spare => uptoBulkAll elems + uptoBulkAll spare + 1
  | .agg parts => uptoBulkAll parts + 1
  | .iface _ d => uptoBulk d + 1
  | .map entries => uptoBulkEntries entries + 1
  | .held _ => 1
def uptoBulkAll {H : Type} : List (DataW H) → Nat
  | [] => 0
  | d :: r => uptoBulk d + uptoBulkAll r
def uptoBulkEntries {H : Type} : List (Lit × DataW H) → Nat
  | [] => 0
  | x :: r => uptoBulkEntry x + uptoBulkEntries r
def uptoBulkEntry {H : Type} : Lit × DataW H → Nat
  | (.string bytes, d) => bytes.length + uptoBulk d + 1
  | (_, d) => uptoBulk d + 1
 end
def uptoSmall : (H : Type) → List (DataW H) → Bool := fun _ ds => decide (uptoBulkAll ds ≤ 1048576)
def OpenSpec.upto (s : _root_.Go.ChangeSpec) : _root_.Go.OpenSpec := { _root_.Go.OpenSpec.ofChange s with cond := some uptoSmall }

/-- 'laws.FnVolume', WHERE WHAT IT READS IS OF BULK AT MOST 1048576: true; the input reads as it did. -/
def fnVolumeUptoRow : OpenClaim := { program := "yteikflfchkmbnaa", sum := "de14ae6cec29c4c1bb4b78738f7cf44011aaa126797ab906cc83180499c43381", func := "loop.example/g00609/laws.FnVolume", spec := "fnVolume", unfollowed := true, recurses := true, apart := false, narrowed := true }
def FnVolumeUptoSaid : Prop := fnVolumeUptoRow.holds Try.pinned (OpenSpec.upto fnVolumeSpec)

/-- 'laws.FnVolumeAt', WHERE WHAT IT READS IS OF BULK AT MOST 1048576: true; the input reads as it did. -/
def fnVolumeAtUptoRow : OpenClaim := { program := "yteikflfchkmbnaa", sum := "de14ae6cec29c4c1bb4b78738f7cf44011aaa126797ab906cc83180499c43381", func := "loop.example/g00609/laws.FnVolumeAt", spec := "fnVolumeAt", unfollowed := true, recurses := true, apart := false, narrowed := true }
def FnVolumeAtUptoSaid : Prop := fnVolumeAtUptoRow.holds Try.pinned (OpenSpec.upto fnVolumeAtSpec)

/-- 'laws.FnTrades', WHERE WHAT IT READS IS OF BULK AT MOST 1048576: true; the input reads as it did. -/
def fnTradesUptoRow : OpenClaim := { program := "yteikflfchkmbnaa", sum := "de14ae6cec29c4c1bb4b78738f7cf44011aaa126797ab906cc83180499c43381", func := "loop.example/g00609/laws.FnTrades", spec := "fnTrades", unfollowed := true, recurses := true, apart := false, narrowed := true }
def FnTradesUptoSaid : Prop := fnTradesUptoRow.holds Try.pinned (OpenSpec.upto fnTradesSpec)

/-- 'laws.FnCandle', WHERE WHAT IT READS IS OF BULK AT MOST 1048576: true; the input reads as it did. -/
def fnCandleUptoRow : OpenClaim := { program := "yteikflfchkmbnaa", sum := "de14ae6cec29c4c1bb4b78738f7cf44011aaa126797ab906cc83180499c43381", func := "loop.example/g00609/laws.FnCandle", spec := "fnCandle", unfollowed := true, recurses := true, apart := false, narrowed := true }
def FnCandleUptoSaid : Prop := fnCandleUptoRow.holds Try.pinned (OpenSpec.upto fnCandleSpec)

/-- 'laws.FnBehind', WHERE WHAT IT READS IS OF BULK AT MOST 1048576: true; the input reads as it did. -/
def fnBehindUptoRow : OpenClaim := { program := "yteikflfchkmbnaa", sum := "de14ae6cec29c4c1bb4b78738f7cf44011aaa126797ab906cc83180499c43381", func := "loop.example/g00609/laws.FnBehind", spec := "fnBehind", apart := false, narrowed := true }
def FnBehindUptoSaid : Prop := fnBehindUptoRow.holds Try.pinned (OpenSpec.upto fnBehindSpec)

/-- 'laws.FnVwap', WHERE WHAT IT READS IS OF BULK AT MOST 1048576: true; the input reads as it did. -/
def fnVwapUptoRow : OpenClaim := { program := "yteikflfchkmbnaa", sum := "de14ae6cec29c4c1bb4b78738f7cf44011aaa126797ab906cc83180499c43381", func := "loop.example/g00609/laws.FnVwap", spec := "fnVwap", unfollowed := true, recurses := true, apart := false, narrowed := true }
def FnVwapUptoSaid : Prop := fnVwapUptoRow.holds Try.pinned (OpenSpec.upto fnVwapSpec)

/-- 'laws.FnFrames', WHERE WHAT IT READS IS OF BULK AT MOST 1048576: true; the input reads as it did. -/
def fnFramesUptoRow : OpenClaim := { program := "yteikflfchkmbnaa", sum := "de14ae6cec29c4c1bb4b78738f7cf44011aaa126797ab906cc83180499c43381", func := "loop.example/g00609/laws.FnFrames", spec := "fnFrames", apart := false, narrowed := true }
def FnFramesUptoSaid : Prop := fnFramesUptoRow.holds Try.pinned (OpenSpec.upto fnFramesSpec)

/-- 'laws.FnExactTradesOf', WHERE WHAT IT READS IS OF BULK AT MOST 1048576: true; the input reads as it did. -/
def fnExactTradesOfUptoRow : OpenClaim := { program := "yteikflfchkmbnaa", sum := "de14ae6cec29c4c1bb4b78738f7cf44011aaa126797ab906cc83180499c43381", func := "loop.example/g00609/laws.FnExactTradesOf", spec := "fnExactTradesOf", unfollowed := true, recurses := true, apart := false, narrowed := true }
def FnExactTradesOfUptoSaid : Prop := fnExactTradesOfUptoRow.holds Try.pinned (OpenSpec.upto fnExactTradesOfSpec)

end Rows
end Go.Proofs.Yteikflfchkmbnaa
