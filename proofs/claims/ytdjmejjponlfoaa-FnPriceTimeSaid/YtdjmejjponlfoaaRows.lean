/-
  No cell of these rows narrows 'for every input' (looked for: loops, veiled, ifaces, maps, wideKeys, modest, calm, conditions, laid).
  DERIVED. THE GIVEN ROWS OF THIS SEAT. 6 by the template 'for every input the law returns true; each argument reads behind the call as it read before'; 0 by the template 'total and deterministic' (their statements: YtdjmejjponlfoaaTotals.lean).
  GIVEN WITH THE SEED: the statements are not yours to turn. If you find one false, say at which input.
  Laid BY PROGRAM, IN A SANDBOX (cutbox-rows.mjs): the forced cells as the released guide's own fill.sh prints them over the translation ad67486cc69bfff1… (all of the seat's roots in one cut). By AI agents, Wed Nov 11 2026. No macro, syntax, notation, axiom, sorry.
-/
import Derived.Test.YtdjmejjponlfoaaChecked
import GoSem.Claim
import GoSem.ClaimJoined
import GoSem.ClaimMapViews
import Derived.JoinedTies
import Derived.KernelRfl
namespace Go.Proofs.Ytdjmejjponlfoaa
/- THE CELL 'sum', in the pinned program and in every row, IS THE sha256 OF THE DUMP (.gsa) THAT YtdjmejjponlfoaaProg.lean LOADS. Nothing in Lean hashes anything: it is a label: what it is worth is what the hold of that sum in a sandbox is worth. -/
noncomputable def Try.pinned : Pinned := { name := "ytdjmejjponlfoaa", sum := "ad67486cc69bfff153233e3103044de891ed2da3cce99533258fbd964b41966a", checked := Try.checked }
namespace Rows
def none {H : Type} : Left H := { results := [], args := [] }

/-- 'laws.FnMatched': WHATEVER THE INPUT: true; the input reads as it did. -/
def fnMatchedSpec : ChangeSpec := { name := "fnMatched", fn := fun _ => fun
  | [d] => { results := [.lit (.bool true)], args := [d] }
  | _ => none }
def fnMatchedRow : OpenClaim := { program := "ytdjmejjponlfoaa", sum := "ad67486cc69bfff153233e3103044de891ed2da3cce99533258fbd964b41966a", func := "loop.example/g00609/laws.FnMatched", spec := "fnMatched", unfollowed := true, recurses := true, apart := false }
def FnMatchedSaid : Prop := fnMatchedRow.holds Try.pinned (OpenSpec.ofChange fnMatchedSpec)

/-- ITS FALSE NEIGHBOUR: 'it returns false'. Refute it at one input. -/
def fnMatchedWrong : ChangeSpec := { name := "fnMatched", fn := fun _ => fun
  | [d] => { results := [.lit (.bool false)], args := [d] }
  | _ => none }
def FnMatchedWrongFalsely : Prop := fnMatchedRow.holds Try.pinned (OpenSpec.ofChange fnMatchedWrong)

/-- 'laws.FnRests': WHATEVER THE INPUT: true; the input reads as it did. -/
def fnRestsSpec : ChangeSpec := { name := "fnRests", fn := fun _ => fun
  | [d] => { results := [.lit (.bool true)], args := [d] }
  | _ => none }
def fnRestsRow : OpenClaim := { program := "ytdjmejjponlfoaa", sum := "ad67486cc69bfff153233e3103044de891ed2da3cce99533258fbd964b41966a", func := "loop.example/g00609/laws.FnRests", spec := "fnRests", unfollowed := true, recurses := true, apart := false }
def FnRestsSaid : Prop := fnRestsRow.holds Try.pinned (OpenSpec.ofChange fnRestsSpec)

/-- ITS FALSE NEIGHBOUR: 'it returns false'. Refute it at one input. -/
def fnRestsWrong : ChangeSpec := { name := "fnRests", fn := fun _ => fun
  | [d] => { results := [.lit (.bool false)], args := [d] }
  | _ => none }
def FnRestsWrongFalsely : Prop := fnRestsRow.holds Try.pinned (OpenSpec.ofChange fnRestsWrong)

/-- 'laws.FnPriceTime': WHATEVER THE INPUT: true; the input reads as it did. -/
def fnPriceTimeSpec : ChangeSpec := { name := "fnPriceTime", fn := fun _ => fun
  | [d] => { results := [.lit (.bool true)], args := [d] }
  | _ => none }
def fnPriceTimeRow : OpenClaim := { program := "ytdjmejjponlfoaa", sum := "ad67486cc69bfff153233e3103044de891ed2da3cce99533258fbd964b41966a", func := "loop.example/g00609/laws.FnPriceTime", spec := "fnPriceTime", unfollowed := true, recurses := true, apart := false }
def FnPriceTimeSaid : Prop := fnPriceTimeRow.holds Try.pinned (OpenSpec.ofChange fnPriceTimeSpec)

/-- ITS FALSE NEIGHBOUR: 'it returns false'. Refute it at one input. -/
def fnPriceTimeWrong : ChangeSpec := { name := "fnPriceTime", fn := fun _ => fun
  | [d] => { results := [.lit (.bool false)], args := [d] }
  | _ => none }
def FnPriceTimeWrongFalsely : Prop := fnPriceTimeRow.holds Try.pinned (OpenSpec.ofChange fnPriceTimeWrong)

/-- 'laws.FnNoSelf': WHATEVER THE INPUT: true; the input reads as it did. -/
def fnNoSelfSpec : ChangeSpec := { name := "fnNoSelf", fn := fun _ => fun
  | [d] => { results := [.lit (.bool true)], args := [d] }
  | _ => none }
def fnNoSelfRow : OpenClaim := { program := "ytdjmejjponlfoaa", sum := "ad67486cc69bfff153233e3103044de891ed2da3cce99533258fbd964b41966a", func := "loop.example/g00609/laws.FnNoSelf", spec := "fnNoSelf", unfollowed := true, recurses := true, apart := false }
def FnNoSelfSaid : Prop := fnNoSelfRow.holds Try.pinned (OpenSpec.ofChange fnNoSelfSpec)

/-- ITS FALSE NEIGHBOUR: 'it returns false'. Refute it at one input. -/
def fnNoSelfWrong : ChangeSpec := { name := "fnNoSelf", fn := fun _ => fun
  | [d] => { results := [.lit (.bool false)], args := [d] }
  | _ => none }
def FnNoSelfWrongFalsely : Prop := fnNoSelfRow.holds Try.pinned (OpenSpec.ofChange fnNoSelfWrong)

/-- 'laws.FnAllOf': WHATEVER THE INPUT: true; the input reads as it did. -/
def fnAllOfSpec : ChangeSpec := { name := "fnAllOf", fn := fun _ => fun
  | [d] => { results := [.lit (.bool true)], args := [d] }
  | _ => none }
def fnAllOfRow : OpenClaim := { program := "ytdjmejjponlfoaa", sum := "ad67486cc69bfff153233e3103044de891ed2da3cce99533258fbd964b41966a", func := "loop.example/g00609/laws.FnAllOf", spec := "fnAllOf", unfollowed := true, recurses := true, apart := false }
def FnAllOfSaid : Prop := fnAllOfRow.holds Try.pinned (OpenSpec.ofChange fnAllOfSpec)

/-- ITS FALSE NEIGHBOUR: 'it returns false'. Refute it at one input. -/
def fnAllOfWrong : ChangeSpec := { name := "fnAllOf", fn := fun _ => fun
  | [d] => { results := [.lit (.bool false)], args := [d] }
  | _ => none }
def FnAllOfWrongFalsely : Prop := fnAllOfRow.holds Try.pinned (OpenSpec.ofChange fnAllOfWrong)

/-- 'laws.FnCanFill': WHATEVER THE INPUT: true; the input reads as it did. -/
def fnCanFillSpec : ChangeSpec := { name := "fnCanFill", fn := fun _ => fun
  | [d] => { results := [.lit (.bool true)], args := [d] }
  | _ => none }
def fnCanFillRow : OpenClaim := { program := "ytdjmejjponlfoaa", sum := "ad67486cc69bfff153233e3103044de891ed2da3cce99533258fbd964b41966a", func := "loop.example/g00609/laws.FnCanFill", spec := "fnCanFill", unfollowed := true, recurses := true, apart := false }
def FnCanFillSaid : Prop := fnCanFillRow.holds Try.pinned (OpenSpec.ofChange fnCanFillSpec)

/-- ITS FALSE NEIGHBOUR: 'it returns false'. Refute it at one input. -/
def fnCanFillWrong : ChangeSpec := { name := "fnCanFill", fn := fun _ => fun
  | [d] => { results := [.lit (.bool false)], args := [d] }
  | _ => none }
def FnCanFillWrongFalsely : Prop := fnCanFillRow.holds Try.pinned (OpenSpec.ofChange fnCanFillWrong)

/- THE SECOND FORM. 'bulk': how many values and letters a reading holds, each counted each time it is reached (what is shared counts as often as it is met; a slice's spare places count too). A statement '..UptoSaid' is the law's where the arguments, and the package variables that the reading takes, are together of bulk at most 1048576: NARROWER than '..Said'. Prove '..Said' where nothing that the law and all that it calls make is longer than what came in: it says more and counts as full. Else prove '..UptoSaid'. A law counts once. -/
mutual
def uptoBulk {H : Type} : DataW H → Nat
  | .lit (.string bytes) => bytes.length + 1
  | .lit _ => 1
  | .nil => 1
  | .ptr d => uptoBulk d + 1
  | .slice elems spare => uptoBulkAll elems + uptoBulkAll spare + 1
  | .agg parts => uptoBulkAll parts + 1
  | .iface _ d => uptoBulk d + 1
  | .map entries => uptoBulkEntries entries + 1
  | .held _ => 1
def uptoBulkAll {H : Type} : List (DataW H) → Nat
  | [] => 0
  | d :: r => uptoBulk d + uptoBulkAll r
def uptoBulkEntries {H : Type} : List (Lit × DataW H) → Nat
  | [] => 0
  | x :: r => uptoBulkEntry x + uptoBulkEntries r
def uptoBulkEntry {H : Type} : Lit × DataW H → Nat
  | (.string bytes, d) => bytes.length + uptoBulk d + 1
  | (_, d) => uptoBulk d + 1
 end
def uptoSmall : (H : Type) → List (DataW H) → Bool := fun _ ds => decide (uptoBulkAll ds ≤ 1048576)
def OpenSpec.upto (s : _root_.Go.ChangeSpec) : _root_.Go.OpenSpec := { _root_.Go.OpenSpec.ofChange s with cond := some uptoSmall }

/-- 'laws.FnMatched', WHERE WHAT IT READS IS OF BULK AT MOST 1048576: true; the input reads as it did. -/
def fnMatchedUptoRow : OpenClaim := { program := "ytdjmejjponlfoaa", sum := "ad67486cc69bfff153233e3103044de891ed2da3cce99533258fbd964b41966a", func := "loop.example/g00609/laws.FnMatched", spec := "fnMatched", unfollowed := true, recurses := true, apart := false, narrowed := true }
def FnMatchedUptoSaid : Prop := fnMatchedUptoRow.holds Try.pinned (OpenSpec.upto fnMatchedSpec)

/-- 'laws.FnRests', WHERE WHAT IT READS IS OF BULK AT MOST 1048576: true; the input reads as it did. -/
def fnRestsUptoRow : OpenClaim := { program := "ytdjmejjponlfoaa", sum := "ad67486cc69bfff153233e3103044de891ed2da3cce99533258fbd964b41966a", func := "loop.example/g00609/laws.FnRests", spec := "fnRests", unfollowed := true, recurses := true, apart := false, narrowed := true }
def FnRestsUptoSaid : Prop := fnRestsUptoRow.holds Try.pinned (OpenSpec.upto fnRestsSpec)

/-- 'laws.FnPriceTime', WHERE WHAT IT READS IS OF BULK AT MOST 1048576: true; the input reads as it did. -/
def fnPriceTimeUptoRow : OpenClaim := { program := "ytdjmejjponlfoaa", sum := "ad67486cc69bfff153233e3103044de891ed2da3cce99533258fbd964b41966a", func := "loop.example/g00609/laws.FnPriceTime", spec := "fnPriceTime", unfollowed := true, recurses := true, apart := false, narrowed := true }
def FnPriceTimeUptoSaid : Prop := fnPriceTimeUptoRow.holds Try.pinned (OpenSpec.upto fnPriceTimeSpec)

/-- 'laws.FnNoSelf', WHERE WHAT IT READS IS OF BULK AT MOST 1048576: true; the input reads as it did. -/
def fnNoSelfUptoRow : OpenClaim := { program := "ytdjmejjponlfoaa", sum := "ad67486cc69bfff153233e3103044de891ed2da3cce99533258fbd964b41966a", func := "loop.example/g00609/laws.FnNoSelf", spec := "fnNoSelf", unfollowed := true, recurses := true, apart := false, narrowed := true }
def FnNoSelfUptoSaid : Prop := fnNoSelfUptoRow.holds Try.pinned (OpenSpec.upto fnNoSelfSpec)

/-- 'laws.FnAllOf', WHERE WHAT IT READS IS OF BULK AT MOST 1048576: true; the input reads as it did. -/
def fnAllOfUptoRow : OpenClaim := { program := "ytdjmejjponlfoaa", sum := "ad67486cc69bfff153233e3103044de891ed2da3cce99533258fbd964b41966a", func := "loop.example/g00609/laws.FnAllOf", spec := "fnAllOf", unfollowed := true, recurses := true, apart := false, narrowed := true }
def FnAllOfUptoSaid : Prop := fnAllOfUptoRow.holds Try.pinned (OpenSpec.upto fnAllOfSpec)

/-- 'laws.FnCanFill', WHERE WHAT IT READS IS OF BULK AT MOST 1048576: true; the input reads as it did. -/
def fnCanFillUptoRow : OpenClaim := { program := "ytdjmejjponlfoaa", sum := "ad67486cc69bfff153233e3103044de891ed2da3cce99533258fbd964b41966a", func := "loop.example/g00609/laws.FnCanFill", spec := "fnCanFill", unfollowed := true, recurses := true, apart := false, narrowed := true }
def FnCanFillUptoSaid : Prop := fnCanFillUptoRow.holds Try.pinned (OpenSpec.upto fnCanFillSpec)

end Rows
end Go.Proofs.Ytdjmejjponlfoaa
