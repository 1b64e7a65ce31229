/-
  No cell of these rows narrows 'for every input' (looked for: loops, veiled, ifaces, maps, wideKeys, modest, calm, conditions, laid).
  DERIVED. THE GIVEN ROWS OF THIS SEAT. 8 by the template 'for every input the law returns true; each argument reads behind the call as it read before'; 0 by the template 'total and deterministic' (their statements: YtgpfpaifbgdleaaTotals.lean).
  GIVEN WITH THE SEED: the statements are not yours to turn. If you find one false, say at which input.
  Laid BY PROGRAM, IN A SANDBOX (cutbox-rows.mjs): the forced cells as the released guide's own fill.sh prints them over the translation 76dab7796524b302… (all of the seat's roots in one cut). By AI agents, Wed Nov 11 2026. No macro, syntax, notation, axiom, sorry.
-/
import Derived.Test.YtgpfpaifbgdleaaChecked
import GoSem.Claim
import GoSem.ClaimJoined
import GoSem.ClaimMapViews
import Derived.JoinedTies
import Derived.KernelRfl
namespace Go.Proofs.Ytgpfpaifbgdleaa
/- THE CELL 'sum', in the pinned program and in every row, IS THE sha256 OF THE DUMP (.gsa) THAT YtgpfpaifbgdleaaProg.lean LOADS. Nothing in Lean hashes anything: it is a label: what it is worth is what the hold of that sum in a sandbox is worth. -/
noncomputable def Try.pinned : Pinned := { name := "ytgpfpaifbgdleaa", sum := "76dab7796524b302801f085d5767443e7aeafdbaecce52205e057d9a4686c44e", checked := Try.checked }
namespace Rows
def none {H : Type} : Left H := { results := [], args := [] }

/-- 'laws.FnFilled': WHATEVER THE INPUT: true; the input reads as it did. -/
def fnFilledSpec : ChangeSpec := { name := "fnFilled", fn := fun _ => fun
  | [d] => { results := [.lit (.bool true)], args := [d] }
  | _ => none }
def fnFilledRow : OpenClaim := { program := "ytgpfpaifbgdleaa", sum := "76dab7796524b302801f085d5767443e7aeafdbaecce52205e057d9a4686c44e", func := "loop.example/g00609/laws.FnFilled", spec := "fnFilled", apart := false }
def FnFilledSaid : Prop := fnFilledRow.holds Try.pinned (OpenSpec.ofChange fnFilledSpec)

/-- ITS FALSE NEIGHBOUR: 'it returns false'. Refute it at one input. -/
def fnFilledWrong : ChangeSpec := { name := "fnFilled", fn := fun _ => fun
  | [d] => { results := [.lit (.bool false)], args := [d] }
  | _ => none }
def FnFilledWrongFalsely : Prop := fnFilledRow.holds Try.pinned (OpenSpec.ofChange fnFilledWrong)

/-- 'laws.FnExactFilled': WHATEVER THE INPUT: true; the input reads as it did. -/
def fnExactFilledSpec : ChangeSpec := { name := "fnExactFilled", fn := fun _ => fun
  | [d1, d2] => { results := [.lit (.bool true)], args := [d1, d2] }
  | _ => none }
def fnExactFilledRow : OpenClaim := { program := "ytgpfpaifbgdleaa", sum := "76dab7796524b302801f085d5767443e7aeafdbaecce52205e057d9a4686c44e", func := "loop.example/g00609/laws.FnExactFilled", spec := "fnExactFilled", apart := false }
def FnExactFilledSaid : Prop := fnExactFilledRow.holds Try.pinned (OpenSpec.ofChange fnExactFilledSpec)

/-- ITS FALSE NEIGHBOUR: 'it returns false'. Refute it at one input. -/
def fnExactFilledWrong : ChangeSpec := { name := "fnExactFilled", fn := fun _ => fun
  | [d1, d2] => { results := [.lit (.bool false)], args := [d1, d2] }
  | _ => none }
def FnExactFilledWrongFalsely : Prop := fnExactFilledRow.holds Try.pinned (OpenSpec.ofChange fnExactFilledWrong)

/-- 'laws.FnExactEngineNew': WHATEVER THE INPUT: true; the input reads as it did. -/
def fnExactEngineNewSpec : ChangeSpec := { name := "fnExactEngineNew", fn := fun _ => fun
  | [] => { results := [.lit (.bool true)], args := [] }
  | _ => none }
def fnExactEngineNewRow : OpenClaim := { program := "ytgpfpaifbgdleaa", sum := "76dab7796524b302801f085d5767443e7aeafdbaecce52205e057d9a4686c44e", func := "loop.example/g00609/laws.FnExactEngineNew", spec := "fnExactEngineNew", apart := false }
def FnExactEngineNewSaid : Prop := fnExactEngineNewRow.holds Try.pinned (OpenSpec.ofChange fnExactEngineNewSpec)

/-- ITS FALSE NEIGHBOUR: 'it returns false'. Refute it at one input. -/
def fnExactEngineNewWrong : ChangeSpec := { name := "fnExactEngineNew", fn := fun _ => fun
  | [] => { results := [.lit (.bool false)], args := [] }
  | _ => none }
def FnExactEngineNewWrongFalsely : Prop := fnExactEngineNewRow.holds Try.pinned (OpenSpec.ofChange fnExactEngineNewWrong)

/-- 'laws.FnExactEngineOk': WHATEVER THE INPUT: true; the input reads as it did. -/
def fnExactEngineOkSpec : ChangeSpec := { name := "fnExactEngineOk", fn := fun _ => fun
  | [d] => { results := [.lit (.bool true)], args := [d] }
  | _ => none }
def fnExactEngineOkRow : OpenClaim := { program := "ytgpfpaifbgdleaa", sum := "76dab7796524b302801f085d5767443e7aeafdbaecce52205e057d9a4686c44e", func := "loop.example/g00609/laws.FnExactEngineOk", spec := "fnExactEngineOk", unfollowed := true, recurses := true, apart := false }
def FnExactEngineOkSaid : Prop := fnExactEngineOkRow.holds Try.pinned (OpenSpec.ofChange fnExactEngineOkSpec)

/-- ITS FALSE NEIGHBOUR: 'it returns false'. Refute it at one input. -/
def fnExactEngineOkWrong : ChangeSpec := { name := "fnExactEngineOk", fn := fun _ => fun
  | [d] => { results := [.lit (.bool false)], args := [d] }
  | _ => none }
def FnExactEngineOkWrongFalsely : Prop := fnExactEngineOkRow.holds Try.pinned (OpenSpec.ofChange fnExactEngineOkWrong)

/-- 'laws.FnExactSumsOf': WHATEVER THE INPUT: true; the input reads as it did. -/
def fnExactSumsOfSpec : ChangeSpec := { name := "fnExactSumsOf", fn := fun _ => fun
  | [d1, d2, d3] => { results := [.lit (.bool true)], args := [d1, d2, d3] }
  | _ => none }
def fnExactSumsOfRow : OpenClaim := { program := "ytgpfpaifbgdleaa", sum := "76dab7796524b302801f085d5767443e7aeafdbaecce52205e057d9a4686c44e", func := "loop.example/g00609/laws.FnExactSumsOf", spec := "fnExactSumsOf", apart := false }
def FnExactSumsOfSaid : Prop := fnExactSumsOfRow.holds Try.pinned (OpenSpec.ofChange fnExactSumsOfSpec)

/-- ITS FALSE NEIGHBOUR: 'it returns false'. Refute it at one input. -/
def fnExactSumsOfWrong : ChangeSpec := { name := "fnExactSumsOf", fn := fun _ => fun
  | [d1, d2, d3] => { results := [.lit (.bool false)], args := [d1, d2, d3] }
  | _ => none }
def FnExactSumsOfWrongFalsely : Prop := fnExactSumsOfRow.holds Try.pinned (OpenSpec.ofChange fnExactSumsOfWrong)

/-- 'laws.FnExactResting': WHATEVER THE INPUT: true; the input reads as it did. -/
def fnExactRestingSpec : ChangeSpec := { name := "fnExactResting", fn := fun _ => fun
  | [d1, d2, d3] => { results := [.lit (.bool true)], args := [d1, d2, d3] }
  | _ => none }
def fnExactRestingRow : OpenClaim := { program := "ytgpfpaifbgdleaa", sum := "76dab7796524b302801f085d5767443e7aeafdbaecce52205e057d9a4686c44e", func := "loop.example/g00609/laws.FnExactResting", spec := "fnExactResting", unfollowed := true, recurses := true, apart := false }
def FnExactRestingSaid : Prop := fnExactRestingRow.holds Try.pinned (OpenSpec.ofChange fnExactRestingSpec)

/-- ITS FALSE NEIGHBOUR: 'it returns false'. Refute it at one input. -/
def fnExactRestingWrong : ChangeSpec := { name := "fnExactResting", fn := fun _ => fun
  | [d1, d2, d3] => { results := [.lit (.bool false)], args := [d1, d2, d3] }
  | _ => none }
def FnExactRestingWrongFalsely : Prop := fnExactRestingRow.holds Try.pinned (OpenSpec.ofChange fnExactRestingWrong)

/-- 'laws.FnExactVolume': WHATEVER THE INPUT: true; the input reads as it did. -/
def fnExactVolumeSpec : ChangeSpec := { name := "fnExactVolume", fn := fun _ => fun
  | [d1, d2] => { results := [.lit (.bool true)], args := [d1, d2] }
  | _ => none }
def fnExactVolumeRow : OpenClaim := { program := "ytgpfpaifbgdleaa", sum := "76dab7796524b302801f085d5767443e7aeafdbaecce52205e057d9a4686c44e", func := "loop.example/g00609/laws.FnExactVolume", spec := "fnExactVolume", unfollowed := true, recurses := true, apart := false }
def FnExactVolumeSaid : Prop := fnExactVolumeRow.holds Try.pinned (OpenSpec.ofChange fnExactVolumeSpec)

/-- ITS FALSE NEIGHBOUR: 'it returns false'. Refute it at one input. -/
def fnExactVolumeWrong : ChangeSpec := { name := "fnExactVolume", fn := fun _ => fun
  | [d1, d2] => { results := [.lit (.bool false)], args := [d1, d2] }
  | _ => none }
def FnExactVolumeWrongFalsely : Prop := fnExactVolumeRow.holds Try.pinned (OpenSpec.ofChange fnExactVolumeWrong)

/-- 'laws.FnExactNet': WHATEVER THE INPUT: true; the input reads as it did. -/
def fnExactNetSpec : ChangeSpec := { name := "fnExactNet", fn := fun _ => fun
  | [d1, d2, d3, d4] => { results := [.lit (.bool true)], args := [d1, d2, d3, d4] }
  | _ => none }
def fnExactNetRow : OpenClaim := { program := "ytgpfpaifbgdleaa", sum := "76dab7796524b302801f085d5767443e7aeafdbaecce52205e057d9a4686c44e", func := "loop.example/g00609/laws.FnExactNet", spec := "fnExactNet", unfollowed := true, recurses := true, apart := false }
def FnExactNetSaid : Prop := fnExactNetRow.holds Try.pinned (OpenSpec.ofChange fnExactNetSpec)

/-- ITS FALSE NEIGHBOUR: 'it returns false'. Refute it at one input. -/
def fnExactNetWrong : ChangeSpec := { name := "fnExactNet", fn := fun _ => fun
  | [d1, d2, d3, d4] => { results := [.lit (.bool false)], args := [d1, d2, d3, d4] }
  | _ => none }
def FnExactNetWrongFalsely : Prop := fnExactNetRow.holds Try.pinned (OpenSpec.ofChange fnExactNetWrong)

/- THE SECOND FORM. 'bulk': how many values and letters a reading holds, each counted each time it is reached (what is shared counts as often as it is met; a slice's spare places count too). A statement '..UptoSaid' is the law's where the arguments, and the package variables that the reading takes, are together of bulk at most 1048576: NARROWER than '..Said'. Prove '..Said' where nothing that the law and all that it calls make is longer than what came in: it says more and counts as full. Else prove '..UptoSaid'. A law counts once. -/
mutual
def uptoBulk {H : Type} : DataW H → Nat
  | .lit (.string bytes) => bytes.length + 1
  | .lit _ => 1
  | .nil => 1
  | .ptr d => uptoBulk d + 1
  | .slice elems spare => uptoBulkAll elems + uptoBulkAll spare + 1
  | .agg parts => uptoBulkAll parts + 1
  | .iface _ d => uptoBulk d + 1
  | .map entries => uptoBulkEntries entries + 1
  | .held _ => 1
def uptoBulkAll {H : Type} : List (DataW H) → Nat
  | [] => 0
  | d :: r => uptoBulk d + uptoBulkAll r
def uptoBulkEntries {H : Type} : List (Lit × DataW H) → Nat
  | [] => 0
  | x :: r => uptoBulkEntry x + uptoBulkEntries r
def uptoBulkEntry {H : Type} : Lit × DataW H → Nat
  | (.string bytes, d) => bytes.length + uptoBulk d + 1
  | (_, d) => uptoBulk d + 1
 end
def uptoSmall : (H : Type) → List (DataW H) → Bool := fun _ ds => decide (uptoBulkAll ds ≤ 1048576)
def OpenSpec.upto (s : _root_.Go.ChangeSpec) : _root_.Go.OpenSpec := { _root_.Go.OpenSpec.ofChange s with cond := some uptoSmall }

/-- 'laws.FnFilled', WHERE WHAT IT READS IS OF BULK AT MOST 1048576: true; the input reads as it did. -/
def fnFilledUptoRow : OpenClaim := { program := "ytgpfpaifbgdleaa", sum := "76dab7796524b302801f085d5767443e7aeafdbaecce52205e057d9a4686c44e", func := "loop.example/g00609/laws.FnFilled", spec := "fnFilled", apart := false, narrowed := true }
def FnFilledUptoSaid : Prop := fnFilledUptoRow.holds Try.pinned (OpenSpec.upto fnFilledSpec)

/-- 'laws.FnExactFilled', WHERE WHAT IT READS IS OF BULK AT MOST 1048576: true; the input reads as it did. -/
def fnExactFilledUptoRow : OpenClaim := { program := "ytgpfpaifbgdleaa", sum := "76dab7796524b302801f085d5767443e7aeafdbaecce52205e057d9a4686c44e", func := "loop.example/g00609/laws.FnExactFilled", spec := "fnExactFilled", apart := false, narrowed := true }
def FnExactFilledUptoSaid : Prop := fnExactFilledUptoRow.holds Try.pinned (OpenSpec.upto fnExactFilledSpec)

/-- 'laws.FnExactEngineNew', WHERE WHAT IT READS IS OF BULK AT MOST 1048576: true; the input reads as it did. -/
def fnExactEngineNewUptoRow : OpenClaim := { program := "ytgpfpaifbgdleaa", sum := "76dab7796524b302801f085d5767443e7aeafdbaecce52205e057d9a4686c44e", func := "loop.example/g00609/laws.FnExactEngineNew", spec := "fnExactEngineNew", apart := false, narrowed := true }
def FnExactEngineNewUptoSaid : Prop := fnExactEngineNewUptoRow.holds Try.pinned (OpenSpec.upto fnExactEngineNewSpec)

/-- 'laws.FnExactEngineOk', WHERE WHAT IT READS IS OF BULK AT MOST 1048576: true; the input reads as it did. -/
def fnExactEngineOkUptoRow : OpenClaim := { program := "ytgpfpaifbgdleaa", sum := "76dab7796524b302801f085d5767443e7aeafdbaecce52205e057d9a4686c44e", func := "loop.example/g00609/laws.FnExactEngineOk", spec := "fnExactEngineOk", unfollowed := true, recurses := true, apart := false, narrowed := true }
def FnExactEngineOkUptoSaid : Prop := fnExactEngineOkUptoRow.holds Try.pinned (OpenSpec.upto fnExactEngineOkSpec)

/-- 'laws.FnExactSumsOf', WHERE WHAT IT READS IS OF BULK AT MOST 1048576: true; the input reads as it did. -/
def fnExactSumsOfUptoRow : OpenClaim := { program := "ytgpfpaifbgdleaa", sum := "76dab7796524b302801f085d5767443e7aeafdbaecce52205e057d9a4686c44e", func := "loop.example/g00609/laws.FnExactSumsOf", spec := "fnExactSumsOf", apart := false, narrowed := true }
def FnExactSumsOfUptoSaid : Prop := fnExactSumsOfUptoRow.holds Try.pinned (OpenSpec.upto fnExactSumsOfSpec)

/-- 'laws.FnExactResting', WHERE WHAT IT READS IS OF BULK AT MOST 1048576: true; the input reads as it did. -/
def fnExactRestingUptoRow : OpenClaim := { program := "ytgpfpaifbgdleaa", sum := "76dab7796524b302801f085d5767443e7aeafdbaecce52205e057d9a4686c44e", func := "loop.example/g00609/laws.FnExactResting", spec := "fnExactResting", unfollowed := true, recurses := true, apart := false, narrowed := true }
def FnExactRestingUptoSaid : Prop := fnExactRestingUptoRow.holds Try.pinned (OpenSpec.upto fnExactRestingSpec)

/-- 'laws.FnExactVolume', WHERE WHAT IT READS IS OF BULK AT MOST 1048576: true; the input reads as it did. -/
def fnExactVolumeUptoRow : OpenClaim := { program := "ytgpfpaifbgdleaa", sum := "76dab7796524b302801f085d5767443e7aeafdbaecce52205e057d9a4686c44e", func := "loop.example/g00609/laws.FnExactVolume", spec := "fnExactVolume", unfollowed := true, recurses := true, apart := false, narrowed := true }
def FnExactVolumeUptoSaid : Prop := fnExactVolumeUptoRow.holds Try.pinned (OpenSpec.upto fnExactVolumeSpec)

/-- 'laws.FnExactNet', WHERE WHAT IT READS IS OF BULK AT MOST 1048576: true; the input reads as it did. -/
def fnExactNetUptoRow : OpenClaim := { program := "ytgpfpaifbgdleaa", sum := "76dab7796524b302801f085d5767443e7aeafdbaecce52205e057d9a4686c44e", func := "loop.example/g00609/laws.FnExactNet", spec := "fnExactNet", unfollowed := true, recurses := true, apart := false, narrowed := true }
def FnExactNetUptoSaid : Prop := fnExactNetUptoRow.holds Try.pinned (OpenSpec.upto fnExactNetSpec)

end Rows
end Go.Proofs.Ytgpfpaifbgdleaa
