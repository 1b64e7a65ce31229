/-
  No cell of these rows narrows 'for every input' (looked for: loops, veiled, ifaces, maps, wideKeys, modest, calm, conditions, laid).
  DERIVED. THE GIVEN ROWS OF THIS SEAT. 5 by the template 'for every input the law returns true; each argument reads behind the call as it read before'; 0 by the template 'total and deterministic' (their statements: YtfodkefaflpicabTotals.lean).
  GIVEN WITH THE SEED: the statements are not yours to turn. If you find one false, say at which input.
  Laid BY PROGRAM, IN A SANDBOX (cutbox-rows.mjs): the forced cells as the released guide's own fill.sh prints them over the translation 8e757845e890e009… (all of the seat's roots in one cut). By AI agents, Wed Nov 11 2026. No macro, syntax, notation, axiom, sorry.
-/
import Derived.Test.YtfodkefaflpicabChecked
import GoSem.Claim
import GoSem.ClaimJoined
import GoSem.ClaimMapViews
import Derived.JoinedTies
import Derived.KernelRfl
namespace Go.Proofs.Ytfodkefaflpicab
/- THE CELL 'sum', in the pinned program and in every row, IS THE sha256 OF THE DUMP (.gsa) THAT YtfodkefaflpicabProg.lean LOADS. Nothing in Lean hashes anything: it is a label: what it is worth is what the hold of that sum in a sandbox is worth. -/
noncomputable def Try.pinned : Pinned := { name := "ytfodkefaflpicab", sum := "8e757845e890e009ef3c6c4fbecff3fc4ab89398ccd7d8b9b74147e69d9799e3", checked := Try.checked }
namespace Rows
def none {H : Type} : Left H := { results := [], args := [] }

/-- 'laws.FnAuction': WHATEVER THE INPUT: true; the input reads as it did. -/
def fnAuctionSpec : ChangeSpec := { name := "fnAuction", fn := fun _ => fun
  | [d] => { results := [.lit (.bool true)], args := [d] }
  | _ => none }
def fnAuctionRow : OpenClaim := { program := "ytfodkefaflpicab", sum := "8e757845e890e009ef3c6c4fbecff3fc4ab89398ccd7d8b9b74147e69d9799e3", func := "loop.example/g00609/laws.FnAuction", spec := "fnAuction", unfollowed := true, recurses := true, apart := false }
def FnAuctionSaid : Prop := fnAuctionRow.holds Try.pinned (OpenSpec.ofChange fnAuctionSpec)

/-- ITS FALSE NEIGHBOUR: 'it returns false'. Refute it at one input. -/
def fnAuctionWrong : ChangeSpec := { name := "fnAuction", fn := fun _ => fun
  | [d] => { results := [.lit (.bool false)], args := [d] }
  | _ => none }
def FnAuctionWrongFalsely : Prop := fnAuctionRow.holds Try.pinned (OpenSpec.ofChange fnAuctionWrong)

/-- 'laws.FnUncrossed': WHATEVER THE INPUT: true; the input reads as it did. -/
def fnUncrossedSpec : ChangeSpec := { name := "fnUncrossed", fn := fun _ => fun
  | [d] => { results := [.lit (.bool true)], args := [d] }
  | _ => none }
def fnUncrossedRow : OpenClaim := { program := "ytfodkefaflpicab", sum := "8e757845e890e009ef3c6c4fbecff3fc4ab89398ccd7d8b9b74147e69d9799e3", func := "loop.example/g00609/laws.FnUncrossed", spec := "fnUncrossed", inPlace := ["slices.overlaps[*loop.example/g00609/impl.Order]"], unfollowed := true, recurses := true, apart := false }
def FnUncrossedSaid : Prop := fnUncrossedRow.holds Try.pinned (OpenSpec.ofChange fnUncrossedSpec)

/-- ITS FALSE NEIGHBOUR: 'it returns false'. Refute it at one input. -/
def fnUncrossedWrong : ChangeSpec := { name := "fnUncrossed", fn := fun _ => fun
  | [d] => { results := [.lit (.bool false)], args := [d] }
  | _ => none }
def FnUncrossedWrongFalsely : Prop := fnUncrossedRow.holds Try.pinned (OpenSpec.ofChange fnUncrossedWrong)

/-- 'laws.FnNoWorse': WHATEVER THE INPUT: true; the input reads as it did. -/
def fnNoWorseSpec : ChangeSpec := { name := "fnNoWorse", fn := fun _ => fun
  | [d] => { results := [.lit (.bool true)], args := [d] }
  | _ => none }
def fnNoWorseRow : OpenClaim := { program := "ytfodkefaflpicab", sum := "8e757845e890e009ef3c6c4fbecff3fc4ab89398ccd7d8b9b74147e69d9799e3", func := "loop.example/g00609/laws.FnNoWorse", spec := "fnNoWorse", inPlace := ["slices.overlaps[*loop.example/g00609/impl.Order]"], unfollowed := true, recurses := true, apart := false }
def FnNoWorseSaid : Prop := fnNoWorseRow.holds Try.pinned (OpenSpec.ofChange fnNoWorseSpec)

/-- ITS FALSE NEIGHBOUR: 'it returns false'. Refute it at one input. -/
def fnNoWorseWrong : ChangeSpec := { name := "fnNoWorse", fn := fun _ => fun
  | [d] => { results := [.lit (.bool false)], args := [d] }
  | _ => none }
def FnNoWorseWrongFalsely : Prop := fnNoWorseRow.holds Try.pinned (OpenSpec.ofChange fnNoWorseWrong)

/-- 'laws.FnOpen': WHATEVER THE INPUT: true; the input reads as it did. -/
def fnOpenSpec : ChangeSpec := { name := "fnOpen", fn := fun _ => fun
  | [d] => { results := [.lit (.bool true)], args := [d] }
  | _ => none }
def fnOpenRow : OpenClaim := { program := "ytfodkefaflpicab", sum := "8e757845e890e009ef3c6c4fbecff3fc4ab89398ccd7d8b9b74147e69d9799e3", func := "loop.example/g00609/laws.FnOpen", spec := "fnOpen", unfollowed := true, recurses := true, apart := false }
def FnOpenSaid : Prop := fnOpenRow.holds Try.pinned (OpenSpec.ofChange fnOpenSpec)

/-- ITS FALSE NEIGHBOUR: 'it returns false'. Refute it at one input. -/
def fnOpenWrong : ChangeSpec := { name := "fnOpen", fn := fun _ => fun
  | [d] => { results := [.lit (.bool false)], args := [d] }
  | _ => none }
def FnOpenWrongFalsely : Prop := fnOpenRow.holds Try.pinned (OpenSpec.ofChange fnOpenWrong)

/-- 'laws.FnAllowed': WHATEVER THE INPUT: true; the input reads as it did. -/
def fnAllowedSpec : ChangeSpec := { name := "fnAllowed", fn := fun _ => fun
  | [d] => { results := [.lit (.bool true)], args := [d] }
  | _ => none }
def fnAllowedRow : OpenClaim := { program := "ytfodkefaflpicab", sum := "8e757845e890e009ef3c6c4fbecff3fc4ab89398ccd7d8b9b74147e69d9799e3", func := "loop.example/g00609/laws.FnAllowed", spec := "fnAllowed", unfollowed := true, recurses := true, apart := false }
def FnAllowedSaid : Prop := fnAllowedRow.holds Try.pinned (OpenSpec.ofChange fnAllowedSpec)

/-- ITS FALSE NEIGHBOUR: 'it returns false'. Refute it at one input. -/
def fnAllowedWrong : ChangeSpec := { name := "fnAllowed", fn := fun _ => fun
  | [d] => { results := [.lit (.bool false)], args := [d] }
  | _ => none }
def FnAllowedWrongFalsely : Prop := fnAllowedRow.holds Try.pinned (OpenSpec.ofChange fnAllowedWrong)

/- THE SECOND FORM. 'bulk': how many values and letters a reading holds, each counted each time it is reached (what is shared counts as often as it is met; a slice's spare places count too). A statement '..UptoSaid' is the law's where the arguments, and the package variables that the reading takes, are together of bulk at most 1048576: NARROWER than '..Said'. Prove '..Said' where nothing that the law and all that it calls make is longer than what came in: it says more and counts as full. Else prove '..UptoSaid'. A law counts once. -/
mutual
def uptoBulk {H : Type} : DataW H → Nat
  | .lit (.string bytes) => bytes.length + 1
  | .lit _ => 1
  | .nil => 1
  | .ptr d => uptoBulk d + 1
  | .slice elems spare => uptoBulkAll elems + uptoBulkAll spare + 1
  | .agg parts => uptoBulkAll parts + 1
  | .iface _ d => uptoBulk d + 1
  | .map entries => uptoBulkEntries entries + 1
  | .held _ => 1
def uptoBulkAll {H : Type} : List (DataW H) → Nat
  | [] => 0
  | d :: r => uptoBulk d + uptoBulkAll r
def uptoBulkEntries {H : Type} : List (Lit × DataW H) → Nat
  | [] => 0
  | x :: r => uptoBulkEntry x + uptoBulkEntries r
def uptoBulkEntry {H : Type} : Lit × DataW H → Nat
  | (.string bytes, d) => bytes.length + uptoBulk d + 1
  | (_, d) => uptoBulk d + 1
 end
def uptoSmall : (H : Type) → List (DataW H) → Bool := fun _ ds => decide (uptoBulkAll ds ≤ 1048576)
def OpenSpec.upto (s : _root_.Go.ChangeSpec) : _root_.Go.OpenSpec := { _root_.Go.OpenSpec.ofChange s with cond := some uptoSmall }

/-- 'laws.FnAuction', WHERE WHAT IT READS IS OF BULK AT MOST 1048576: true; the input reads as it did. -/
def fnAuctionUptoRow : OpenClaim := { program := "ytfodkefaflpicab", sum := "8e757845e890e009ef3c6c4fbecff3fc4ab89398ccd7d8b9b74147e69d9799e3", func := "loop.example/g00609/laws.FnAuction", spec := "fnAuction", unfollowed := true, recurses := true, apart := false, narrowed := true }
def FnAuctionUptoSaid : Prop := fnAuctionUptoRow.holds Try.pinned (OpenSpec.upto fnAuctionSpec)

/-- 'laws.FnUncrossed', WHERE WHAT IT READS IS OF BULK AT MOST 1048576: true; the input reads as it did. -/
def fnUncrossedUptoRow : OpenClaim := { program := "ytfodkefaflpicab", sum := "8e757845e890e009ef3c6c4fbecff3fc4ab89398ccd7d8b9b74147e69d9799e3", func := "loop.example/g00609/laws.FnUncrossed", spec := "fnUncrossed", inPlace := ["slices.overlaps[*loop.example/g00609/impl.Order]"], unfollowed := true, recurses := true, apart := false, narrowed := true }
def FnUncrossedUptoSaid : Prop := fnUncrossedUptoRow.holds Try.pinned (OpenSpec.upto fnUncrossedSpec)

/-- 'laws.FnNoWorse', WHERE WHAT IT READS IS OF BULK AT MOST 1048576: true; the input reads as it did. -/
def fnNoWorseUptoRow : OpenClaim := { program := "ytfodkefaflpicab", sum := "8e757845e890e009ef3c6c4fbecff3fc4ab89398ccd7d8b9b74147e69d9799e3", func := "loop.example/g00609/laws.FnNoWorse", spec := "fnNoWorse", inPlace := ["slices.overlaps[*loop.example/g00609/impl.Order]"], unfollowed := true, recurses := true, apart := false, narrowed := true }
def FnNoWorseUptoSaid : Prop := fnNoWorseUptoRow.holds Try.pinned (OpenSpec.upto fnNoWorseSpec)

/-- 'laws.FnOpen', WHERE WHAT IT READS IS OF BULK AT MOST 1048576: true; the input reads as it did. -/
def fnOpenUptoRow : OpenClaim := { program := "ytfodkefaflpicab", sum := "8e757845e890e009ef3c6c4fbecff3fc4ab89398ccd7d8b9b74147e69d9799e3", func := "loop.example/g00609/laws.FnOpen", spec := "fnOpen", unfollowed := true, recurses := true, apart := false, narrowed := true }
def FnOpenUptoSaid : Prop := fnOpenUptoRow.holds Try.pinned (OpenSpec.upto fnOpenSpec)

/-- 'laws.FnAllowed', WHERE WHAT IT READS IS OF BULK AT MOST 1048576: true; the input reads as it did. -/
def fnAllowedUptoRow : OpenClaim := { program := "ytfodkefaflpicab", sum := "8e757845e890e009ef3c6c4fbecff3fc4ab89398ccd7d8b9b74147e69d9799e3", func := "loop.example/g00609/laws.FnAllowed", spec := "fnAllowed", unfollowed := true, recurses := true, apart := false, narrowed := true }
def FnAllowedUptoSaid : Prop := fnAllowedUptoRow.holds Try.pinned (OpenSpec.upto fnAllowedSpec)

end Rows
end Go.Proofs.Ytfodkefaflpicab
