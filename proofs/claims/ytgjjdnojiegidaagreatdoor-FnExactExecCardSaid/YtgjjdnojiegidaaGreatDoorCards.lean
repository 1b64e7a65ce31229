/-
  DERIVED. GIVEN WITH THE SEED: THE CARDS: each row of YtgjjdnojiegidaaGreatDoorRows.lean that lists a variable, with what it lists TIED to the program's text (the seventh form; the later family's looks); each row that meets fmt, with fmt's text TOLD by the authors' own Lean function (tested against real Go, not proved from fmt's source: count such statements apart). THE CARD IS WHAT COUNTS. Prove the row's statement (the work); the ties are given (YtgjjdnojiegidaaGreatDoorTie.lean); close each card by the builder's one call (the guide's Derived/Test/ToyasCard.lean, 'card_holds'). Laid BY PROGRAM, IN A SANDBOX (cutbox-door.mjs). By AI agents, Wed Nov 11 2026. No macro, syntax, notation, axiom, sorry.
-/
import Derived.Test.YtgjjdnojiegidaaGreatDoorRows
import GoSem.ClaimSeven
namespace Go.Proofs.YtgjjdnojiegidaaGreatDoor
namespace Rows

/-- THE TIED CARD OF 'laws.FnExactExec'. -/
def fnExactExecCard : Claim7 := { stood := { row := fnExactExecRow, standIns := [], harness := (true, "b175330ec89ec42f4c91c8abb77d3ef9f9c9b37ff3e769058eae71f7670ab6b3"), looks := true }, kinds := [], alts := [], laidByText := true, laidKinds := [.handle, .sentinel, .sentinel, .sentinel, .sentinel, .sentinel, .sentinel, .sentinel], laidTests := true, laidLooks := .later }
def FnExactExecCardSaid : Prop := Claim7.holds Tryz.pinned (.plain (OpenSpec.ofChange fnExactExecSpec)) fnExactExecCard

/-- THE SECOND FORM's CARD OF 'laws.FnExactExec'. -/
def fnExactExecUptoCard : Claim7 := { stood := { row := fnExactExecUptoRow, standIns := [], harness := (true, "b175330ec89ec42f4c91c8abb77d3ef9f9c9b37ff3e769058eae71f7670ab6b3"), looks := true }, kinds := [], alts := [], laidByText := true, laidKinds := [.handle, .sentinel, .sentinel, .sentinel, .sentinel, .sentinel, .sentinel, .sentinel], laidTests := true, laidLooks := .later }
def FnExactExecUptoCardSaid : Prop := Claim7.holds Tryz.pinned (.plain (OpenSpec.upto fnExactExecSpec)) fnExactExecUptoCard
end Rows
end Go.Proofs.YtgjjdnojiegidaaGreatDoor
