/-
  DERIVED. GIVEN WITH THE SEED: THE CARDS: each row of YtidcpijiklpfkaaDoorRows.lean that lists a variable, with what it lists TIED to the program's text (the seventh form; the later family's looks); each row that meets fmt, with fmt's text TOLD by the authors' own Lean function (tested against real Go, not proved from fmt's source: count such statements apart). THE CARD IS WHAT COUNTS. Prove the row's statement (the work); the ties are given (YtidcpijiklpfkaaDoorTie.lean); close each card by the builder's one call (the guide's Derived/Test/ToyasCard.lean, 'card_holds'). Laid BY PROGRAM, IN A SANDBOX (cutbox-door.mjs). By AI agents, Wed Nov 11 2026. No macro, syntax, notation, axiom, sorry.
-/
import Derived.Test.YtidcpijiklpfkaaDoorRows
import GoSem.ClaimSeven
namespace Go.Proofs.YtidcpijiklpfkaaDoor
namespace Rows

/-- THE TIED CARD OF 'laws.FnExactFieldsText'. -/
def fnExactFieldsTextCard : Claim7 := { stood := { row := fnExactFieldsTextRow, standIns := [], harness := (true, "f16c8b7b93ee1a8e012c1a45f04deace67ad86d83bb37919aba1c66baeace33b"), looks := true }, kinds := [], alts := [], laidByText := true, laidKinds := [.data, .data, .data], laidTests := true, laidLooks := .later }
def FnExactFieldsTextCardSaid : Prop := Claim7.holds Tryd.pinned (.plain (OpenSpec.ofChange fnExactFieldsTextSpec)) fnExactFieldsTextCard

/-- THE TIED CARD OF 'laws.FnExactReadFields'. -/
def fnExactReadFieldsCard : Claim7 := { stood := { row := fnExactReadFieldsRow, standIns := [], harness := (true, "f16c8b7b93ee1a8e012c1a45f04deace67ad86d83bb37919aba1c66baeace33b"), looks := true }, kinds := [], alts := [], laidByText := true, laidKinds := [.data, .data, .data, .sentinel, .sentinel], laidTests := true, laidLooks := .later }
def FnExactReadFieldsCardSaid : Prop := Claim7.holds Tryd.pinned (.plain (OpenSpec.ofChange fnExactReadFieldsSpec)) fnExactReadFieldsCard

/-- THE TIED CARD OF 'laws.FnExactFieldsOf'. -/
def fnExactFieldsOfCard : Claim7 := { stood := { row := fnExactFieldsOfRow, standIns := [], harness := (true, "f16c8b7b93ee1a8e012c1a45f04deace67ad86d83bb37919aba1c66baeace33b"), looks := true }, kinds := [], alts := [], laidByText := true, laidKinds := [.data, .data, .data, .data], laidTests := true, laidLooks := .later }
def FnExactFieldsOfCardSaid : Prop := Claim7.holds Tryd.pinned (.plain (OpenSpec.ofChange fnExactFieldsOfSpec)) fnExactFieldsOfCard

/-- THE TIED CARD OF 'laws.FnExactCmdOf'. -/
def fnExactCmdOfCard : Claim7 := { stood := { row := fnExactCmdOfRow, standIns := [], harness := (true, "f16c8b7b93ee1a8e012c1a45f04deace67ad86d83bb37919aba1c66baeace33b"), looks := true }, kinds := [], alts := [], laidByText := true, laidKinds := [.data, .data, .data, .sentinel, .sentinel], laidTests := true, laidLooks := .later }
def FnExactCmdOfCardSaid : Prop := Claim7.holds Tryd.pinned (.plain (OpenSpec.ofChange fnExactCmdOfSpec)) fnExactCmdOfCard

/-- THE TIED CARD OF 'laws.FnFields'. -/
def fnFieldsCard : Claim7 := { stood := { row := fnFieldsRow, standIns := [], harness := (true, "f16c8b7b93ee1a8e012c1a45f04deace67ad86d83bb37919aba1c66baeace33b"), looks := true }, kinds := [], alts := [], laidByText := true, laidKinds := [.data, .data, .data, .sentinel, .sentinel], laidTests := true, laidLooks := .later }
def FnFieldsCardSaid : Prop := Claim7.holds Tryd.pinned (.plain (OpenSpec.ofChange fnFieldsSpec)) fnFieldsCard

/-- THE TIED CARD OF 'laws.FnSumTurned'. -/
def fnSumTurnedCard : Claim7 := { stood := { row := fnSumTurnedRow, standIns := [], harness := (true, "f16c8b7b93ee1a8e012c1a45f04deace67ad86d83bb37919aba1c66baeace33b"), looks := true }, kinds := [], alts := [], laidByText := true, laidKinds := [.data, .data, .data, .sentinel, .sentinel], laidTests := true, laidLooks := .later }
def FnSumTurnedCardSaid : Prop := Claim7.holds Tryd.pinned (.plain (OpenSpec.ofChange fnSumTurnedSpec)) fnSumTurnedCard

/-- THE TIED CARD OF 'laws.FnCmdFields'. -/
def fnCmdFieldsCard : Claim7 := { stood := { row := fnCmdFieldsRow, standIns := [], harness := (true, "f16c8b7b93ee1a8e012c1a45f04deace67ad86d83bb37919aba1c66baeace33b"), looks := true }, kinds := [], alts := [], laidByText := true, laidKinds := [.data, .data, .data, .sentinel, .sentinel, .data], laidTests := true, laidLooks := .later }
def FnCmdFieldsCardSaid : Prop := Claim7.holds Tryd.pinned (.plain (OpenSpec.ofChange fnCmdFieldsSpec)) fnCmdFieldsCard

/-- THE SECOND FORM's CARD OF 'laws.FnExactFieldsText'. -/
def fnExactFieldsTextUptoCard : Claim7 := { stood := { row := fnExactFieldsTextUptoRow, standIns := [], harness := (true, "f16c8b7b93ee1a8e012c1a45f04deace67ad86d83bb37919aba1c66baeace33b"), looks := true }, kinds := [], alts := [], laidByText := true, laidKinds := [.data, .data, .data], laidTests := true, laidLooks := .later }
def FnExactFieldsTextUptoCardSaid : Prop := Claim7.holds Tryd.pinned (.plain (OpenSpec.upto fnExactFieldsTextSpec)) fnExactFieldsTextUptoCard

/-- THE SECOND FORM's CARD OF 'laws.FnExactReadFields'. -/
def fnExactReadFieldsUptoCard : Claim7 := { stood := { row := fnExactReadFieldsUptoRow, standIns := [], harness := (true, "f16c8b7b93ee1a8e012c1a45f04deace67ad86d83bb37919aba1c66baeace33b"), looks := true }, kinds := [], alts := [], laidByText := true, laidKinds := [.data, .data, .data, .sentinel, .sentinel], laidTests := true, laidLooks := .later }
def FnExactReadFieldsUptoCardSaid : Prop := Claim7.holds Tryd.pinned (.plain (OpenSpec.upto fnExactReadFieldsSpec)) fnExactReadFieldsUptoCard

/-- THE SECOND FORM's CARD OF 'laws.FnExactFieldsOf'. -/
def fnExactFieldsOfUptoCard : Claim7 := { stood := { row := fnExactFieldsOfUptoRow, standIns := [], harness := (true, "f16c8b7b93ee1a8e012c1a45f04deace67ad86d83bb37919aba1c66baeace33b"), looks := true }, kinds := [], alts := [], laidByText := true, laidKinds := [.data, .data, .data, .data], laidTests := true, laidLooks := .later }
def FnExactFieldsOfUptoCardSaid : Prop := Claim7.holds Tryd.pinned (.plain (OpenSpec.upto fnExactFieldsOfSpec)) fnExactFieldsOfUptoCard

/-- THE SECOND FORM's CARD OF 'laws.FnExactCmdOf'. -/
def fnExactCmdOfUptoCard : Claim7 := { stood := { row := fnExactCmdOfUptoRow, standIns := [], harness := (true, "f16c8b7b93ee1a8e012c1a45f04deace67ad86d83bb37919aba1c66baeace33b"), looks := true }, kinds := [], alts := [], laidByText := true, laidKinds := [.data, .data, .data, .sentinel, .sentinel], laidTests := true, laidLooks := .later }
def FnExactCmdOfUptoCardSaid : Prop := Claim7.holds Tryd.pinned (.plain (OpenSpec.upto fnExactCmdOfSpec)) fnExactCmdOfUptoCard

/-- THE SECOND FORM's CARD OF 'laws.FnFields'. -/
def fnFieldsUptoCard : Claim7 := { stood := { row := fnFieldsUptoRow, standIns := [], harness := (true, "f16c8b7b93ee1a8e012c1a45f04deace67ad86d83bb37919aba1c66baeace33b"), looks := true }, kinds := [], alts := [], laidByText := true, laidKinds := [.data, .data, .data, .sentinel, .sentinel], laidTests := true, laidLooks := .later }
def FnFieldsUptoCardSaid : Prop := Claim7.holds Tryd.pinned (.plain (OpenSpec.upto fnFieldsSpec)) fnFieldsUptoCard

/-- THE SECOND FORM's CARD OF 'laws.FnSumTurned'. -/
def fnSumTurnedUptoCard : Claim7 := { stood := { row := fnSumTurnedUptoRow, standIns := [], harness := (true, "f16c8b7b93ee1a8e012c1a45f04deace67ad86d83bb37919aba1c66baeace33b"), looks := true }, kinds := [], alts := [], laidByText := true, laidKinds := [.data, .data, .data, .sentinel, .sentinel], laidTests := true, laidLooks := .later }
def FnSumTurnedUptoCardSaid : Prop := Claim7.holds Tryd.pinned (.plain (OpenSpec.upto fnSumTurnedSpec)) fnSumTurnedUptoCard

/-- THE SECOND FORM's CARD OF 'laws.FnCmdFields'. -/
def fnCmdFieldsUptoCard : Claim7 := { stood := { row := fnCmdFieldsUptoRow, standIns := [], harness := (true, "f16c8b7b93ee1a8e012c1a45f04deace67ad86d83bb37919aba1c66baeace33b"), looks := true }, kinds := [], alts := [], laidByText := true, laidKinds := [.data, .data, .data, .sentinel, .sentinel, .data], laidTests := true, laidLooks := .later }
def FnCmdFieldsUptoCardSaid : Prop := Claim7.holds Tryd.pinned (.plain (OpenSpec.upto fnCmdFieldsSpec)) fnCmdFieldsUptoCard
end Rows
end Go.Proofs.YtidcpijiklpfkaaDoor
