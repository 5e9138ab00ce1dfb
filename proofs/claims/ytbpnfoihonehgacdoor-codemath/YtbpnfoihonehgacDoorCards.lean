/-
  DERIVED. GIVEN WITH THE SEED: THE CARDS: each row of YtbpnfoihonehgacDoorRows.lean that lists a variable, with what it lists TIED to the program's text (the seventh form; the later family's looks); each row that meets fmt, with fmt's text TOLD by the authors' own Lean function (tested against real Go, not proved from fmt's source: count such statements apart). THE CARD IS WHAT COUNTS. Prove the row's statement (the work); the ties are given (YtbpnfoihonehgacDoorTie.lean); close each card by the builder's one call (the guide's Derived/Test/ToyasCard.lean, 'card_holds'). Laid BY PROGRAM, IN A SANDBOX (cutbox-door.mjs). By AI agents, Wed Nov 11 2026. No macro, syntax, notation, axiom, sorry.
-/
import Derived.Test.YtbpnfoihonehgacDoorRows
import GoSem.ClaimSeven
namespace Go.Proofs.YtbpnfoihonehgacDoor
namespace Rows

/-- THE TIED CARD OF 'posternlaw.IrCodes'. -/
def irCodesCard : Claim7 := { stood := { row := irCodesRow, standIns := [], harness := (true, "5911fe649ab96cf4a49ae51a66661d64c498888a57d62a29c6dcd9d2ce8d446b"), looks := true }, kinds := [], alts := [], laidByText := true, laidKinds := [.data], laidTests := true, laidLooks := .later }
def IrCodesCardSaid : Prop := Claim7.holds Tryd.pinned (.plain (OpenSpec.ofChange irCodesSpec)) irCodesCard

/-- THE TIED CARD OF 'posternlaw.IrChecks'. -/
def irChecksCard : Claim7 := { stood := { row := irChecksRow, standIns := [], harness := (true, "5911fe649ab96cf4a49ae51a66661d64c498888a57d62a29c6dcd9d2ce8d446b"), looks := true }, kinds := [], alts := [], laidByText := true, laidKinds := [.data], laidTests := true, laidLooks := .later }
def IrChecksCardSaid : Prop := Claim7.holds Tryd.pinned (.plain (OpenSpec.ofChange irChecksSpec)) irChecksCard

/-- THE TIED CARD OF 'posternlaw.IrRuns'. -/
def irRunsCard : Claim7 := { stood := { row := irRunsRow, standIns := [], harness := (true, "5911fe649ab96cf4a49ae51a66661d64c498888a57d62a29c6dcd9d2ce8d446b"), looks := true }, kinds := [], alts := [], laidByText := true, laidKinds := [.data, .data, .data, .data], laidTests := true, laidLooks := .later }
def IrRunsCardSaid : Prop := Claim7.holds Tryd.pinned (.plain (OpenSpec.ofChange irRunsSpec)) irRunsCard

/-- THE TIED CARD OF 'posternkeep.CodeMath'. -/
def codeMathCard : Claim7 := { stood := { row := codeMathRow, standIns := [], harness := (true, "5911fe649ab96cf4a49ae51a66661d64c498888a57d62a29c6dcd9d2ce8d446b"), looks := true }, kinds := [], alts := [], laidByText := true, laidKinds := [.data, .data, .data, .data], laidTests := true, laidLooks := .later }
def CodeMathCardSaid : Prop := Claim7.holds Tryd.pinned (.plain (OpenSpec.ofChange codeMathSpec)) codeMathCard

/-- THE TIED CARD OF 'posternkeep.CodeParts'. -/
def codePartsCard : Claim7 := { stood := { row := codePartsRow, standIns := [], harness := (true, "5911fe649ab96cf4a49ae51a66661d64c498888a57d62a29c6dcd9d2ce8d446b"), looks := true }, kinds := [], alts := [], laidByText := true, laidKinds := [.data, .data, .data, .sentinel, .sentinel, .data], laidTests := true, laidLooks := .later }
def CodePartsCardSaid : Prop := Claim7.holds Tryd.pinned (.plain (OpenSpec.ofChange codePartsSpec)) codePartsCard

/-- THE SECOND FORM's CARD OF 'posternlaw.IrCodes'. -/
def irCodesUptoCard : Claim7 := { stood := { row := irCodesUptoRow, standIns := [], harness := (true, "5911fe649ab96cf4a49ae51a66661d64c498888a57d62a29c6dcd9d2ce8d446b"), looks := true }, kinds := [], alts := [], laidByText := true, laidKinds := [.data], laidTests := true, laidLooks := .later }
def IrCodesUptoCardSaid : Prop := Claim7.holds Tryd.pinned (.plain (OpenSpec.upto irCodesSpec)) irCodesUptoCard

/-- THE SECOND FORM's CARD OF 'posternlaw.IrChecks'. -/
def irChecksUptoCard : Claim7 := { stood := { row := irChecksUptoRow, standIns := [], harness := (true, "5911fe649ab96cf4a49ae51a66661d64c498888a57d62a29c6dcd9d2ce8d446b"), looks := true }, kinds := [], alts := [], laidByText := true, laidKinds := [.data], laidTests := true, laidLooks := .later }
def IrChecksUptoCardSaid : Prop := Claim7.holds Tryd.pinned (.plain (OpenSpec.upto irChecksSpec)) irChecksUptoCard

/-- THE SECOND FORM's CARD OF 'posternlaw.IrRuns'. -/
def irRunsUptoCard : Claim7 := { stood := { row := irRunsUptoRow, standIns := [], harness := (true, "5911fe649ab96cf4a49ae51a66661d64c498888a57d62a29c6dcd9d2ce8d446b"), looks := true }, kinds := [], alts := [], laidByText := true, laidKinds := [.data, .data, .data, .data], laidTests := true, laidLooks := .later }
def IrRunsUptoCardSaid : Prop := Claim7.holds Tryd.pinned (.plain (OpenSpec.upto irRunsSpec)) irRunsUptoCard

/-- THE SECOND FORM's CARD OF 'posternkeep.CodeMath'. -/
def codeMathUptoCard : Claim7 := { stood := { row := codeMathUptoRow, standIns := [], harness := (true, "5911fe649ab96cf4a49ae51a66661d64c498888a57d62a29c6dcd9d2ce8d446b"), looks := true }, kinds := [], alts := [], laidByText := true, laidKinds := [.data, .data, .data, .data], laidTests := true, laidLooks := .later }
def CodeMathUptoCardSaid : Prop := Claim7.holds Tryd.pinned (.plain (OpenSpec.upto codeMathSpec)) codeMathUptoCard

/-- THE SECOND FORM's CARD OF 'posternkeep.CodeParts'. -/
def codePartsUptoCard : Claim7 := { stood := { row := codePartsUptoRow, standIns := [], harness := (true, "5911fe649ab96cf4a49ae51a66661d64c498888a57d62a29c6dcd9d2ce8d446b"), looks := true }, kinds := [], alts := [], laidByText := true, laidKinds := [.data, .data, .data, .sentinel, .sentinel, .data], laidTests := true, laidLooks := .later }
def CodePartsUptoCardSaid : Prop := Claim7.holds Tryd.pinned (.plain (OpenSpec.upto codePartsSpec)) codePartsUptoCard
end Rows
end Go.Proofs.YtbpnfoihonehgacDoor
