/-
  DERIVED. GIVEN WITH THE SEED: THE CARDS: each row of YtbpbpihboenbeaaDoorRows.lean that lists a variable, with what it lists TIED to the program's text (the seventh form; the later family's looks); each row that meets fmt, with fmt's text TOLD by the authors' own Lean function (tested against real Go, not proved from fmt's source: count such statements apart). THE CARD IS WHAT COUNTS. Prove the row's statement (the work); the ties are given (YtbpbpihboenbeaaDoorTie.lean); close each card by the builder's one call (the guide's Derived/Test/ToyasCard.lean, 'card_holds'). Laid BY PROGRAM, IN A SANDBOX (cutbox-door.mjs). By AI agents, Wed Nov 11 2026. No macro, syntax, notation, axiom, sorry.
-/
import Derived.Test.YtbpbpihboenbeaaDoorRows
import GoSem.ClaimSeven
namespace Go.Proofs.YtbpbpihboenbeaaDoor
namespace Rows

/-- THE TIED CARD OF 'posternlaw.IrCodes'. -/
def irCodesCard : Claim7 := { stood := { row := irCodesRow, standIns := [], harness := (true, "51f6173fe864aac485a00c582a451006b22cbba944b42bea9122422ca2ad134f"), looks := false }, kinds := [], alts := [], laidByText := true, laidKinds := [.data], laidTests := true, laidLooks := .later }
def IrCodesCardSaid : Prop := Claim7.holds Tryd.pinned (.plain (OpenSpec.ofChange irCodesSpec)) irCodesCard

/-- THE TIED CARD OF 'posternlaw.IrChecks'. -/
def irChecksCard : Claim7 := { stood := { row := irChecksRow, standIns := [], harness := (true, "51f6173fe864aac485a00c582a451006b22cbba944b42bea9122422ca2ad134f"), looks := false }, kinds := [], alts := [], laidByText := true, laidKinds := [.data], laidTests := true, laidLooks := .later }
def IrChecksCardSaid : Prop := Claim7.holds Tryd.pinned (.plain (OpenSpec.ofChange irChecksSpec)) irChecksCard

/-- THE TIED CARD OF 'posternlaw.SsaChecks'. -/
def ssaChecksCard : Claim7 := { stood := { row := ssaChecksRow, standIns := [], harness := (true, "51f6173fe864aac485a00c582a451006b22cbba944b42bea9122422ca2ad134f"), looks := false }, kinds := [], alts := [], laidByText := true, laidKinds := [.data], laidTests := true, laidLooks := .later }
def SsaChecksCardSaid : Prop := Claim7.holds Tryd.pinned (.plain (OpenSpec.ofChange ssaChecksSpec)) ssaChecksCard

/-- THE SECOND FORM's CARD OF 'posternlaw.IrCodes'. -/
def irCodesUptoCard : Claim7 := { stood := { row := irCodesUptoRow, standIns := [], harness := (true, "51f6173fe864aac485a00c582a451006b22cbba944b42bea9122422ca2ad134f"), looks := false }, kinds := [], alts := [], laidByText := true, laidKinds := [.data], laidTests := true, laidLooks := .later }
def IrCodesUptoCardSaid : Prop := Claim7.holds Tryd.pinned (.plain (OpenSpec.upto irCodesSpec)) irCodesUptoCard

/-- THE SECOND FORM's CARD OF 'posternlaw.IrChecks'. -/
def irChecksUptoCard : Claim7 := { stood := { row := irChecksUptoRow, standIns := [], harness := (true, "51f6173fe864aac485a00c582a451006b22cbba944b42bea9122422ca2ad134f"), looks := false }, kinds := [], alts := [], laidByText := true, laidKinds := [.data], laidTests := true, laidLooks := .later }
def IrChecksUptoCardSaid : Prop := Claim7.holds Tryd.pinned (.plain (OpenSpec.upto irChecksSpec)) irChecksUptoCard

/-- THE SECOND FORM's CARD OF 'posternlaw.SsaChecks'. -/
def ssaChecksUptoCard : Claim7 := { stood := { row := ssaChecksUptoRow, standIns := [], harness := (true, "51f6173fe864aac485a00c582a451006b22cbba944b42bea9122422ca2ad134f"), looks := false }, kinds := [], alts := [], laidByText := true, laidKinds := [.data], laidTests := true, laidLooks := .later }
def SsaChecksUptoCardSaid : Prop := Claim7.holds Tryd.pinned (.plain (OpenSpec.upto ssaChecksSpec)) ssaChecksUptoCard
end Rows
end Go.Proofs.YtbpbpihboenbeaaDoor
