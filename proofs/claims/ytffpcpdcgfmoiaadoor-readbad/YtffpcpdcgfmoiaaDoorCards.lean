/-
  DERIVED. GIVEN WITH THE SEED: THE CARDS: each row of YtffpcpdcgfmoiaaDoorRows.lean that lists a variable, with what it lists TIED to the program's text (the seventh form; the later family's looks); each row that meets fmt, with fmt's text TOLD by the authors' own Lean function (tested against real Go, not proved from fmt's source: count such statements apart). THE CARD IS WHAT COUNTS. Prove the row's statement (the work); the ties are given (YtffpcpdcgfmoiaaDoorTie.lean); close each card by the builder's one call (the guide's Derived/Test/ToyasCard.lean, 'card_holds'). Laid BY PROGRAM, IN A SANDBOX (cutbox-door.mjs). By AI agents, Wed Nov 11 2026. No macro, syntax, notation, axiom, sorry.
-/
import Derived.Test.YtffpcpdcgfmoiaaDoorRows
import GoSem.ClaimSeven
namespace Go.Proofs.YtffpcpdcgfmoiaaDoor
namespace Rows

/-- THE TIED CARD OF 'posternlaw.ReadReads'. -/
def readReadsCard : Claim7 := { stood := { row := readReadsRow, standIns := [], harness := (true, "a0cc421e9de3eaf86113ad938983631edf9c795616647b9eb94e89a86d27d09c"), looks := false }, kinds := [], alts := [], laidByText := true, laidKinds := [.data, .data, .data, .data], laidTests := true, laidLooks := .later }
def ReadReadsCardSaid : Prop := Claim7.holds Tryd.pinned (.plain (OpenSpec.ofChange readReadsSpec)) readReadsCard

/-- THE TIED CARD OF 'posternkeep.ReadTexts'. -/
def readTextsCard : Claim7 := { stood := { row := readTextsRow, standIns := [], harness := (true, "a0cc421e9de3eaf86113ad938983631edf9c795616647b9eb94e89a86d27d09c"), looks := false }, kinds := [], alts := [], laidByText := true, laidKinds := [.data, .data, .data, .data], laidTests := true, laidLooks := .later }
def ReadTextsCardSaid : Prop := Claim7.holds Tryd.pinned (.plain (OpenSpec.ofChange readTextsSpec)) readTextsCard

/-- THE TIED CARD OF 'posternkeep.ReadBad'. -/
def readBadCard : Claim7 := { stood := { row := readBadRow, standIns := [], harness := (true, "a0cc421e9de3eaf86113ad938983631edf9c795616647b9eb94e89a86d27d09c"), looks := false }, kinds := [], alts := [], laidByText := true, laidKinds := [.data, .data, .data, .data], laidTests := true, laidLooks := .later }
def ReadBadCardSaid : Prop := Claim7.holds Tryd.pinned (.plain (OpenSpec.ofChange readBadSpec)) readBadCard

/-- THE SECOND FORM's CARD OF 'posternlaw.ReadReads'. -/
def readReadsUptoCard : Claim7 := { stood := { row := readReadsUptoRow, standIns := [], harness := (true, "a0cc421e9de3eaf86113ad938983631edf9c795616647b9eb94e89a86d27d09c"), looks := false }, kinds := [], alts := [], laidByText := true, laidKinds := [.data, .data, .data, .data], laidTests := true, laidLooks := .later }
def ReadReadsUptoCardSaid : Prop := Claim7.holds Tryd.pinned (.plain (OpenSpec.upto readReadsSpec)) readReadsUptoCard

/-- THE SECOND FORM's CARD OF 'posternkeep.ReadTexts'. -/
def readTextsUptoCard : Claim7 := { stood := { row := readTextsUptoRow, standIns := [], harness := (true, "a0cc421e9de3eaf86113ad938983631edf9c795616647b9eb94e89a86d27d09c"), looks := false }, kinds := [], alts := [], laidByText := true, laidKinds := [.data, .data, .data, .data], laidTests := true, laidLooks := .later }
def ReadTextsUptoCardSaid : Prop := Claim7.holds Tryd.pinned (.plain (OpenSpec.upto readTextsSpec)) readTextsUptoCard

/-- THE SECOND FORM's CARD OF 'posternkeep.ReadBad'. -/
def readBadUptoCard : Claim7 := { stood := { row := readBadUptoRow, standIns := [], harness := (true, "a0cc421e9de3eaf86113ad938983631edf9c795616647b9eb94e89a86d27d09c"), looks := false }, kinds := [], alts := [], laidByText := true, laidKinds := [.data, .data, .data, .data], laidTests := true, laidLooks := .later }
def ReadBadUptoCardSaid : Prop := Claim7.holds Tryd.pinned (.plain (OpenSpec.upto readBadSpec)) readBadUptoCard
end Rows
end Go.Proofs.YtffpcpdcgfmoiaaDoor
