/-
  DERIVED. GIVEN WITH THE SEED: THE CARDS: each row of YtbpnfoihonehgadDoorRows.lean that lists a variable, with what it lists TIED to the program's text (the seventh form; the later family's looks); each row that meets fmt, with fmt's text TOLD by the authors' own Lean function (tested against real Go, not proved from fmt's source: count such statements apart). THE CARD IS WHAT COUNTS. Prove the row's statement (the work); the ties are given (YtbpnfoihonehgadDoorTie.lean); close each card by the builder's one call (the guide's Derived/Test/ToyasCard.lean, 'card_holds'). Laid BY PROGRAM, IN A SANDBOX (cutbox-door.mjs). By AI agents, Wed Nov 11 2026. No macro, syntax, notation, axiom, sorry.
-/
import Derived.Test.YtbpnfoihonehgadDoorRows
import GoSem.ClaimSeven
namespace Go.Proofs.YtbpnfoihonehgadDoor
namespace Rows

/-- THE TIED CARD OF 'posternkeep.CodeHeap'. -/
def codeHeapCard : Claim7 := { stood := { row := codeHeapRow, standIns := [], harness := (true, "efe982877c55d088b728d5bcdb4e9873ec73f99fc052d93750f2c4ceda0fa64d"), looks := false }, kinds := [], alts := [], laidByText := true, laidKinds := [.data, .data, .data, .data], laidTests := true, laidLooks := .later }
def CodeHeapCardSaid : Prop := Claim7.holds Tryd.pinned (.plain (OpenSpec.ofChange codeHeapSpec)) codeHeapCard

/-- THE SECOND FORM's CARD OF 'posternkeep.CodeHeap'. -/
def codeHeapUptoCard : Claim7 := { stood := { row := codeHeapUptoRow, standIns := [], harness := (true, "efe982877c55d088b728d5bcdb4e9873ec73f99fc052d93750f2c4ceda0fa64d"), looks := false }, kinds := [], alts := [], laidByText := true, laidKinds := [.data, .data, .data, .data], laidTests := true, laidLooks := .later }
def CodeHeapUptoCardSaid : Prop := Claim7.holds Tryd.pinned (.plain (OpenSpec.upto codeHeapSpec)) codeHeapUptoCard
end Rows
end Go.Proofs.YtbpnfoihonehgadDoor
