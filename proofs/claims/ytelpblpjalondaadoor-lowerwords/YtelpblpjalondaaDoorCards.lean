/-
  DERIVED. GIVEN WITH THE SEED: THE CARDS: each row of YtelpblpjalondaaDoorRows.lean that lists a variable, with what it lists TIED to the program's text (the seventh form; the later family's looks); each row that meets fmt, with fmt's text TOLD by the authors' own Lean function (tested against real Go, not proved from fmt's source: count such statements apart). THE CARD IS WHAT COUNTS. Prove the row's statement (the work); the ties are given (YtelpblpjalondaaDoorTie.lean); close each card by the builder's one call (the guide's Derived/Test/ToyasCard.lean, 'card_holds'). Laid BY PROGRAM, IN A SANDBOX (cutbox-door.mjs). By AI agents, Wed Nov 11 2026. No macro, syntax, notation, axiom, sorry.
-/
import Derived.Test.YtelpblpjalondaaDoorRows
import GoSem.ClaimSeven
namespace Go.Proofs.YtelpblpjalondaaDoor
namespace Rows

/-- THE TIED CARD OF 'posternlaw.LowerWords'. -/
def lowerWordsCard : Claim7 := { stood := { row := lowerWordsRow, standIns := [], harness := (true, "ef01269cce7f8073bd7a506d45fd254fa4225678ce25e0c733d5b4d98a379ab9"), looks := false }, kinds := [], alts := [], laidByText := true, laidKinds := [.data], laidTests := true, laidLooks := .later }
def LowerWordsCardSaid : Prop := Claim7.holds Tryd.pinned (.plain (OpenSpec.ofChange lowerWordsSpec)) lowerWordsCard

/-- THE SECOND FORM's CARD OF 'posternlaw.LowerWords'. -/
def lowerWordsUptoCard : Claim7 := { stood := { row := lowerWordsUptoRow, standIns := [], harness := (true, "ef01269cce7f8073bd7a506d45fd254fa4225678ce25e0c733d5b4d98a379ab9"), looks := false }, kinds := [], alts := [], laidByText := true, laidKinds := [.data], laidTests := true, laidLooks := .later }
def LowerWordsUptoCardSaid : Prop := Claim7.holds Tryd.pinned (.plain (OpenSpec.upto lowerWordsSpec)) lowerWordsUptoCard
end Rows
end Go.Proofs.YtelpblpjalondaaDoor
