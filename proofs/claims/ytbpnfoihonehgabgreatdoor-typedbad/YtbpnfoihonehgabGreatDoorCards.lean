/-
  DERIVED. GIVEN WITH THE SEED: THE CARDS: each row of YtbpnfoihonehgabGreatDoorRows.lean that lists a variable, with what it lists TIED to the program's text (the seventh form; the later family's looks); each row that meets fmt, with fmt's text TOLD by the authors' own Lean function (tested against real Go, not proved from fmt's source: count such statements apart). THE CARD IS WHAT COUNTS. Prove the row's statement (the work); the ties are given (YtbpnfoihonehgabGreatDoorTie.lean); close each card by the builder's one call (the guide's Derived/Test/ToyasCard.lean, 'card_holds'). Laid BY PROGRAM, IN A SANDBOX (cutbox-door.mjs). By AI agents, Wed Nov 11 2026. No macro, syntax, notation, axiom, sorry.
-/
import Derived.Test.YtbpnfoihonehgabGreatDoorRows
import GoSem.ClaimSeven
namespace Go.Proofs.YtbpnfoihonehgabGreatDoor
namespace Rows

/-- THE TIED CARD OF 'posternkeep.ReadGood'. -/
def readGoodCard : Claim7 := { stood := { row := readGoodRow, standIns := [], harness := (true, "46ed266e27a2917f7347060cb6d860e4617af0cfeca28339a42e685ec614ca4f"), looks := false }, kinds := [], alts := [], laidByText := true, laidKinds := [.data, .data, .data, .data, .data, .data, .data, .data, .data], laidTests := true, laidLooks := .later }
def ReadGoodCardSaid : Prop := Claim7.holds Tryz.pinned (.plain (OpenSpec.ofChange readGoodSpec)) readGoodCard

/-- THE TIED CARD OF 'posternkeep.TypedBad'. -/
def typedBadCard : Claim7 := { stood := { row := typedBadRow, standIns := [], harness := (true, "46ed266e27a2917f7347060cb6d860e4617af0cfeca28339a42e685ec614ca4f"), looks := false }, kinds := [], alts := [], laidByText := true, laidKinds := [.data, .data, .data, .data, .data, .data], laidTests := true, laidLooks := .later }
def TypedBadCardSaid : Prop := Claim7.holds Tryz.pinned (.plain (OpenSpec.ofChange typedBadSpec)) typedBadCard

/-- THE TIED CARD OF 'posternkeep.TypedFalls'. -/
def typedFallsCard : Claim7 := { stood := { row := typedFallsRow, standIns := [], harness := (true, "46ed266e27a2917f7347060cb6d860e4617af0cfeca28339a42e685ec614ca4f"), looks := false }, kinds := [], alts := [], laidByText := true, laidKinds := [.data, .data, .data, .data, .data, .data], laidTests := true, laidLooks := .later }
def TypedFallsCardSaid : Prop := Claim7.holds Tryz.pinned (.plain (OpenSpec.ofChange typedFallsSpec)) typedFallsCard

/-- THE SECOND FORM's CARD OF 'posternkeep.ReadGood'. -/
def readGoodUptoCard : Claim7 := { stood := { row := readGoodUptoRow, standIns := [], harness := (true, "46ed266e27a2917f7347060cb6d860e4617af0cfeca28339a42e685ec614ca4f"), looks := false }, kinds := [], alts := [], laidByText := true, laidKinds := [.data, .data, .data, .data, .data, .data, .data, .data, .data], laidTests := true, laidLooks := .later }
def ReadGoodUptoCardSaid : Prop := Claim7.holds Tryz.pinned (.plain (OpenSpec.upto readGoodSpec)) readGoodUptoCard

/-- THE SECOND FORM's CARD OF 'posternkeep.TypedBad'. -/
def typedBadUptoCard : Claim7 := { stood := { row := typedBadUptoRow, standIns := [], harness := (true, "46ed266e27a2917f7347060cb6d860e4617af0cfeca28339a42e685ec614ca4f"), looks := false }, kinds := [], alts := [], laidByText := true, laidKinds := [.data, .data, .data, .data, .data, .data], laidTests := true, laidLooks := .later }
def TypedBadUptoCardSaid : Prop := Claim7.holds Tryz.pinned (.plain (OpenSpec.upto typedBadSpec)) typedBadUptoCard

/-- THE SECOND FORM's CARD OF 'posternkeep.TypedFalls'. -/
def typedFallsUptoCard : Claim7 := { stood := { row := typedFallsUptoRow, standIns := [], harness := (true, "46ed266e27a2917f7347060cb6d860e4617af0cfeca28339a42e685ec614ca4f"), looks := false }, kinds := [], alts := [], laidByText := true, laidKinds := [.data, .data, .data, .data, .data, .data], laidTests := true, laidLooks := .later }
def TypedFallsUptoCardSaid : Prop := Claim7.holds Tryz.pinned (.plain (OpenSpec.upto typedFallsSpec)) typedFallsUptoCard
end Rows
end Go.Proofs.YtbpnfoihonehgabGreatDoor
