/-
  NARROWER THAN 'FOR EVERY INPUT', by the rows' own cells (each row's printed sentence says how): IrCodes: laid · IrChecks: laid · SsaChecks: laid.
  DERIVED. THE GIVEN ROWS OF THIS SEAT. 3 by the template 'for every input the law returns true; each argument reads behind the call as it read before'; 0 by the template 'total and deterministic' (their statements: YtbpbpihboenbeaaDoorTotals.lean).
  GIVEN WITH THE SEED: the statements are not yours to turn. If you find one false, say at which input.
  Laid BY PROGRAM, IN A SANDBOX (cutbox-rows.mjs): the forced cells as the released guide's own fill.sh prints them over the translation 26d87d9dc3f5c405… (all of the seat's roots in one cut). By AI agents, Wed Nov 11 2026. No macro, syntax, notation, axiom, sorry.
-/
import Derived.Test.YtbpbpihboenbeaaDoorChecked
import GoSem.Claim
import GoSem.ClaimJoined
import GoSem.ClaimMapViews
import Derived.JoinedTies
import Derived.KernelRfl
namespace Go.Proofs.YtbpbpihboenbeaaDoor
/- THE CELL 'sum', in the pinned program and in every row, IS THE sha256 OF THE DUMP (.gsa) THAT YtbpbpihboenbeaaDoorProg.lean LOADS. Nothing in Lean hashes anything: it is a label: what it is worth is what the hold of that sum in a sandbox is worth. -/
noncomputable def Tryd.pinned : Pinned := { name := "ytbpbpihboenbeaadoor", sum := "26d87d9dc3f5c405302a60277091495e80625a58aa141281bd5652ca28f8165e", checked := Tryd.checked }
namespace Rows
def none {H : Type} : Left H := { results := [], args := [] }

/- WHAT THE LISTED PACKAGE-LEVEL VARIABLES READ AS WHEN THE CALL BEGINS. Each datum BY PROGRAM (the guide's laid-datum.mjs) off the statement by which the dump's own 'gosem.cut.vars' lays the variable. In a bare row this is a premise. The card (YtbpbpihboenbeaaDoorCards.lean) ties it to the program's text. -/
def laid_postern_ir_countsOf {H : Type} : DataW H := .agg [.agg [.lit (.int .i64 0), .lit (.int .i64 0), .lit (.int .i64 0)], .agg [.lit (.int .i64 1), .lit (.int .i64 0), .lit (.int .i64 0)], .agg [.lit (.int .i64 1), .lit (.int .i64 1), .lit (.int .i64 0)], .agg [.lit (.int .i64 1), .lit (.int .i64 2), .lit (.int .i64 0)], .agg [.lit (.int .i64 1), .lit (.int .i64 1), .lit (.int .i64 0)], .agg [.lit (.int .i64 0), .lit (.int .i64 2), .lit (.int .i64 0)], .agg [.lit (.int .i64 1), .lit (.int .i64 1), .lit (.int .i64 0)], .agg [.lit (.int .i64 (-1)), .lit (.int .i64 (-1)), .lit (.int .i64 0)], .agg [.lit (.int .i64 0), .lit (.int .i64 (-1)), .lit (.int .i64 0)], .agg [.lit (.int .i64 0), .lit (.int .i64 0), .lit (.int .i64 1)], .agg [.lit (.int .i64 0), .lit (.int .i64 1), .lit (.int .i64 2)], .agg [.lit (.int .i64 0), .lit (.int .i64 1), .lit (.int .i64 (-2))], .agg [.lit (.int .i64 0), .lit (.int .i64 (-1)), .lit (.int .i64 0)], .agg [.lit (.int .i64 0), .lit (.int .i64 0), .lit (.int .i64 0)]]

/-- 'posternlaw.IrCodes': WHATEVER THE INPUT: true; the input reads as it did. -/
def irCodesSpec : ChangeSpec := { name := "irCodes", fn := fun _ => fun
  | [d1, d2] => { results := [.lit (.bool true)], args := [d1, d2] }
  | _ => none }
def irCodesRow : OpenClaim := { program := "ytbpbpihboenbeaadoor", sum := "26d87d9dc3f5c405302a60277091495e80625a58aa141281bd5652ca28f8165e", func := "postern/posternlaw.IrCodes", spec := "irCodes", unfollowed := true, recurses := true, named := ["postern/ir.countsOf"], apart := false, laid := [("postern/ir.countsOf", laid_postern_ir_countsOf)] }
def IrCodesSaid : Prop := irCodesRow.holds Tryd.pinned (OpenSpec.ofChange irCodesSpec)

/-- ITS FALSE NEIGHBOUR: 'it returns false'. Refute it at one input. -/
def irCodesWrong : ChangeSpec := { name := "irCodes", fn := fun _ => fun
  | [d1, d2] => { results := [.lit (.bool false)], args := [d1, d2] }
  | _ => none }
def IrCodesWrongFalsely : Prop := irCodesRow.holds Tryd.pinned (OpenSpec.ofChange irCodesWrong)

/-- 'posternlaw.IrChecks': WHATEVER THE INPUT: true; the input reads as it did. -/
def irChecksSpec : ChangeSpec := { name := "irChecks", fn := fun _ => fun
  | [d] => { results := [.lit (.bool true)], args := [d] }
  | _ => none }
def irChecksRow : OpenClaim := { program := "ytbpbpihboenbeaadoor", sum := "26d87d9dc3f5c405302a60277091495e80625a58aa141281bd5652ca28f8165e", func := "postern/posternlaw.IrChecks", spec := "irChecks", unfollowed := true, recurses := true, named := ["postern/ir.countsOf"], apart := false, laid := [("postern/ir.countsOf", laid_postern_ir_countsOf)] }
def IrChecksSaid : Prop := irChecksRow.holds Tryd.pinned (OpenSpec.ofChange irChecksSpec)

/-- ITS FALSE NEIGHBOUR: 'it returns false'. Refute it at one input. -/
def irChecksWrong : ChangeSpec := { name := "irChecks", fn := fun _ => fun
  | [d] => { results := [.lit (.bool false)], args := [d] }
  | _ => none }
def IrChecksWrongFalsely : Prop := irChecksRow.holds Tryd.pinned (OpenSpec.ofChange irChecksWrong)

/-- 'posternlaw.SsaChecks': WHATEVER THE INPUT: true; the input reads as it did. -/
def ssaChecksSpec : ChangeSpec := { name := "ssaChecks", fn := fun _ => fun
  | [d1, d2] => { results := [.lit (.bool true)], args := [d1, d2] }
  | _ => none }
def ssaChecksRow : OpenClaim := { program := "ytbpbpihboenbeaadoor", sum := "26d87d9dc3f5c405302a60277091495e80625a58aa141281bd5652ca28f8165e", func := "postern/posternlaw.SsaChecks", spec := "ssaChecks", unfollowed := true, recurses := true, named := ["postern/ir.countsOf"], apart := false, laid := [("postern/ir.countsOf", laid_postern_ir_countsOf)] }
def SsaChecksSaid : Prop := ssaChecksRow.holds Tryd.pinned (OpenSpec.ofChange ssaChecksSpec)

/-- ITS FALSE NEIGHBOUR: 'it returns false'. Refute it at one input. -/
def ssaChecksWrong : ChangeSpec := { name := "ssaChecks", fn := fun _ => fun
  | [d1, d2] => { results := [.lit (.bool false)], args := [d1, d2] }
  | _ => none }
def SsaChecksWrongFalsely : Prop := ssaChecksRow.holds Tryd.pinned (OpenSpec.ofChange ssaChecksWrong)

/- THE SECOND FORM. 'bulk': how many values and letters a reading holds, each counted each time it is reached (what is shared counts as often as it is met; a slice's spare places count too). A statement '..UptoSaid' is the law's where the arguments, and the package variables that the reading takes, are together of bulk at most 1048576: NARROWER than '..Said'. Prove '..Said' where nothing that the law and all that it calls make is longer than what came in: it says more and counts as full. Else prove '..UptoSaid'. A law counts once. -/
mutual
def uptoBulk {H : Type} : DataW H → Nat
  | .lit (.string bytes) => bytes.length + 1
  | .lit _ => 1
  | .nil => 1
  | .ptr d => uptoBulk d + 1
  | .slice elems spare => uptoBulkAll elems + uptoBulkAll spare + 1
  | .agg parts => uptoBulkAll parts + 1
  | .iface _ d => uptoBulk d + 1
  | .map entries => uptoBulkEntries entries + 1
  | .held _ => 1
def uptoBulkAll {H : Type} : List (DataW H) → Nat
  | [] => 0
  | d :: r => uptoBulk d + uptoBulkAll r
def uptoBulkEntries {H : Type} : List (Lit × DataW H) → Nat
  | [] => 0
  | x :: r => uptoBulkEntry x + uptoBulkEntries r
def uptoBulkEntry {H : Type} : Lit × DataW H → Nat
  | (.string bytes, d) => bytes.length + uptoBulk d + 1
  | (_, d) => uptoBulk d + 1
 end
def uptoSmall : (H : Type) → List (DataW H) → Bool := fun _ ds => decide (uptoBulkAll ds ≤ 1048576)
def OpenSpec.upto (s : _root_.Go.ChangeSpec) : _root_.Go.OpenSpec := { _root_.Go.OpenSpec.ofChange s with cond := some uptoSmall }

/-- 'posternlaw.IrCodes', WHERE WHAT IT READS IS OF BULK AT MOST 1048576: true; the input reads as it did. -/
def irCodesUptoRow : OpenClaim := { program := "ytbpbpihboenbeaadoor", sum := "26d87d9dc3f5c405302a60277091495e80625a58aa141281bd5652ca28f8165e", func := "postern/posternlaw.IrCodes", spec := "irCodes", unfollowed := true, recurses := true, named := ["postern/ir.countsOf"], apart := false, laid := [("postern/ir.countsOf", laid_postern_ir_countsOf)], narrowed := true }
def IrCodesUptoSaid : Prop := irCodesUptoRow.holds Tryd.pinned (OpenSpec.upto irCodesSpec)

/-- 'posternlaw.IrChecks', WHERE WHAT IT READS IS OF BULK AT MOST 1048576: true; the input reads as it did. -/
def irChecksUptoRow : OpenClaim := { program := "ytbpbpihboenbeaadoor", sum := "26d87d9dc3f5c405302a60277091495e80625a58aa141281bd5652ca28f8165e", func := "postern/posternlaw.IrChecks", spec := "irChecks", unfollowed := true, recurses := true, named := ["postern/ir.countsOf"], apart := false, laid := [("postern/ir.countsOf", laid_postern_ir_countsOf)], narrowed := true }
def IrChecksUptoSaid : Prop := irChecksUptoRow.holds Tryd.pinned (OpenSpec.upto irChecksSpec)

/-- 'posternlaw.SsaChecks', WHERE WHAT IT READS IS OF BULK AT MOST 1048576: true; the input reads as it did. -/
def ssaChecksUptoRow : OpenClaim := { program := "ytbpbpihboenbeaadoor", sum := "26d87d9dc3f5c405302a60277091495e80625a58aa141281bd5652ca28f8165e", func := "postern/posternlaw.SsaChecks", spec := "ssaChecks", unfollowed := true, recurses := true, named := ["postern/ir.countsOf"], apart := false, laid := [("postern/ir.countsOf", laid_postern_ir_countsOf)], narrowed := true }
def SsaChecksUptoSaid : Prop := ssaChecksUptoRow.holds Tryd.pinned (OpenSpec.upto ssaChecksSpec)

end Rows
end Go.Proofs.YtbpbpihboenbeaaDoor
