/-
  NARROWER THAN 'FOR EVERY INPUT', by the rows' own cells (each row's printed sentence says how): ReadReads: laid · ReadTexts: laid · ReadBad: laid.
  DERIVED. THE GIVEN ROWS OF THIS SEAT. 3 by the template 'for every input the law returns true; each argument reads behind the call as it read before'; 0 by the template 'total and deterministic' (their statements: YtffpcpdcgfmoiaaDoorTotals.lean).
  GIVEN WITH THE SEED: the statements are not yours to turn. If you find one false, say at which input.
  Laid BY PROGRAM, IN A SANDBOX (cutbox-rows.mjs): the forced cells as the released guide's own fill.sh prints them over the translation 05307486f55ab7b7… (all of the seat's roots in one cut). By AI agents, Wed Nov 11 2026. No macro, syntax, notation, axiom, sorry.
-/
import Derived.Test.YtffpcpdcgfmoiaaDoorChecked
import GoSem.Claim
import GoSem.ClaimJoined
import GoSem.ClaimMapViews
import Derived.JoinedTies
import Derived.KernelRfl
namespace Go.Proofs.YtffpcpdcgfmoiaaDoor
/- THE CELL 'sum', in the pinned program and in every row, IS THE sha256 OF THE DUMP (.gsa) THAT YtffpcpdcgfmoiaaDoorProg.lean LOADS. Nothing in Lean hashes anything: it is a label: what it is worth is what the hold of that sum in a sandbox is worth. -/
noncomputable def Tryd.pinned : Pinned := { name := "ytffpcpdcgfmoiaadoor", sum := "05307486f55ab7b7edd5cf8060c2313aba014ac0ceb55ed858221c0f6d2a6fdb", checked := Tryd.checked }
namespace Rows
def none {H : Type} : Left H := { results := [], args := [] }

/- WHAT THE LISTED PACKAGE-LEVEL VARIABLES READ AS WHEN THE CALL BEGINS. Each datum BY PROGRAM (the guide's laid-datum.mjs) off the statement by which the dump's own 'gosem.cut.vars' lays the variable. In a bare row this is a premise. The card (YtffpcpdcgfmoiaaDoorCards.lean) ties it to the program's text. -/
def laid_postern_word_keywords {H : Type} : DataW H := .agg [.lit (.string [102, 117, 110, 99]), .lit (.string [105, 102]), .lit (.string [101, 108, 115, 101]), .lit (.string [102, 111, 114]), .lit (.string [114, 97, 110, 103, 101]), .lit (.string [115, 119, 105, 116, 99, 104]), .lit (.string [99, 97, 115, 101]), .lit (.string [100, 101, 102, 97, 117, 108, 116]), .lit (.string [114, 101, 116, 117, 114, 110]), .lit (.string [112, 114, 105, 110, 116]), .lit (.string [98, 114, 101, 97, 107]), .lit (.string [99, 111, 110, 116, 105, 110, 117, 101]), .lit (.string [100, 101, 108, 101, 116, 101]), .lit (.string [116, 114, 117, 101]), .lit (.string [102, 97, 108, 115, 101]), .lit (.string [108, 101, 110]), .lit (.string [97, 112, 112, 101, 110, 100]), .lit (.string [115, 108, 105, 99, 101]), .lit (.string [109, 97, 112]), .lit (.string [105, 110, 116]), .lit (.string [98, 111, 111, 108]), .lit (.string [115, 116, 114, 105, 110, 103])]
def laid_postern_read_levels {H : Type} : DataW H := .agg [.agg [.lit (.string [124, 124]), .lit (.string []), .lit (.string []), .lit (.string []), .lit (.string []), .lit (.string [])], .agg [.lit (.string [38, 38]), .lit (.string []), .lit (.string []), .lit (.string []), .lit (.string []), .lit (.string [])], .agg [.lit (.string [61, 61]), .lit (.string [33, 61]), .lit (.string [60]), .lit (.string [60, 61]), .lit (.string [62]), .lit (.string [62, 61])], .agg [.lit (.string [43]), .lit (.string [45]), .lit (.string []), .lit (.string []), .lit (.string []), .lit (.string [])], .agg [.lit (.string [42]), .lit (.string [47]), .lit (.string [37]), .lit (.string []), .lit (.string []), .lit (.string [])]]
def laid_postern_read_typeWords {H : Type} : DataW H := .agg [.lit (.string []), .lit (.string [105, 110, 116]), .lit (.string [98, 111, 111, 108]), .lit (.string [115, 116, 114, 105, 110, 103]), .lit (.string [115, 108, 105, 99, 101]), .lit (.string [109, 97, 112])]
def laid_postern_read_marks {H : Type} : DataW H := .agg [.lit (.string [58, 61]), .lit (.string [61, 61]), .lit (.string [33, 61]), .lit (.string [60, 61]), .lit (.string [62, 61]), .lit (.string [38, 38]), .lit (.string [124, 124]), .lit (.string [40]), .lit (.string [41]), .lit (.string [123]), .lit (.string [125]), .lit (.string [91]), .lit (.string [93]), .lit (.string [44]), .lit (.string [58]), .lit (.string [61]), .lit (.string [60]), .lit (.string [62]), .lit (.string [43]), .lit (.string [45]), .lit (.string [42]), .lit (.string [47]), .lit (.string [37]), .lit (.string [33])]

/-- 'posternlaw.ReadReads': WHATEVER THE INPUT: true; the input reads as it did. -/
def readReadsSpec : ChangeSpec := { name := "readReads", fn := fun _ => fun
  | [d] => { results := [.lit (.bool true)], args := [d] }
  | _ => none }
def readReadsRow : OpenClaim := { program := "ytffpcpdcgfmoiaadoor", sum := "05307486f55ab7b7edd5cf8060c2313aba014ac0ceb55ed858221c0f6d2a6fdb", func := "postern/posternlaw.ReadReads", spec := "readReads", unfollowed := true, recurses := true, named := ["postern/read.marks", "postern/word.keywords", "postern/read.typeWords", "postern/read.levels"], apart := false, laid := [("postern/word.keywords", laid_postern_word_keywords), ("postern/read.levels", laid_postern_read_levels), ("postern/read.typeWords", laid_postern_read_typeWords), ("postern/read.marks", laid_postern_read_marks)] }
def ReadReadsSaid : Prop := readReadsRow.holds Tryd.pinned (OpenSpec.ofChange readReadsSpec)

/-- ITS FALSE NEIGHBOUR: 'it returns false'. Refute it at one input. -/
def readReadsWrong : ChangeSpec := { name := "readReads", fn := fun _ => fun
  | [d] => { results := [.lit (.bool false)], args := [d] }
  | _ => none }
def ReadReadsWrongFalsely : Prop := readReadsRow.holds Tryd.pinned (OpenSpec.ofChange readReadsWrong)

/-- 'posternkeep.ReadTexts': WHATEVER THE INPUT: true; the input reads as it did. -/
def readTextsSpec : ChangeSpec := { name := "readTexts", fn := fun _ => fun
  | [d] => { results := [.lit (.bool true)], args := [d] }
  | _ => none }
def readTextsRow : OpenClaim := { program := "ytffpcpdcgfmoiaadoor", sum := "05307486f55ab7b7edd5cf8060c2313aba014ac0ceb55ed858221c0f6d2a6fdb", func := "postern/posternkeep.ReadTexts", spec := "readTexts", unfollowed := true, recurses := true, named := ["postern/read.marks", "postern/word.keywords", "postern/read.typeWords", "postern/read.levels"], apart := false, laid := [("postern/word.keywords", laid_postern_word_keywords), ("postern/read.levels", laid_postern_read_levels), ("postern/read.typeWords", laid_postern_read_typeWords), ("postern/read.marks", laid_postern_read_marks)] }
def ReadTextsSaid : Prop := readTextsRow.holds Tryd.pinned (OpenSpec.ofChange readTextsSpec)

/-- ITS FALSE NEIGHBOUR: 'it returns false'. Refute it at one input. -/
def readTextsWrong : ChangeSpec := { name := "readTexts", fn := fun _ => fun
  | [d] => { results := [.lit (.bool false)], args := [d] }
  | _ => none }
def ReadTextsWrongFalsely : Prop := readTextsRow.holds Tryd.pinned (OpenSpec.ofChange readTextsWrong)

/-- 'posternkeep.ReadBad': WHATEVER THE INPUT: true; the input reads as it did. -/
def readBadSpec : ChangeSpec := { name := "readBad", fn := fun _ => fun
  | [d] => { results := [.lit (.bool true)], args := [d] }
  | _ => none }
def readBadRow : OpenClaim := { program := "ytffpcpdcgfmoiaadoor", sum := "05307486f55ab7b7edd5cf8060c2313aba014ac0ceb55ed858221c0f6d2a6fdb", func := "postern/posternkeep.ReadBad", spec := "readBad", unfollowed := true, recurses := true, named := ["postern/read.marks", "postern/word.keywords", "postern/read.typeWords", "postern/read.levels"], apart := false, laid := [("postern/word.keywords", laid_postern_word_keywords), ("postern/read.levels", laid_postern_read_levels), ("postern/read.typeWords", laid_postern_read_typeWords), ("postern/read.marks", laid_postern_read_marks)] }
def ReadBadSaid : Prop := readBadRow.holds Tryd.pinned (OpenSpec.ofChange readBadSpec)

/-- ITS FALSE NEIGHBOUR: 'it returns false'. Refute it at one input. -/
def readBadWrong : ChangeSpec := { name := "readBad", fn := fun _ => fun
  | [d] => { results := [.lit (.bool false)], args := [d] }
  | _ => none }
def ReadBadWrongFalsely : Prop := readBadRow.holds Tryd.pinned (OpenSpec.ofChange readBadWrong)

/- THE SECOND FORM. 'bulk': how many values and letters a reading holds, each counted each time it is reached (what is shared counts as often as it is met; a slice's spare places count too). A statement '..UptoSaid' is the law's where the arguments, and the package variables that the reading takes, are together of bulk at most 1048576: NARROWER than '..Said'. Prove '..Said' where nothing that the law and all that it calls make is longer than what came in: it says more and counts as full. Else prove '..UptoSaid'. A law counts once. -/
mutual
def uptoBulk {H : Type} : DataW H → Nat
  | .lit (.string bytes) => bytes.length + 1
  | .lit _ => 1
  | .nil => 1
  | .ptr d => uptoBulk d + 1
  | .slice elems spare => uptoBulkAll elems + uptoBulkAll spare + 1
  | .agg parts => uptoBulkAll parts + 1
  | .iface _ d => uptoBulk d + 1
  | .map entries => uptoBulkEntries entries + 1
  | .held _ => 1
def uptoBulkAll {H : Type} : List (DataW H) → Nat
  | [] => 0
  | d :: r => uptoBulk d + uptoBulkAll r
def uptoBulkEntries {H : Type} : List (Lit × DataW H) → Nat
  | [] => 0
  | x :: r => uptoBulkEntry x + uptoBulkEntries r
def uptoBulkEntry {H : Type} : Lit × DataW H → Nat
  | (.string bytes, d) => bytes.length + uptoBulk d + 1
  | (_, d) => uptoBulk d + 1
 end
def uptoSmall : (H : Type) → List (DataW H) → Bool := fun _ ds => decide (uptoBulkAll ds ≤ 1048576)
def OpenSpec.upto (s : _root_.Go.ChangeSpec) : _root_.Go.OpenSpec := { _root_.Go.OpenSpec.ofChange s with cond := some uptoSmall }

/-- 'posternlaw.ReadReads', WHERE WHAT IT READS IS OF BULK AT MOST 1048576: true; the input reads as it did. -/
def readReadsUptoRow : OpenClaim := { program := "ytffpcpdcgfmoiaadoor", sum := "05307486f55ab7b7edd5cf8060c2313aba014ac0ceb55ed858221c0f6d2a6fdb", func := "postern/posternlaw.ReadReads", spec := "readReads", unfollowed := true, recurses := true, named := ["postern/read.marks", "postern/word.keywords", "postern/read.typeWords", "postern/read.levels"], apart := false, laid := [("postern/word.keywords", laid_postern_word_keywords), ("postern/read.levels", laid_postern_read_levels), ("postern/read.typeWords", laid_postern_read_typeWords), ("postern/read.marks", laid_postern_read_marks)], narrowed := true }
def ReadReadsUptoSaid : Prop := readReadsUptoRow.holds Tryd.pinned (OpenSpec.upto readReadsSpec)

/-- 'posternkeep.ReadTexts', WHERE WHAT IT READS IS OF BULK AT MOST 1048576: true; the input reads as it did. -/
def readTextsUptoRow : OpenClaim := { program := "ytffpcpdcgfmoiaadoor", sum := "05307486f55ab7b7edd5cf8060c2313aba014ac0ceb55ed858221c0f6d2a6fdb", func := "postern/posternkeep.ReadTexts", spec := "readTexts", unfollowed := true, recurses := true, named := ["postern/read.marks", "postern/word.keywords", "postern/read.typeWords", "postern/read.levels"], apart := false, laid := [("postern/word.keywords", laid_postern_word_keywords), ("postern/read.levels", laid_postern_read_levels), ("postern/read.typeWords", laid_postern_read_typeWords), ("postern/read.marks", laid_postern_read_marks)], narrowed := true }
def ReadTextsUptoSaid : Prop := readTextsUptoRow.holds Tryd.pinned (OpenSpec.upto readTextsSpec)

/-- 'posternkeep.ReadBad', WHERE WHAT IT READS IS OF BULK AT MOST 1048576: true; the input reads as it did. -/
def readBadUptoRow : OpenClaim := { program := "ytffpcpdcgfmoiaadoor", sum := "05307486f55ab7b7edd5cf8060c2313aba014ac0ceb55ed858221c0f6d2a6fdb", func := "postern/posternkeep.ReadBad", spec := "readBad", unfollowed := true, recurses := true, named := ["postern/read.marks", "postern/word.keywords", "postern/read.typeWords", "postern/read.levels"], apart := false, laid := [("postern/word.keywords", laid_postern_word_keywords), ("postern/read.levels", laid_postern_read_levels), ("postern/read.typeWords", laid_postern_read_typeWords), ("postern/read.marks", laid_postern_read_marks)], narrowed := true }
def ReadBadUptoSaid : Prop := readBadUptoRow.holds Tryd.pinned (OpenSpec.upto readBadSpec)

end Rows
end Go.Proofs.YtffpcpdcgfmoiaaDoor
