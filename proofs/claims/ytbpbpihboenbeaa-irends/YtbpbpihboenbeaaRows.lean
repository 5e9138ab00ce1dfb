/-
  No cell of these rows narrows 'for every input' (looked for: loops, veiled, ifaces, maps, wideKeys, modest, calm, conditions, laid).
  DERIVED. THE GIVEN ROWS OF THIS SEAT. 2 by the template 'for every input the law returns true; each argument reads behind the call as it read before'; 0 by the template 'total and deterministic' (their statements: YtbpbpihboenbeaaTotals.lean).
  GIVEN WITH THE SEED: the statements are not yours to turn. If you find one false, say at which input.
  Laid BY PROGRAM, IN A SANDBOX (cutbox-rows.mjs): the forced cells as the released guide's own fill.sh prints them over the translation 3173be800f42832d… (all of the seat's roots in one cut). By AI agents, Wed Nov 11 2026. No macro, syntax, notation, axiom, sorry.
-/
import Derived.Test.YtbpbpihboenbeaaChecked
import GoSem.Claim
import GoSem.ClaimJoined
import GoSem.ClaimMapViews
import Derived.JoinedTies
import Derived.KernelRfl
namespace Go.Proofs.Ytbpbpihboenbeaa
/- THE CELL 'sum', in the pinned program and in every row, IS THE sha256 OF THE DUMP (.gsa) THAT YtbpbpihboenbeaaProg.lean LOADS. Nothing in Lean hashes anything: it is a label: what it is worth is what the hold of that sum in a sandbox is worth. -/
noncomputable def Try.pinned : Pinned := { name := "ytbpbpihboenbeaa", sum := "3173be800f42832d4a3bd32d945123a56bcdd81747ba0fce041c27c80ca999dc", checked := Try.checked }
namespace Rows
def none {H : Type} : Left H := { results := [], args := [] }

/-- 'posternlaw.IrEnds': WHATEVER THE INPUT: true; the input reads as it did. -/
def irEndsSpec : ChangeSpec := { name := "irEnds", fn := fun _ => fun
  | [d] => { results := [.lit (.bool true)], args := [d] }
  | _ => none }
def irEndsRow : OpenClaim := { program := "ytbpbpihboenbeaa", sum := "3173be800f42832d4a3bd32d945123a56bcdd81747ba0fce041c27c80ca999dc", func := "postern/posternlaw.IrEnds", spec := "irEnds", apart := false }
def IrEndsSaid : Prop := irEndsRow.holds Try.pinned (OpenSpec.ofChange irEndsSpec)

/-- ITS FALSE NEIGHBOUR: 'it returns false'. Refute it at one input. -/
def irEndsWrong : ChangeSpec := { name := "irEnds", fn := fun _ => fun
  | [d] => { results := [.lit (.bool false)], args := [d] }
  | _ => none }
def IrEndsWrongFalsely : Prop := irEndsRow.holds Try.pinned (OpenSpec.ofChange irEndsWrong)

/-- 'posternlaw.VmChecks': WHATEVER THE INPUT: true; the input reads as it did. -/
def vmChecksSpec : ChangeSpec := { name := "vmChecks", fn := fun _ => fun
  | [d] => { results := [.lit (.bool true)], args := [d] }
  | _ => none }
def vmChecksRow : OpenClaim := { program := "ytbpbpihboenbeaa", sum := "3173be800f42832d4a3bd32d945123a56bcdd81747ba0fce041c27c80ca999dc", func := "postern/posternlaw.VmChecks", spec := "vmChecks", unfollowed := true, recurses := true, apart := false }
def VmChecksSaid : Prop := vmChecksRow.holds Try.pinned (OpenSpec.ofChange vmChecksSpec)

/-- ITS FALSE NEIGHBOUR: 'it returns false'. Refute it at one input. -/
def vmChecksWrong : ChangeSpec := { name := "vmChecks", fn := fun _ => fun
  | [d] => { results := [.lit (.bool false)], args := [d] }
  | _ => none }
def VmChecksWrongFalsely : Prop := vmChecksRow.holds Try.pinned (OpenSpec.ofChange vmChecksWrong)

/- THE SECOND FORM. 'bulk': how many values and letters a reading holds, each counted each time it is reached (what is shared counts as often as it is met; a slice's spare places count too). A statement '..UptoSaid' is the law's where the arguments, and the package variables that the reading takes, are together of bulk at most 1048576: NARROWER than '..Said'. Prove '..Said' where nothing that the law and all that it calls make is longer than what came in: it says more and counts as full. Else prove '..UptoSaid'. A law counts once. -/
mutual
def uptoBulk {H : Type} : DataW H → Nat
  | .lit (.string bytes) => bytes.length + 1
  | .lit _ => 1
  | .nil => 1
  | .ptr d => uptoBulk d + 1
  | .slice elems spare => uptoBulkAll elems + uptoBulkAll spare + 1
  | .agg parts => uptoBulkAll parts + 1
  | .iface _ d => uptoBulk d + 1
  | .map entries => uptoBulkEntries entries + 1
  | .held _ => 1
def uptoBulkAll {H : Type} : List (DataW H) → Nat
  | [] => 0
  | d :: r => uptoBulk d + uptoBulkAll r
def uptoBulkEntries {H : Type} : List (Lit × DataW H) → Nat
  | [] => 0
  | x :: r => uptoBulkEntry x + uptoBulkEntries r
def uptoBulkEntry {H : Type} : Lit × DataW H → Nat
  | (.string bytes, d) => bytes.length + uptoBulk d + 1
  | (_, d) => uptoBulk d + 1
 end
def uptoSmall : (H : Type) → List (DataW H) → Bool := fun _ ds => decide (uptoBulkAll ds ≤ 1048576)
def OpenSpec.upto (s : _root_.Go.ChangeSpec) : _root_.Go.OpenSpec := { _root_.Go.OpenSpec.ofChange s with cond := some uptoSmall }

/-- 'posternlaw.IrEnds', WHERE WHAT IT READS IS OF BULK AT MOST 1048576: true; the input reads as it did. -/
def irEndsUptoRow : OpenClaim := { program := "ytbpbpihboenbeaa", sum := "3173be800f42832d4a3bd32d945123a56bcdd81747ba0fce041c27c80ca999dc", func := "postern/posternlaw.IrEnds", spec := "irEnds", apart := false, narrowed := true }
def IrEndsUptoSaid : Prop := irEndsUptoRow.holds Try.pinned (OpenSpec.upto irEndsSpec)

/-- 'posternlaw.VmChecks', WHERE WHAT IT READS IS OF BULK AT MOST 1048576: true; the input reads as it did. -/
def vmChecksUptoRow : OpenClaim := { program := "ytbpbpihboenbeaa", sum := "3173be800f42832d4a3bd32d945123a56bcdd81747ba0fce041c27c80ca999dc", func := "postern/posternlaw.VmChecks", spec := "vmChecks", unfollowed := true, recurses := true, apart := false, narrowed := true }
def VmChecksUptoSaid : Prop := vmChecksUptoRow.holds Try.pinned (OpenSpec.upto vmChecksSpec)

end Rows
end Go.Proofs.Ytbpbpihboenbeaa
