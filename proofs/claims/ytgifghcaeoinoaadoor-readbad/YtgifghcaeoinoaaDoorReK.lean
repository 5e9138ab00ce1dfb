/-
  Blocks within blocks, by the fuel. Switches are not yet told of: there the model answers none.
-/
import Derived.Test.YtgifghcaeoinoaaDoorReJ
import Derived.Test.YtgifghcaeoinoaaDoorReV
namespace Go.Proofs.YtgifghcaeoinoaaDoor
open Go.RowKit
set_option linter.unusedSimpArgs false
set_option linter.unusedVariables false

def noM (_ _ : Nat) : R St := none

def blockG (ps : List Tok) (E : Nat → Nat → R Ex) (f : Nat) : Nat → Nat → Nat → R (List St)
  | 0, _, _ => none
  | g + 1, d, n => blockM ps (statementN ps E (ifM ps E (blockG ps E f g) f) (loopM ps E (blockG ps E f g)) noM f) f d n

theorem said_no (F : Nat) (ps : List Tok) : SaidF F ps noM := fun _ _ _ _ _ _ _ _ h => by cases h

theorem block_said {ps : List Tok} {E : Nat → Nat → R Ex} (hE : SaidE ps E) (f : Nat) (hf : f ≤ 1000000) : ∀ g, SaidB ps (blockG ps E f g)
  | 0 => fun _ _ _ _ _ _ _ _ h => by cases h
  | g + 1 => block_any (statement_any hE (if_said hE (block_said hE f hf g) f) (loop_any hE (block_said hE f hf g)) (said_no _ ps) f hf) f hf

/-- all functions of the pieces: f: the fuel -/
def functionsM (ps : List Tok) (f : Nat) : R (List Fn') := funcsLoop ps (functionM ps (blockG ps (exprM ps f) f 40) f 0) f [] 0

theorem functions_said (ps : List Tok) (f : Nat) (hf : f ≤ 1000000) (w : World) (b bp cap T : Nat) (a k : Int) (r : Sum (Int × Int) (List Fn' × Nat)) (h : Rdr w b bp cap T ps ⟨0, 0, a, k⟩) (hr : functionsM ps f = some r) :
    Calls Tryd.prog 14 #[.pointer (some ⟨b, 0, none⟩)] w (PostFs b bp cap T ps ⟨0, 0, a, k⟩ w r) :=
  functions_any (block_said (expr_said ps f hf) f hf 40) w b bp cap T f f hf hf ⟨0, 0, a, k⟩ r h hr

end Go.Proofs.YtgifghcaeoinoaaDoor
