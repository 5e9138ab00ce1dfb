/-
  Package ir's look at code is what the statement's is.
-/
import Derived.Test.YtbpbpihboenbeaaDoorSoN
namespace Go.Proofs.YtbpbpihboenbeaaDoor
open Go.RowKit
set_option linter.unusedSimpArgs false
set_option linter.unusedVariables false

theorem instr_same (fs : List Cod) (c : Cod) (i : Ins) : instrS fs c i = instrF fs c i := by
  unfold instrS instrF
  by_cases h : (decide (i.op < 1) || decide (13 < i.op)) = true
  · have h1 : (cntS i.op).isSome = false := by unfold cntS; rw [h]; rfl
    rw [h1, h]; rfl
  · have h' : (decide (i.op < 1) || decide (13 < i.op)) = false := by simpa using h
    have h1 : cntS i.op = some (ct1 i.op.toNat, ct2 i.op.toNat, ct3 i.op.toNat) := by unfold cntS; rw [h']; rfl
    have h2 : 1 ≤ i.op ∧ i.op ≤ 13 := by simp at h'; omega
    have h3 := counts_eq i.op.toNat i.ds.length i.ar.length i.to.length (by omega) (by omega)
    have h4 : ((i.op.toNat : Nat) : Int) = i.op := by omega
    rw [h4] at h3
    have h5 : (cV i.op) = (ct1 i.op.toNat, ct2 i.op.toNat, ct3 i.op.toNat) := by unfold cV; rw [h1]; rfl
    rw [h1, h', h5]
    simp only [Option.isSome_some]
    rw [h3]
    unfold hasS
    rcases countOk i.op i.ds.length i.ar.length i.to.length with _ | _ <;> rcases belowB c.vars i.ds with _ | _ <;> rcases belowB c.vars i.ar with _ | _ <;> rcases belowB (c.blocks.length : Int) i.to with _ | _ <;> rcases formB i with _ | _ <;> rcases argsB c.results i with _ | _ <;> simp

theorem head_same (c : Cod) : headS c = headF c := by
  unfold headS headF bigS offS
  have e1 : (decide (2000 < c.blocks.length) || (decide (16 < c.params) || (decide (16 < c.results) || decide (3000 < c.vars)))) = (decide (2000 < c.blocks.length) || decide (3000 < c.vars) || decide (16 < c.params) || decide (16 < c.results)) := by
    rw [Bool.eq_iff_iff]; simp; constructor <;> intro h <;> omega
  have e2 : (decide (c.params < 0) || (decide (c.results < 0) || (decide (c.vars < c.params) || c.slots != 0))) = (decide (c.params < 0) || decide (c.results < 0) || decide (c.vars < c.params) || c.slots != 0) := by
    rw [Bool.eq_iff_iff]; simp; constructor <;> intro h <;> omega
  rw [e1, e2]

theorem at_same (fs : List Cod) (c : Cod) (b : List Ins) (k : Nat) : atS fs c b k = atF fs c b k := by
  unfold atS atF
  rcases b[k]? with _ | i
  · rfl
  · simp only [instr_same]
theorem block_same (fs : List Cod) (c : Cod) (k : Nat) : blockS fs c k = blockF fs c k := by
  unfold blockS blockF
  rcases c.blocks[k]? with _ | b
  · rfl
  · have : atS fs c b = atF fs c b := funext fun k => at_same fs c b k
    simp only [this]; rfl
theorem code_same (fs : List Cod) (c : Cod) : codeS fs c = codeF fs c := by
  unfold codeS codeF
  have : blockS fs c = blockF fs c := funext fun k => block_same fs c k
  rw [head_same, this]

end Go.Proofs.YtbpbpihboenbeaaDoor
