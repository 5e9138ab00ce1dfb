/-
  The statement's own look at an instruction of machine code.
-/
import Derived.Test.YtbpbpihboenbeaaSvP
namespace Go.Proofs.Ytbpbpihboenbeaa
open Go.RowKit Go.Maps
set_option linter.unusedSimpArgs false
set_option linter.unusedVariables false

/-- code, its slots as variables -/
def slotsC (c : Cod) (i : Ins) : Cod := if i.op == 7 || i.op == 12 then ⟨c.name, c.params, c.results, c.slots, c.slots, c.blocks⟩ else c
def instrM (fs : List Cod) (c : Cod) (i : Ins) : Int :=
  if i.op == 21 || i.op == 22 then (if !((i.ds.length == if i.op == 22 then 0 else 1) && ((i.ar.length == if i.op == 22 then 1 else 0) && i.to.length == 0)) then 10
    else if !(belowB c.vars i.ds && (belowB c.vars i.ar && (decide (0 ≤ i.n) && decide (i.n < c.slots)))) then 2 else 0) else instrF fs (slotsC c i) i

theorem fits_n (n : Nat) (x : Nat) : fitsB (n : Int) (x : Int) = (n == x) := by
  unfold fitsB
  have h1 : ((x : Int) == -1) = false := beq_eq_false_iff_ne.2 (by omega)
  have h2 : ((x : Int) == -2) = false := beq_eq_false_iff_ne.2 (by omega)
  rw [h1, h2]
  by_cases h : n = x
  · subst h; simp
  · have h3 : ((n : Int) == (x : Int)) = false := beq_eq_false_iff_ne.2 (by omega)
    have h4 : (n == x) = false := beq_eq_false_iff_ne.2 h
    rw [h3, h4]
    rfl
theorem fits_any1 (n : Nat) : fitsB (n : Int) (-1) = true := by unfold fitsB; simp
theorem fits_some (n : Nat) : fitsB (n : Int) (-2) = decide (0 < n) := by
  unfold fitsB
  have h1 : ((n : Int) == -2) = false := beq_eq_false_iff_ne.2 (by omega)
  rw [h1]
  simp

theorem instr_same (fs : List Cod) (c : Cod) (i : Ins) : instrM fs c i = instrS fs c i := by
  have f0 : ∀ n : Nat, fitsB (n : Int) 0 = (n == 0) := fun n => fits_n n 0
  have f1 : ∀ n : Nat, fitsB (n : Int) 1 = (n == 1) := fun n => fits_n n 1
  have f2 : ∀ n : Nat, fitsB (n : Int) 2 = (n == 2) := fun n => fits_n n 2
  have f3 := fits_any1
  have f4 := fits_some
  obtain ⟨op, ds, ar, nn, s, to⟩ := i
  obtain ⟨name, params, results, vars, slots, blocks⟩ := c
  by_cases o1 : op = 1
  · subst o1
    unfold instrM instrS instrF cV cntS hasS slotsC
    simp [f0, f1, f2, f3, f4, countOk]
    try
     (rcases belowB vars ds with _ | _ <;> rcases belowB vars ar with _ | _ <;> rcases belowB (blocks.length : Int) to with _ | _ <;> simp)
  by_cases o2 : op = 2
  · subst o2
    unfold instrM instrS instrF cV cntS hasS slotsC
    simp [f0, f1, f2, f3, f4, countOk]
    try
     (rcases belowB vars ds with _ | _ <;> rcases belowB vars ar with _ | _ <;> rcases belowB (blocks.length : Int) to with _ | _ <;> simp)
  by_cases o3 : op = 3
  · subst o3
    unfold instrM instrS instrF cV cntS hasS slotsC
    simp [f0, f1, f2, f3, f4, countOk]
    try
     (rcases belowB vars ds with _ | _ <;> rcases belowB vars ar with _ | _ <;> rcases belowB (blocks.length : Int) to with _ | _ <;> simp)
  by_cases o4 : op = 4
  · subst o4
    unfold instrM instrS instrF cV cntS hasS slotsC
    simp [f0, f1, f2, f3, f4, countOk]
    try
     (rcases belowB vars ds with _ | _ <;> rcases belowB vars ar with _ | _ <;> rcases belowB (blocks.length : Int) to with _ | _ <;> simp)
  by_cases o5 : op = 5
  · subst o5
    unfold instrM instrS instrF cV cntS hasS slotsC
    simp [f0, f1, f2, f3, f4, countOk]
    try
     (rcases belowB vars ds with _ | _ <;> rcases belowB vars ar with _ | _ <;> rcases belowB (blocks.length : Int) to with _ | _ <;> simp)
  by_cases o6 : op = 6
  · subst o6
    unfold instrM instrS instrF cV cntS hasS slotsC
    simp [f0, f1, f2, f3, f4, countOk]
    try
     (rcases belowB vars ds with _ | _ <;> rcases belowB vars ar with _ | _ <;> rcases belowB (blocks.length : Int) to with _ | _ <;> simp)
  by_cases o7 : op = 7
  · subst o7
    unfold instrM instrS instrF cV cntS hasS slotsC
    simp [f0, f1, f2, f3, f4, countOk]
    try
     (rcases belowB slots ds with _ | _ <;> rcases belowB slots ar with _ | _ <;> rcases belowB (blocks.length : Int) to with _ | _ <;> simp)
  by_cases o8 : op = 8
  · subst o8
    unfold instrM instrS instrF cV cntS hasS slotsC
    simp [f0, f1, f2, f3, f4, countOk]
    try
     (rcases belowB vars ds with _ | _ <;> rcases belowB vars ar with _ | _ <;> rcases belowB (blocks.length : Int) to with _ | _ <;> simp)
  by_cases o9 : op = 9
  · subst o9
    unfold instrM instrS instrF cV cntS hasS slotsC
    simp [f0, f1, f2, f3, f4, countOk]
    try
     (rcases belowB vars ds with _ | _ <;> rcases belowB vars ar with _ | _ <;> rcases belowB (blocks.length : Int) to with _ | _ <;> simp)
  by_cases o10 : op = 10
  · subst o10
    unfold instrM instrS instrF cV cntS hasS slotsC
    simp [f0, f1, f2, f3, f4, countOk]
    try
     (rcases belowB vars ds with _ | _ <;> rcases belowB vars ar with _ | _ <;> rcases belowB (blocks.length : Int) to with _ | _ <;> simp)
  by_cases o11 : op = 11
  · subst o11
    unfold instrM instrS instrF cV cntS hasS slotsC
    simp [f0, f1, f2, f3, f4, countOk]
    try
     (rcases belowB vars ds with _ | _ <;> rcases belowB vars ar with _ | _ <;> rcases belowB (blocks.length : Int) to with _ | _ <;> simp)
  by_cases o12 : op = 12
  · subst o12
    unfold instrM instrS instrF cV cntS hasS slotsC
    simp [f0, f1, f2, f3, f4, countOk]
    try
     (rcases belowB slots ds with _ | _ <;> rcases belowB slots ar with _ | _ <;> rcases belowB (blocks.length : Int) to with _ | _ <;> simp)
  by_cases o13 : op = 13
  · subst o13
    unfold instrM instrS instrF cV cntS hasS slotsC
    simp [f0, f1, f2, f3, f4, countOk]
    try
     (rcases belowB vars ds with _ | _ <;> rcases belowB vars ar with _ | _ <;> rcases belowB (blocks.length : Int) to with _ | _ <;> simp)
  by_cases o21 : op = 21
  · subst o21
    unfold instrM instrS cV cntS hasS formB argsB
    simp [f0, f1]
    by_cases h3 : to = []
    · subst h3
      simp [belowB]
      simp only [or_assoc, or_comm, or_left_comm]
    · simp [h3]
  by_cases o22 : op = 22
  · subst o22
    unfold instrM instrS cV cntS hasS formB argsB
    simp [f0, f1]
    by_cases h3 : to = []
    · subst h3
      simp [belowB]
      simp only [or_assoc, or_comm, or_left_comm]
    · simp [h3]
  have h1 : (cntS op).isSome = false := by unfold cntS; simp [o1, o2, o3, o4, o5, o6, o7, o8, o9, o10, o11, o12, o13, o21, o22]
  have h2 : (decide (op < 1) || decide (13 < op)) = true := by simp; omega
  unfold instrM instrS instrF
  rw [h1]
  have h3 : (op == 21 || op == 22) = false := by simp [o21, o22]
  have h4 : (op == 7 || op == 12) = false := by simp [o7, o12]
  simp only [h3, h2, Bool.false_eq_true, if_false, if_true, Bool.not_false]

end Go.Proofs.Ytbpbpihboenbeaa
