/-
  The statement's own look at an instruction.
-/
import Derived.Test.YtbpbpihboenbeaaDoorIbA
import Derived.Test.YtbpbpihboenbeaaDoorIbB
namespace Go.Proofs.YtbpbpihboenbeaaDoor
open Go.RowKit Go.Maps
set_option linter.unusedSimpArgs false
set_option linter.unusedVariables false

theorem heap_alloc3 (w : World) (o1 o2 o3 : Obj) : (((w.alloc o1).alloc o2).alloc o3).heap[w.heap.size + 2]? = some o3 := by
  have := (heap_alloc2 (w.alloc o1) o2 o3).2
  simpa using this

theorem ne0 (n : Nat) : ((n : Int) != 0) = !(n == 0) := by
  by_cases h : n = 0
  · subst h; rfl
  · have h1 : ((n : Int) == 0) = false := beq_eq_false_iff_ne.2 (by omega)
    have h2 : (n == 0) = false := beq_eq_false_iff_ne.2 h
    unfold bne
    rw [h1, h2]
theorem ne1 (n : Nat) : ((n : Int) != 1) = !(n == 1) := by
  by_cases h : n = 1
  · subst h; rfl
  · have h1 : ((n : Int) == 1) = false := beq_eq_false_iff_ne.2 (by omega)
    have h2 : (n == 1) = false := beq_eq_false_iff_ne.2 h
    unfold bne
    rw [h1, h2]
theorem ne2 (n : Nat) : ((n : Int) != 2) = !(n == 2) := by
  by_cases h : n = 2
  · subst h; rfl
  · have h1 : ((n : Int) == 2) = false := beq_eq_false_iff_ne.2 (by omega)
    have h2 : (n == 2) = false := beq_eq_false_iff_ne.2 h
    unfold bne
    rw [h1, h2]

section
variable {fs : List Cod} {c : Cod} {i : Ins} (h1 : 1 ≤ i.op) (h2 : i.op ≤ 13)
include h1 h2
theorem F_op : (decide (i.op < 1) || decide (13 < i.op)) = false := by simp; omega
theorem F_10 (a : countOk i.op i.ds.length i.ar.length i.to.length = false) : instrF fs c i = 10 := by unfold instrF; rw [F_op h1 h2, a]; rfl
theorem F_2 (a : countOk i.op i.ds.length i.ar.length i.to.length = true) (b : (belowB c.vars i.ds && (belowB c.vars i.ar && belowB c.blocks.length i.to)) = false) : instrF fs c i = 2 := by unfold instrF; rw [F_op h1 h2, a, b]; rfl
theorem F_4 (a : countOk i.op i.ds.length i.ar.length i.to.length = true) (b : (belowB c.vars i.ds && (belowB c.vars i.ar && belowB c.blocks.length i.to)) = true) (d : formB i = false) : instrF fs c i = 4 := by unfold instrF; rw [F_op h1 h2, a, b, d]; rfl
theorem F_11 (a : countOk i.op i.ds.length i.ar.length i.to.length = true) (b : (belowB c.vars i.ds && (belowB c.vars i.ar && belowB c.blocks.length i.to)) = true) (d : formB i = true) (e : argsB c.results i = false) : instrF fs c i = 10 := by unfold instrF; rw [F_op h1 h2, a, b, d, e]; rfl
theorem F_0 (a : countOk i.op i.ds.length i.ar.length i.to.length = true) (b : (belowB c.vars i.ds && (belowB c.vars i.ar && belowB c.blocks.length i.to)) = true) (d : formB i = true) (e : argsB c.results i = true) (f : (i.op == 7) = false) : instrF fs c i = 0 := by unfold instrF; rw [F_op h1 h2, a, b, d, e, f]; rfl
theorem F_7 (a : countOk i.op i.ds.length i.ar.length i.to.length = true) (b : (belowB c.vars i.ds && (belowB c.vars i.ar && belowB c.blocks.length i.to)) = true) (d : formB i = true) (e : argsB c.results i = true) (f : (i.op == 7) = true) : instrF fs c i = invokeF fs i := by unfold instrF; rw [F_op h1 h2, a, b, d, e, f]; rfl
end

/-- what the statement's look at an instruction says -/
def SaidR (k : Int) : Prop := ∀ (ds ar : List Int) (nn : Int) (s : List UInt8) (to : List Int) (c : Cod) (fs : List Cod) (vf vdt vb vd va vt : Value) (B : Nat) (w : World), B ≤ w.heap.size → Cods B w vf fs → (∃ a n k, vdt = .slice a n k) → (∃ a k, vb = .slice a c.blocks.length k) → 1 ≤ c.blocks.length → c.blocks.length ≤ 2000 → 0 ≤ c.vars → c.vars ≤ 3000 →
    Nums B w vd ds → Nums B w va ar → Nums B w vt to → s.length ≤ maxLen →
    Calls Tryd.prog 14 #[prgV vf vdt, codV c vb, insV ⟨k, ds, ar, nn, s, to⟩ vd va vt] w fun e w' => e = .returned (.int .i64 (instrF fs c ⟨k, ds, ar, nn, s, to⟩)) ∧ Below w.heap.size w w'

end Go.Proofs.YtbpbpihboenbeaaDoor
