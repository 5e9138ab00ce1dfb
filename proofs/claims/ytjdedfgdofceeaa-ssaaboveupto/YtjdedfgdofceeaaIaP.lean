/-
  Plain facts on worlds, rows of cells and code.
-/
import Derived.Test.YtjdedfgdofceeaaIaA
namespace Go.Proofs.Ytjdedfgdofceeaa
open Go.RowKit
set_option linter.unusedSimpArgs false
set_option linter.unusedVariables false

theorem below_after {w w1 w2 : World} (h : Below w.heap.size w w1) (k : Below w1.heap.size w1 w2) : Below w.heap.size w w2 :=
  ⟨k.os.trans h.os, k.tape.trans h.tape, k.output.trans h.output, Nat.le_trans h.size k.size, fun i hi => (k.block i (Nat.lt_of_lt_of_le hi h.size)).trans (h.block i hi)⟩

theorem below_alloc (w : World) (o : Obj) : Below w.heap.size w (w.alloc o) := (Below.refl _ _).alloc (Nat.le_refl _) _

theorem blk_alloc {w : World} {x : Nat} {o' : Obj} (h : w.heap[x]? = some o') (o : Obj) : (w.alloc o).heap[x]? = some o' := by
  have hx : x < w.heap.size := by
    rcases Nat.lt_or_ge x w.heap.size with hb | hb
    · exact hb
    · rw [Array.getElem?_eq_none hb] at h; cases h
  rw [Below.heap_alloc _ _ _ hx]; exact h

theorem heap_alloc2 (w : World) (o1 o2 : Obj) : ((w.alloc o1).alloc o2).heap[w.heap.size]? = some o1 ∧ ((w.alloc o1).alloc o2).heap[w.heap.size + 1]? = some o2 := by
  refine ⟨blk_alloc (heap_alloc_new w o1) o2, ?_⟩
  have := heap_alloc_new (w.alloc o1) o2
  simpa using this

/-- the value of an instruction, of code -/
def insV (i : Ins) (vd va vt : Value) : Value := .agg #[.int .i64 i.op, vd, va, .int .i64 i.n, .string ⟨i.s.toArray⟩, vt]

def codV (c : Cod) (vb : Value) : Value := .agg #[.string ⟨c.name.toArray⟩, .int .i64 c.params, .int .i64 c.results, .int .i64 c.vars, .int .i64 c.slots, vb]

theorem all_true {A : Type} {l : List A} {P : A → Bool} (h : ∀ (j : Nat) (x : A), l[j]? = some x → P x = true) : l.all P = true := by
  rw [List.all_eq_true]
  intro x hx
  obtain ⟨j, hj⟩ := List.getElem?_of_mem hx
  exact h j x hj

theorem all_false {A : Type} {l : List A} {P : A → Bool} {j : Nat} {x : A} (h : l[j]? = some x) (hp : P x = false) : l.all P = false := by
  rw [List.all_eq_false]
  exact ⟨x, List.mem_of_getElem? h, by simp [hp]⟩

theorem cells6 {w : World} {x : Nat} {T : TypeId} {f : Nat × Nat} {c0 c1 c2 c3 c4 c5 : Value} (h : w.heap[x]? = some (.cells #[c0, c1, c2, c3, c4, c5] T f)) :
    w.cell? ⟨x, 0, none⟩ = some c0 ∧ w.cell? ⟨x, 1, none⟩ = some c1 ∧ w.cell? ⟨x, 2, none⟩ = some c2 ∧ w.cell? ⟨x, 3, none⟩ = some c3 ∧ w.cell? ⟨x, 4, none⟩ = some c4 ∧ w.cell? ⟨x, 5, none⟩ = some c5 := by
  simp [World.cell?, h]

def dupN : List Cod → Bool
  | [] => false
  | c :: cs => cs.any (fun d => d.name == c.name) || dupN cs

theorem lt_of_block {w : World} {x : Nat} {o : Obj} (h : w.heap[x]? = some o) : x < w.heap.size := by
  rcases Nat.lt_or_ge x w.heap.size with hb | hb
  · exact hb
  · rw [Array.getElem?_eq_none hb] at h; cases h

theorem firstNZ_step (E : Nat → Int) (i n : Nat) (h : (E i != 0) = false) : firstNZ E i (n + 1) = firstNZ E (i + 1) n := by
  show (if (E i != 0) = true then E i else firstNZ E (i + 1) n) = _
  rw [h]
  rfl

theorem firstNZ_hit (E : Nat → Int) (i n : Nat) (h : (E i != 0) = true) : firstNZ E i (n + 1) = E i := by
  show (if (E i != 0) = true then E i else firstNZ E (i + 1) n) = _
  rw [h]
  rfl

theorem heap_setCell_same {w : World} {b o : Nat} {c : Array Value} {T : TypeId} {f : Nat × Nat} (h : w.heap[b]? = some (.cells c T f)) (v : Value) :
    (w.setCell ⟨b, o, none⟩ v).heap[b]? = some (.cells (c.setIfInBounds o v) T f) := by
  simp [World.setCell, Array.getElem?_modify, h]

def prgV (vf vd : Value) : Value := .agg #[vf, vd]

theorem cells2 {w : World} {x : Nat} {T : TypeId} {f : Nat × Nat} {c0 c1 : Value} (h : w.heap[x]? = some (.cells #[c0, c1] T f)) : w.cell? ⟨x, 0, none⟩ = some c0 ∧ w.cell? ⟨x, 1, none⟩ = some c1 := by simp [World.cell?, h]

end Go.Proofs.Ytjdedfgdofceeaa
