/-
  The rules of package vm.
-/
import Derived.Test.YtbpbpihboenbeaaSoI
import Derived.Maps.Own
import Derived.WideMake
namespace Go.Proofs.Ytbpbpihboenbeaa
open Go.RowKit
set_option linter.unusedSimpArgs false
set_option linter.unusedVariables false

theorem store_func (P : Program) (w : World) (a : Addr) (f : Fn) (ts cs : Array Value) (m : Mode) : (store a (.func f ts cs) m).run P w = match w.cell? a with
      | some _ => if w.frozen? a then .halt (.unsupported (.unsafePointer "a write to bytes that a string shares")) w else .ok () (w.setCell a (.func f ts cs))
      | none => match w.farStore P a (.func f ts cs) (m == .atomic) with
        | .ok (w', _) => .ok () w'
        | .error h => .halt h w := run_store P w a _ m rfl
theorem cells3 {w : World} {x : Nat} {T : TypeId} {f : Nat × Nat} {c0 c1 c2 : Value} (h : w.heap[x]? = some (.cells #[c0, c1, c2] T f)) : w.cell? ⟨x, 0, none⟩ = some c0 ∧ w.cell? ⟨x, 1, none⟩ = some c1 ∧ w.cell? ⟨x, 2, none⟩ = some c2 := by simp [World.cell?, h]
theorem put3 {w : World} {x : Nat} {T : TypeId} {f : Nat × Nat} {c0 c1 c2 : Value} (h : w.heap[x]? = some (.cells #[c0, c1, c2] T f)) (x1 x2 x3 : Value) :
    (((w.setCell ⟨x, 0, none⟩ x1).setCell ⟨x, 1, none⟩ x2).setCell ⟨x, 2, none⟩ x3).heap[x]? = some (.cells #[x1, x2, x3] T f) := by
  rw [heap_setCell_same (heap_setCell_same (heap_setCell_same h x1) x2) x3]
  simp

def mostN : Int := 36000
/-- how many results, arguments and places an operator has; none: there is no such operator -/
def cntS (op : Int) : Option (Int × Int × Int) := if op == 1 then some (1, 0, 0) else if op == 2 then some (1, 1, 0) else if op == 3 then some (1, 2, 0) else if op == 4 then some (1, 1, 0) else if op == 5 then some (0, 2, 0) else if op == 6 then some (1, 1, 0) else if op == 7 then some (-1, -1, 0) else if op == 8 then some (0, -1, 0) else if op == 9 then some (0, 0, 1) else if op == 10 then some (0, 1, 2) else if op == 11 then some (0, 1, -2) else if op == 12 then some (0, -1, 0) else if op == 13 then some (0, 0, 0) else if op == 21 then some (1, 0, 0) else if op == 22 then some (0, 1, 0) else none
def cV (op : Int) : Int × Int × Int := (cntS op).getD (0, 0, 0)
def bigS (c : Cod) : Bool := decide (8 < c.vars) || decide (3000 < c.slots)
def offS (c : Cod) : Bool := decide (c.vars < 0) || decide (c.slots < c.params)
def hasS (c : Cod) (i : Ins) : Bool := (if i.op == 21 || i.op == 22 then decide (0 ≤ i.n) && decide (i.n < c.slots) else true) && (belowB (if i.op == 7 || i.op == 12 then c.slots else c.vars) i.ds && belowB (if i.op == 7 || i.op == 12 then c.slots else c.vars) i.ar)

def cntEs : Array MapEntry := #[{ key := .int .i64 1, val := .agg #[.int .i64 (1), .int .i64 (0), .int .i64 (0)], born := 0 }, { key := .int .i64 2, val := .agg #[.int .i64 (1), .int .i64 (1), .int .i64 (0)], born := 1 }, { key := .int .i64 3, val := .agg #[.int .i64 (1), .int .i64 (2), .int .i64 (0)], born := 2 }, { key := .int .i64 4, val := .agg #[.int .i64 (1), .int .i64 (1), .int .i64 (0)], born := 3 }, { key := .int .i64 5, val := .agg #[.int .i64 (0), .int .i64 (2), .int .i64 (0)], born := 4 }, { key := .int .i64 6, val := .agg #[.int .i64 (1), .int .i64 (1), .int .i64 (0)], born := 5 }, { key := .int .i64 7, val := .agg #[.int .i64 (-1), .int .i64 (-1), .int .i64 (0)], born := 6 }, { key := .int .i64 8, val := .agg #[.int .i64 (0), .int .i64 (-1), .int .i64 (0)], born := 7 }, { key := .int .i64 9, val := .agg #[.int .i64 (0), .int .i64 (0), .int .i64 (1)], born := 8 }, { key := .int .i64 10, val := .agg #[.int .i64 (0), .int .i64 (1), .int .i64 (2)], born := 9 }, { key := .int .i64 11, val := .agg #[.int .i64 (0), .int .i64 (1), .int .i64 (-2)], born := 10 }, { key := .int .i64 12, val := .agg #[.int .i64 (0), .int .i64 (-1), .int .i64 (0)], born := 11 }, { key := .int .i64 13, val := .agg #[.int .i64 (0), .int .i64 (0), .int .i64 (0)], born := 12 }, { key := .int .i64 21, val := .agg #[.int .i64 (1), .int .i64 (0), .int .i64 (0)], born := 13 }, { key := .int .i64 22, val := .agg #[.int .i64 (0), .int .i64 (1), .int .i64 (0)], born := 14 }]

theorem push_set (a : Array Obj) (o o' : Obj) : (a.push o).setIfInBounds a.size o' = a.push o' := by
  apply Array.ext_getElem?
  intro i
  simp [Array.getElem?_setIfInBounds, Array.getElem?_push]
  split
  · rename_i h; subst h; simp
  · rename_i h
    have : ¬ i = a.size := fun e => h e.symm
    simp [this]

theorem ins_cnt (w : World) (es : Array MapEntry) (c : Nat) (key : Int) (val : Value) (hf : Instr.findNow (.int .i64) (.int .i64 key) es.toList 0 = some none) :
    (Instr.mapUpdate 41 (.map (some w.heap.size)) (.int .i64 key) val).run Try.prog (w.alloc (.map es c)) = .ok () (w.alloc (.map (es.push { key := .int .i64 key, val := val, born := c }) (c + 1))) := by
  have hb : (w.alloc (.map es c)).heap[w.heap.size]? = some (.map es c) := heap_alloc_new w _
  have hc : (Instr.checkKey false 10000 3 (.int .i64 key)).run Try.prog (w.alloc (.map es c)) = .ok () (w.alloc (.map es c)) := MapKept.run_checkKey (k := .int .i64 key) Try.underlying3 (by simp [MapKept.IsKey]) false 9999
  have e : { (w.alloc (.map es c)) with heap := (w.alloc (.map es c)).heap.setIfInBounds w.heap.size (.map (es.push { key := .int .i64 key, val := val, born := c }) (c + 1)) } = w.alloc (.map (es.push { key := .int .i64 key, val := val, born := c }) (c + 1)) := by
    have := push_set w.heap (.map es c) (.map (es.push { key := .int .i64 key, val := val, born := c }) (c + 1))
    unfold World.alloc
    simp only [this]
  rw [← e]
  simp [Instr.mapUpdate, run_underlying Try.underlying41, MapKept.run_getObj_map hb, hc, MapKept.run_findKey Try.underlying3 hf, MapKept.run_setObj_map _ hb, Result.andThen]

set_option maxHeartbeats 4000000 in
set_option maxRecDepth 20000 in
theorem countsOf_any (w : World) :
    Calls Try.prog 13 #[] w fun e w' => e = .returned (.map (some w.heap.size)) ∧ w' = w.alloc (.map cntEs 15) := by
  have hmm := @run_makeMap Try.prog
  have i0 := ins_cnt w #[] 0 1 (.agg #[.int .i64 (1), .int .i64 (0), .int .i64 (0)]) (by kernel_rfl)
  have i1 := ins_cnt w #[{ key := .int .i64 1, val := .agg #[.int .i64 (1), .int .i64 (0), .int .i64 (0)], born := 0 }] 1 2 (.agg #[.int .i64 (1), .int .i64 (1), .int .i64 (0)]) (by kernel_rfl)
  have i2 := ins_cnt w #[{ key := .int .i64 1, val := .agg #[.int .i64 (1), .int .i64 (0), .int .i64 (0)], born := 0 }, { key := .int .i64 2, val := .agg #[.int .i64 (1), .int .i64 (1), .int .i64 (0)], born := 1 }] 2 3 (.agg #[.int .i64 (1), .int .i64 (2), .int .i64 (0)]) (by kernel_rfl)
  have i3 := ins_cnt w #[{ key := .int .i64 1, val := .agg #[.int .i64 (1), .int .i64 (0), .int .i64 (0)], born := 0 }, { key := .int .i64 2, val := .agg #[.int .i64 (1), .int .i64 (1), .int .i64 (0)], born := 1 }, { key := .int .i64 3, val := .agg #[.int .i64 (1), .int .i64 (2), .int .i64 (0)], born := 2 }] 3 4 (.agg #[.int .i64 (1), .int .i64 (1), .int .i64 (0)]) (by kernel_rfl)
  have i4 := ins_cnt w #[{ key := .int .i64 1, val := .agg #[.int .i64 (1), .int .i64 (0), .int .i64 (0)], born := 0 }, { key := .int .i64 2, val := .agg #[.int .i64 (1), .int .i64 (1), .int .i64 (0)], born := 1 }, { key := .int .i64 3, val := .agg #[.int .i64 (1), .int .i64 (2), .int .i64 (0)], born := 2 }, { key := .int .i64 4, val := .agg #[.int .i64 (1), .int .i64 (1), .int .i64 (0)], born := 3 }] 4 5 (.agg #[.int .i64 (0), .int .i64 (2), .int .i64 (0)]) (by kernel_rfl)
  have i5 := ins_cnt w #[{ key := .int .i64 1, val := .agg #[.int .i64 (1), .int .i64 (0), .int .i64 (0)], born := 0 }, { key := .int .i64 2, val := .agg #[.int .i64 (1), .int .i64 (1), .int .i64 (0)], born := 1 }, { key := .int .i64 3, val := .agg #[.int .i64 (1), .int .i64 (2), .int .i64 (0)], born := 2 }, { key := .int .i64 4, val := .agg #[.int .i64 (1), .int .i64 (1), .int .i64 (0)], born := 3 }, { key := .int .i64 5, val := .agg #[.int .i64 (0), .int .i64 (2), .int .i64 (0)], born := 4 }] 5 6 (.agg #[.int .i64 (1), .int .i64 (1), .int .i64 (0)]) (by kernel_rfl)
  have i6 := ins_cnt w #[{ key := .int .i64 1, val := .agg #[.int .i64 (1), .int .i64 (0), .int .i64 (0)], born := 0 }, { key := .int .i64 2, val := .agg #[.int .i64 (1), .int .i64 (1), .int .i64 (0)], born := 1 }, { key := .int .i64 3, val := .agg #[.int .i64 (1), .int .i64 (2), .int .i64 (0)], born := 2 }, { key := .int .i64 4, val := .agg #[.int .i64 (1), .int .i64 (1), .int .i64 (0)], born := 3 }, { key := .int .i64 5, val := .agg #[.int .i64 (0), .int .i64 (2), .int .i64 (0)], born := 4 }, { key := .int .i64 6, val := .agg #[.int .i64 (1), .int .i64 (1), .int .i64 (0)], born := 5 }] 6 7 (.agg #[.int .i64 (-1), .int .i64 (-1), .int .i64 (0)]) (by kernel_rfl)
  have i7 := ins_cnt w #[{ key := .int .i64 1, val := .agg #[.int .i64 (1), .int .i64 (0), .int .i64 (0)], born := 0 }, { key := .int .i64 2, val := .agg #[.int .i64 (1), .int .i64 (1), .int .i64 (0)], born := 1 }, { key := .int .i64 3, val := .agg #[.int .i64 (1), .int .i64 (2), .int .i64 (0)], born := 2 }, { key := .int .i64 4, val := .agg #[.int .i64 (1), .int .i64 (1), .int .i64 (0)], born := 3 }, { key := .int .i64 5, val := .agg #[.int .i64 (0), .int .i64 (2), .int .i64 (0)], born := 4 }, { key := .int .i64 6, val := .agg #[.int .i64 (1), .int .i64 (1), .int .i64 (0)], born := 5 }, { key := .int .i64 7, val := .agg #[.int .i64 (-1), .int .i64 (-1), .int .i64 (0)], born := 6 }] 7 8 (.agg #[.int .i64 (0), .int .i64 (-1), .int .i64 (0)]) (by kernel_rfl)
  have i8 := ins_cnt w #[{ key := .int .i64 1, val := .agg #[.int .i64 (1), .int .i64 (0), .int .i64 (0)], born := 0 }, { key := .int .i64 2, val := .agg #[.int .i64 (1), .int .i64 (1), .int .i64 (0)], born := 1 }, { key := .int .i64 3, val := .agg #[.int .i64 (1), .int .i64 (2), .int .i64 (0)], born := 2 }, { key := .int .i64 4, val := .agg #[.int .i64 (1), .int .i64 (1), .int .i64 (0)], born := 3 }, { key := .int .i64 5, val := .agg #[.int .i64 (0), .int .i64 (2), .int .i64 (0)], born := 4 }, { key := .int .i64 6, val := .agg #[.int .i64 (1), .int .i64 (1), .int .i64 (0)], born := 5 }, { key := .int .i64 7, val := .agg #[.int .i64 (-1), .int .i64 (-1), .int .i64 (0)], born := 6 }, { key := .int .i64 8, val := .agg #[.int .i64 (0), .int .i64 (-1), .int .i64 (0)], born := 7 }] 8 9 (.agg #[.int .i64 (0), .int .i64 (0), .int .i64 (1)]) (by kernel_rfl)
  have i9 := ins_cnt w #[{ key := .int .i64 1, val := .agg #[.int .i64 (1), .int .i64 (0), .int .i64 (0)], born := 0 }, { key := .int .i64 2, val := .agg #[.int .i64 (1), .int .i64 (1), .int .i64 (0)], born := 1 }, { key := .int .i64 3, val := .agg #[.int .i64 (1), .int .i64 (2), .int .i64 (0)], born := 2 }, { key := .int .i64 4, val := .agg #[.int .i64 (1), .int .i64 (1), .int .i64 (0)], born := 3 }, { key := .int .i64 5, val := .agg #[.int .i64 (0), .int .i64 (2), .int .i64 (0)], born := 4 }, { key := .int .i64 6, val := .agg #[.int .i64 (1), .int .i64 (1), .int .i64 (0)], born := 5 }, { key := .int .i64 7, val := .agg #[.int .i64 (-1), .int .i64 (-1), .int .i64 (0)], born := 6 }, { key := .int .i64 8, val := .agg #[.int .i64 (0), .int .i64 (-1), .int .i64 (0)], born := 7 }, { key := .int .i64 9, val := .agg #[.int .i64 (0), .int .i64 (0), .int .i64 (1)], born := 8 }] 9 10 (.agg #[.int .i64 (0), .int .i64 (1), .int .i64 (2)]) (by kernel_rfl)
  have i10 := ins_cnt w #[{ key := .int .i64 1, val := .agg #[.int .i64 (1), .int .i64 (0), .int .i64 (0)], born := 0 }, { key := .int .i64 2, val := .agg #[.int .i64 (1), .int .i64 (1), .int .i64 (0)], born := 1 }, { key := .int .i64 3, val := .agg #[.int .i64 (1), .int .i64 (2), .int .i64 (0)], born := 2 }, { key := .int .i64 4, val := .agg #[.int .i64 (1), .int .i64 (1), .int .i64 (0)], born := 3 }, { key := .int .i64 5, val := .agg #[.int .i64 (0), .int .i64 (2), .int .i64 (0)], born := 4 }, { key := .int .i64 6, val := .agg #[.int .i64 (1), .int .i64 (1), .int .i64 (0)], born := 5 }, { key := .int .i64 7, val := .agg #[.int .i64 (-1), .int .i64 (-1), .int .i64 (0)], born := 6 }, { key := .int .i64 8, val := .agg #[.int .i64 (0), .int .i64 (-1), .int .i64 (0)], born := 7 }, { key := .int .i64 9, val := .agg #[.int .i64 (0), .int .i64 (0), .int .i64 (1)], born := 8 }, { key := .int .i64 10, val := .agg #[.int .i64 (0), .int .i64 (1), .int .i64 (2)], born := 9 }] 10 11 (.agg #[.int .i64 (0), .int .i64 (1), .int .i64 (-2)]) (by kernel_rfl)
  have i11 := ins_cnt w #[{ key := .int .i64 1, val := .agg #[.int .i64 (1), .int .i64 (0), .int .i64 (0)], born := 0 }, { key := .int .i64 2, val := .agg #[.int .i64 (1), .int .i64 (1), .int .i64 (0)], born := 1 }, { key := .int .i64 3, val := .agg #[.int .i64 (1), .int .i64 (2), .int .i64 (0)], born := 2 }, { key := .int .i64 4, val := .agg #[.int .i64 (1), .int .i64 (1), .int .i64 (0)], born := 3 }, { key := .int .i64 5, val := .agg #[.int .i64 (0), .int .i64 (2), .int .i64 (0)], born := 4 }, { key := .int .i64 6, val := .agg #[.int .i64 (1), .int .i64 (1), .int .i64 (0)], born := 5 }, { key := .int .i64 7, val := .agg #[.int .i64 (-1), .int .i64 (-1), .int .i64 (0)], born := 6 }, { key := .int .i64 8, val := .agg #[.int .i64 (0), .int .i64 (-1), .int .i64 (0)], born := 7 }, { key := .int .i64 9, val := .agg #[.int .i64 (0), .int .i64 (0), .int .i64 (1)], born := 8 }, { key := .int .i64 10, val := .agg #[.int .i64 (0), .int .i64 (1), .int .i64 (2)], born := 9 }, { key := .int .i64 11, val := .agg #[.int .i64 (0), .int .i64 (1), .int .i64 (-2)], born := 10 }] 11 12 (.agg #[.int .i64 (0), .int .i64 (-1), .int .i64 (0)]) (by kernel_rfl)
  have i12 := ins_cnt w #[{ key := .int .i64 1, val := .agg #[.int .i64 (1), .int .i64 (0), .int .i64 (0)], born := 0 }, { key := .int .i64 2, val := .agg #[.int .i64 (1), .int .i64 (1), .int .i64 (0)], born := 1 }, { key := .int .i64 3, val := .agg #[.int .i64 (1), .int .i64 (2), .int .i64 (0)], born := 2 }, { key := .int .i64 4, val := .agg #[.int .i64 (1), .int .i64 (1), .int .i64 (0)], born := 3 }, { key := .int .i64 5, val := .agg #[.int .i64 (0), .int .i64 (2), .int .i64 (0)], born := 4 }, { key := .int .i64 6, val := .agg #[.int .i64 (1), .int .i64 (1), .int .i64 (0)], born := 5 }, { key := .int .i64 7, val := .agg #[.int .i64 (-1), .int .i64 (-1), .int .i64 (0)], born := 6 }, { key := .int .i64 8, val := .agg #[.int .i64 (0), .int .i64 (-1), .int .i64 (0)], born := 7 }, { key := .int .i64 9, val := .agg #[.int .i64 (0), .int .i64 (0), .int .i64 (1)], born := 8 }, { key := .int .i64 10, val := .agg #[.int .i64 (0), .int .i64 (1), .int .i64 (2)], born := 9 }, { key := .int .i64 11, val := .agg #[.int .i64 (0), .int .i64 (1), .int .i64 (-2)], born := 10 }, { key := .int .i64 12, val := .agg #[.int .i64 (0), .int .i64 (-1), .int .i64 (0)], born := 11 }] 12 13 (.agg #[.int .i64 (0), .int .i64 (0), .int .i64 (0)]) (by kernel_rfl)
  have i13 := ins_cnt w #[{ key := .int .i64 1, val := .agg #[.int .i64 (1), .int .i64 (0), .int .i64 (0)], born := 0 }, { key := .int .i64 2, val := .agg #[.int .i64 (1), .int .i64 (1), .int .i64 (0)], born := 1 }, { key := .int .i64 3, val := .agg #[.int .i64 (1), .int .i64 (2), .int .i64 (0)], born := 2 }, { key := .int .i64 4, val := .agg #[.int .i64 (1), .int .i64 (1), .int .i64 (0)], born := 3 }, { key := .int .i64 5, val := .agg #[.int .i64 (0), .int .i64 (2), .int .i64 (0)], born := 4 }, { key := .int .i64 6, val := .agg #[.int .i64 (1), .int .i64 (1), .int .i64 (0)], born := 5 }, { key := .int .i64 7, val := .agg #[.int .i64 (-1), .int .i64 (-1), .int .i64 (0)], born := 6 }, { key := .int .i64 8, val := .agg #[.int .i64 (0), .int .i64 (-1), .int .i64 (0)], born := 7 }, { key := .int .i64 9, val := .agg #[.int .i64 (0), .int .i64 (0), .int .i64 (1)], born := 8 }, { key := .int .i64 10, val := .agg #[.int .i64 (0), .int .i64 (1), .int .i64 (2)], born := 9 }, { key := .int .i64 11, val := .agg #[.int .i64 (0), .int .i64 (1), .int .i64 (-2)], born := 10 }, { key := .int .i64 12, val := .agg #[.int .i64 (0), .int .i64 (-1), .int .i64 (0)], born := 11 }, { key := .int .i64 13, val := .agg #[.int .i64 (0), .int .i64 (0), .int .i64 (0)], born := 12 }] 13 21 (.agg #[.int .i64 (1), .int .i64 (0), .int .i64 (0)]) (by kernel_rfl)
  have i14 := ins_cnt w #[{ key := .int .i64 1, val := .agg #[.int .i64 (1), .int .i64 (0), .int .i64 (0)], born := 0 }, { key := .int .i64 2, val := .agg #[.int .i64 (1), .int .i64 (1), .int .i64 (0)], born := 1 }, { key := .int .i64 3, val := .agg #[.int .i64 (1), .int .i64 (2), .int .i64 (0)], born := 2 }, { key := .int .i64 4, val := .agg #[.int .i64 (1), .int .i64 (1), .int .i64 (0)], born := 3 }, { key := .int .i64 5, val := .agg #[.int .i64 (0), .int .i64 (2), .int .i64 (0)], born := 4 }, { key := .int .i64 6, val := .agg #[.int .i64 (1), .int .i64 (1), .int .i64 (0)], born := 5 }, { key := .int .i64 7, val := .agg #[.int .i64 (-1), .int .i64 (-1), .int .i64 (0)], born := 6 }, { key := .int .i64 8, val := .agg #[.int .i64 (0), .int .i64 (-1), .int .i64 (0)], born := 7 }, { key := .int .i64 9, val := .agg #[.int .i64 (0), .int .i64 (0), .int .i64 (1)], born := 8 }, { key := .int .i64 10, val := .agg #[.int .i64 (0), .int .i64 (1), .int .i64 (2)], born := 9 }, { key := .int .i64 11, val := .agg #[.int .i64 (0), .int .i64 (1), .int .i64 (-2)], born := 10 }, { key := .int .i64 12, val := .agg #[.int .i64 (0), .int .i64 (-1), .int .i64 (0)], born := 11 }, { key := .int .i64 13, val := .agg #[.int .i64 (0), .int .i64 (0), .int .i64 (0)], born := 12 }, { key := .int .i64 21, val := .agg #[.int .i64 (1), .int .i64 (0), .int .i64 (0)], born := 13 }] 14 22 (.agg #[.int .i64 (0), .int .i64 (1), .int .i64 (0)]) (by kernel_rfl)
  simp only [List.push_toArray, List.cons_append, List.nil_append, Nat.reduceAdd] at i0 i1 i2 i3 i4 i5 i6 i7 i8 i9 i10 i11 i12 i13 i14
  go_enter Try.func13, Try.ntmps13
  go_wp2
  go_ret
  exact ⟨rfl, rfl⟩

theorem find_cnt (op : Int) : Instr.findNow (.int .i64) (.int .i64 op) cntEs.toList 0 = some (if op == 1 then some (0, .agg #[.int .i64 (1), .int .i64 (0), .int .i64 (0)]) else if op == 2 then some (1, .agg #[.int .i64 (1), .int .i64 (1), .int .i64 (0)]) else if op == 3 then some (2, .agg #[.int .i64 (1), .int .i64 (2), .int .i64 (0)]) else if op == 4 then some (3, .agg #[.int .i64 (1), .int .i64 (1), .int .i64 (0)]) else if op == 5 then some (4, .agg #[.int .i64 (0), .int .i64 (2), .int .i64 (0)]) else if op == 6 then some (5, .agg #[.int .i64 (1), .int .i64 (1), .int .i64 (0)]) else if op == 7 then some (6, .agg #[.int .i64 (-1), .int .i64 (-1), .int .i64 (0)]) else if op == 8 then some (7, .agg #[.int .i64 (0), .int .i64 (-1), .int .i64 (0)]) else if op == 9 then some (8, .agg #[.int .i64 (0), .int .i64 (0), .int .i64 (1)]) else if op == 10 then some (9, .agg #[.int .i64 (0), .int .i64 (1), .int .i64 (2)]) else if op == 11 then some (10, .agg #[.int .i64 (0), .int .i64 (1), .int .i64 (-2)]) else if op == 12 then some (11, .agg #[.int .i64 (0), .int .i64 (-1), .int .i64 (0)]) else if op == 13 then some (12, .agg #[.int .i64 (0), .int .i64 (0), .int .i64 (0)]) else if op == 21 then some (13, .agg #[.int .i64 (1), .int .i64 (0), .int .i64 (0)]) else if op == 22 then some (14, .agg #[.int .i64 (0), .int .i64 (1), .int .i64 (0)]) else none) := by
  simp only [cntEs, Instr.findNow, Instr.sameNow]
  rcases h0 : (op == 1) with _ | _
  · simp only [Bool.false_eq_true, if_false]
    rcases h1 : (op == 2) with _ | _
    · simp only [Bool.false_eq_true, if_false]
      rcases h2 : (op == 3) with _ | _
      · simp only [Bool.false_eq_true, if_false]
        rcases h3 : (op == 4) with _ | _
        · simp only [Bool.false_eq_true, if_false]
          rcases h4 : (op == 5) with _ | _
          · simp only [Bool.false_eq_true, if_false]
            rcases h5 : (op == 6) with _ | _
            · simp only [Bool.false_eq_true, if_false]
              rcases h6 : (op == 7) with _ | _
              · simp only [Bool.false_eq_true, if_false]
                rcases h7 : (op == 8) with _ | _
                · simp only [Bool.false_eq_true, if_false]
                  rcases h8 : (op == 9) with _ | _
                  · simp only [Bool.false_eq_true, if_false]
                    rcases h9 : (op == 10) with _ | _
                    · simp only [Bool.false_eq_true, if_false]
                      rcases h10 : (op == 11) with _ | _
                      · simp only [Bool.false_eq_true, if_false]
                        rcases h11 : (op == 12) with _ | _
                        · simp only [Bool.false_eq_true, if_false]
                          rcases h12 : (op == 13) with _ | _
                          · simp only [Bool.false_eq_true, if_false]
                            rcases h13 : (op == 21) with _ | _
                            · simp only [Bool.false_eq_true, if_false]
                              rcases h14 : (op == 22) with _ | _
                              · simp only [Bool.false_eq_true, if_false]
                                rfl
                              · rfl
                            · rfl
                          · rfl
                        · rfl
                      · rfl
                    · rfl
                  · rfl
                · rfl
              · rfl
            · rfl
          · rfl
        · rfl
      · rfl
    · rfl
  · rfl

theorem zeroCnt (w : World) : (zeroValue 44).run Try.prog w = .ok (.agg #[.int .i64 0, .int .i64 0, .int .i64 0]) w := by kernel_rfl

theorem look_cnt (W : World) (B : Nat) (op : Int) (hb : W.heap[B]? = some (.map cntEs 15)) :
    (Instr.lookup 41 (.map (some B)) (.int .i64 op) true).run Try.prog W = .ok (.tuple #[.agg #[.int .i64 (cV op).1, .int .i64 (cV op).2.1, .int .i64 (cV op).2.2], .bool (cntS op).isSome]) W := by
  have hc : ∀ e, (Instr.checkKey e 10000 3 (.int .i64 op)).run Try.prog W = .ok () W := fun e => MapKept.run_checkKey (k := .int .i64 op) Try.underlying3 (by simp [MapKept.IsKey]) e 9999
  have hf := MapKept.run_findKey (P := Try.prog) (w := W) Try.underlying3 (find_cnt op)
  unfold cV cntS
  rcases h0 : (op == 1) with _ | _
  · simp only [h0, Bool.false_eq_true, if_false] at hf ⊢
    rcases h1 : (op == 2) with _ | _
    · simp only [h1, Bool.false_eq_true, if_false] at hf ⊢
      rcases h2 : (op == 3) with _ | _
      · simp only [h2, Bool.false_eq_true, if_false] at hf ⊢
        rcases h3 : (op == 4) with _ | _
        · simp only [h3, Bool.false_eq_true, if_false] at hf ⊢
          rcases h4 : (op == 5) with _ | _
          · simp only [h4, Bool.false_eq_true, if_false] at hf ⊢
            rcases h5 : (op == 6) with _ | _
            · simp only [h5, Bool.false_eq_true, if_false] at hf ⊢
              rcases h6 : (op == 7) with _ | _
              · simp only [h6, Bool.false_eq_true, if_false] at hf ⊢
                rcases h7 : (op == 8) with _ | _
                · simp only [h7, Bool.false_eq_true, if_false] at hf ⊢
                  rcases h8 : (op == 9) with _ | _
                  · simp only [h8, Bool.false_eq_true, if_false] at hf ⊢
                    rcases h9 : (op == 10) with _ | _
                    · simp only [h9, Bool.false_eq_true, if_false] at hf ⊢
                      rcases h10 : (op == 11) with _ | _
                      · simp only [h10, Bool.false_eq_true, if_false] at hf ⊢
                        rcases h11 : (op == 12) with _ | _
                        · simp only [h11, Bool.false_eq_true, if_false] at hf ⊢
                          rcases h12 : (op == 13) with _ | _
                          · simp only [h12, Bool.false_eq_true, if_false] at hf ⊢
                            rcases h13 : (op == 21) with _ | _
                            · simp only [h13, Bool.false_eq_true, if_false] at hf ⊢
                              rcases h14 : (op == 22) with _ | _
                              · simp only [h14, Bool.false_eq_true, if_false] at hf ⊢
                                simp [Instr.lookup, run_underlying Try.underlying41, MapKept.run_getObj_map hb, hc, hf, zeroCnt, Result.andThen]
                              · simp only [h14, if_true] at hf ⊢
                                simp [Instr.lookup, run_underlying Try.underlying41, MapKept.run_getObj_map hb, hc, hf, zeroCnt, Result.andThen]
                            · simp only [h13, if_true] at hf ⊢
                              simp [Instr.lookup, run_underlying Try.underlying41, MapKept.run_getObj_map hb, hc, hf, zeroCnt, Result.andThen]
                          · simp only [h12, if_true] at hf ⊢
                            simp [Instr.lookup, run_underlying Try.underlying41, MapKept.run_getObj_map hb, hc, hf, zeroCnt, Result.andThen]
                        · simp only [h11, if_true] at hf ⊢
                          simp [Instr.lookup, run_underlying Try.underlying41, MapKept.run_getObj_map hb, hc, hf, zeroCnt, Result.andThen]
                      · simp only [h10, if_true] at hf ⊢
                        simp [Instr.lookup, run_underlying Try.underlying41, MapKept.run_getObj_map hb, hc, hf, zeroCnt, Result.andThen]
                    · simp only [h9, if_true] at hf ⊢
                      simp [Instr.lookup, run_underlying Try.underlying41, MapKept.run_getObj_map hb, hc, hf, zeroCnt, Result.andThen]
                  · simp only [h8, if_true] at hf ⊢
                    simp [Instr.lookup, run_underlying Try.underlying41, MapKept.run_getObj_map hb, hc, hf, zeroCnt, Result.andThen]
                · simp only [h7, if_true] at hf ⊢
                  simp [Instr.lookup, run_underlying Try.underlying41, MapKept.run_getObj_map hb, hc, hf, zeroCnt, Result.andThen]
              · simp only [h6, if_true] at hf ⊢
                simp [Instr.lookup, run_underlying Try.underlying41, MapKept.run_getObj_map hb, hc, hf, zeroCnt, Result.andThen]
            · simp only [h5, if_true] at hf ⊢
              simp [Instr.lookup, run_underlying Try.underlying41, MapKept.run_getObj_map hb, hc, hf, zeroCnt, Result.andThen]
          · simp only [h4, if_true] at hf ⊢
            simp [Instr.lookup, run_underlying Try.underlying41, MapKept.run_getObj_map hb, hc, hf, zeroCnt, Result.andThen]
        · simp only [h3, if_true] at hf ⊢
          simp [Instr.lookup, run_underlying Try.underlying41, MapKept.run_getObj_map hb, hc, hf, zeroCnt, Result.andThen]
      · simp only [h2, if_true] at hf ⊢
        simp [Instr.lookup, run_underlying Try.underlying41, MapKept.run_getObj_map hb, hc, hf, zeroCnt, Result.andThen]
    · simp only [h1, if_true] at hf ⊢
      simp [Instr.lookup, run_underlying Try.underlying41, MapKept.run_getObj_map hb, hc, hf, zeroCnt, Result.andThen]
  · simp only [h0, if_true] at hf ⊢
    simp [Instr.lookup, run_underlying Try.underlying41, MapKept.run_getObj_map hb, hc, hf, zeroCnt, Result.andThen]

/-- what the rules stand on: the table of counts, and the variable that holds it -/
def RInv (w : World) (B qc : Nat) : Prop := ∃ g, g < B ∧ qc < B ∧ w.heap[qc]? = some (.cells #[.map (some g)] 41) ∧ w.heap[g]? = some (.map cntEs 15)
theorem RInv.below {w w' : World} {B N qc : Nat} (h : RInv w B qc) (hN : B ≤ N) (k : Below N w w') : RInv w' B qc := by
  obtain ⟨g, h1, h2, h3, h4⟩ := h
  exact ⟨g, h1, h2, (k.block _ (by omega)).trans h3, (k.block _ (by omega)).trans h4⟩

set_option maxHeartbeats 2000000 in
theorem cnt_any (op : Int) (B qc : Nat) (w : World) (h : RInv w B qc) (hB : B ≤ w.heap.size) : Calls Try.prog 14 #[.int .i64 op, .pointer (some ⟨qc, 0, none⟩)] w fun e w' => e = .returned (.tuple #[.agg #[.int .i64 (cV op).1, .int .i64 (cV op).2.1, .int .i64 (cV op).2.2], .bool (cntS op).isSome]) ∧ Below w.heap.size w w' := by
  obtain ⟨g, hg, hq, hqc, hes⟩ := h.below (Nat.le_refl _) ((below_alloc w (.cells #[.int .i64 0, .int .i64 0, .int .i64 0] 44)).mono hB)
  have hl := look_cnt _ g op hes
  have hq0 : (w.alloc (.cells #[.int .i64 0, .int .i64 0, .int .i64 0] 44)).cell? ⟨qc, 0, none⟩ = some (.map (some g)) := by simp only [World.cell?, hqc]; rfl
  obtain ⟨x1, x2, x3⟩ : ∃ x : Int × Int × Int, x = cV op := ⟨_, rfl⟩
  generalize (cV op).1 = x1 at hl ⊢
  generalize (cV op).2.1 = x2 at hl ⊢
  generalize (cV op).2.2 = x3 at hl ⊢
  generalize (cntS op).isSome = ok at hl ⊢
  obtain ⟨m0, m1, m2⟩ := cells3 (heap_alloc_new w (.cells #[.int .i64 x1, .int .i64 x2, .int .i64 x3] 44))
  clear h hes hqc
  go_enter Try.func14, Try.ntmps14
  go_wp2_with fail
  exact bodyPost_ret (v := .tuple #[.agg #[.int .i64 x1, .int .i64 x2, .int .i64 x3], .bool ok]) (by simp [results, Try.results14, go_sem, m0, m1, m2]) rfl ⟨rfl, below_after (below_alloc _ _) (below_alloc _ _)⟩

set_option maxHeartbeats 1000000 in
theorem big_any (c : Cod) (a : Option Addr) (n k : Nat) (w : World) : Calls Try.prog 15 #[codV c (.slice a n k)] w fun e w' => e = .returned (.bool (bigS c)) ∧ Below w.heap.size w w' := by
  obtain ⟨name, params, results, vars, slots, blocks⟩ := c
  unfold codV bigS
  simp only
  by_cases h1 : 8 < vars
  · go_enter Try.func15, Try.ntmps15
    go_wp2_with fail
    go_ret
    exact ⟨by simp [h1], below_alloc _ _⟩
  · by_cases h2 : 3000 < slots <;>
     (go_enter Try.func15, Try.ntmps15
      go_wp2_with fail
      go_ret
      exact ⟨by simp [h1, h2], below_alloc _ _⟩)

set_option maxHeartbeats 1000000 in
theorem off_any (c : Cod) (a : Option Addr) (n k : Nat) (w : World) : Calls Try.prog 16 #[codV c (.slice a n k)] w fun e w' => e = .returned (.bool (offS c)) ∧ Below w.heap.size w w' := by
  obtain ⟨name, params, results, vars, slots, blocks⟩ := c
  unfold codV offS
  simp only
  by_cases h1 : vars < 0
  · go_enter Try.func16, Try.ntmps16
    go_wp2_with fail
    go_ret
    exact ⟨by simp [h1], below_alloc _ _⟩
  · by_cases h2 : slots < params <;>
     (go_enter Try.func16, Try.ntmps16
      go_wp2_with fail
      go_ret
      exact ⟨by simp [h1, h2], below_alloc _ _⟩)

set_option maxHeartbeats 4000000 in
theorem has_any (c : Cod) (i : Ins) (ab : Option Addr) (nb kb : Nat) (vd va vt : Value) (B : Nat) (w : World) (hB : B ≤ w.heap.size) (hd : Nums B w vd i.ds) (ha : Nums B w va i.ar) (ht : ∃ a n k, vt = .slice a n k) :
    Calls Try.prog 17 #[codV c (.slice ab nb kb), insV i vd va vt] w fun e w' => e = .returned (.bool (hasS c i)) ∧ Below w.heap.size w w' := by
  obtain ⟨ad, cd, rfl⟩ := Lies.slice hd
  obtain ⟨aa, ca, rfl⟩ := Lies.slice ha
  obtain ⟨at', nt, ct, rfl⟩ := ht
  have HD : Hid (Nums B w _ _) := hd
  have HA : Hid (Nums B w _ _) := ha
  clear hd ha
  obtain ⟨op, ds, ar, nn, s, to⟩ := i
  obtain ⟨name, params, results, vars, slots, blocks⟩ := c
  unfold codV insV hasS
  simp only at HD HA ⊢
  obtain ⟨W, hW⟩ : ∃ W, W = (w.alloc (Obj.cells #[.string ⟨name.toArray⟩, .int .i64 params, .int .i64 results, .int .i64 vars, .int .i64 slots, .slice ab nb kb] 39)).alloc (Obj.cells #[Value.int IntKind.i64 op, Value.slice ad ds.length cd, Value.slice aa ar.length ca, Value.int IntKind.i64 nn, Value.string ⟨s.toArray⟩, Value.slice at' nt ct] 54) := ⟨_, rfl⟩
  have HW : Hid (Below w.heap.size w W) := by rw [hW]; exact below_after (below_alloc _ _) (below_alloc _ _)
  have hWs : W.heap.size = w.heap.size + 2 := by rw [hW]; simp
  have HC1 : Hid (W.heap[w.heap.size]? = some (Obj.cells #[.string ⟨name.toArray⟩, .int .i64 params, .int .i64 results, .int .i64 vars, .int .i64 slots, .slice ab nb kb] 39)) := by rw [hW]; exact (heap_alloc2 w _ _).1
  have HC2 : Hid (W.heap[w.heap.size + 1]? = some (Obj.cells #[Value.int IntKind.i64 op, Value.slice ad ds.length cd, Value.slice aa ar.length ca, Value.int IntKind.i64 nn, Value.string ⟨s.toArray⟩, Value.slice at' nt ct] 54)) := by rw [hW]; exact (heap_alloc2 w _ _).2
  have HWS : Hid (W = _) := hW
  clear hW
  rcases g7 : (op == 7) with _ | _
  · rcases g12 : (op == 12) with _ | _
    · rcases g21 : (op == 21) with _ | _
      · rcases g22 : (op == 22) with _ | _
        · go_enter Try.func17, Try.ntmps17
          go_wp2_with fail
          rw [← HWS.out]
          refine (below_any vars B _ ds W (by omega) (HD.out.below (HW.out.mono hB))).mono ?_
          rintro e w1 ⟨rfl, hb1⟩
          have HB1 : Hid (Below w.heap.size w w1) := below_after HW.out hb1
          have p1 := cells6 ((hb1.block _ (by omega)).trans HC1.out)
          have p2 := cells6 ((hb1.block _ (by omega)).trans HC2.out)
          have hs1 := hb1.size
          clear hb1
          rcases hb1 : belowB vars ds with _ | _
          · skip
            go_wp2_with fail
            go_ret
            exact ⟨by simp [hb1], HB1.out⟩
          · go_wp2_with fail
            refine (below_any vars B _ ar w1 (by omega) (HA.out.below (HB1.out.mono hB))).mono ?_
            rintro e w2 ⟨rfl, hb2⟩
            have HB2 : Hid (Below w.heap.size w w2) := below_after HB1.out hb2
            clear hb2 p1 p2
            go_wp2_with fail
            go_ret
            exact ⟨by simp [hb1], HB2.out⟩
          
        · by_cases k1 : nn < 0
          · go_enter Try.func17, Try.ntmps17
            go_wp2_with fail
            go_ret
            exact ⟨by simp; omega, HWS.out ▸ HW.out⟩
            
          by_cases k2 : slots ≤ nn
          · have k2' : nn ≥ slots := k2
            go_enter Try.func17, Try.ntmps17
            go_wp2_with fail
            go_ret
            exact ⟨by simp; omega, HWS.out ▸ HW.out⟩
          have k2' : ¬ nn ≥ slots := k2
          have e1 : (decide (0 ≤ nn) && decide (nn < slots)) = true := by simp; omega
          go_enter Try.func17, Try.ntmps17
          go_wp2_with fail
          rw [← HWS.out]
          refine (below_any vars B _ ds W (by omega) (HD.out.below (HW.out.mono hB))).mono ?_
          rintro e w1 ⟨rfl, hb1⟩
          have HB1 : Hid (Below w.heap.size w w1) := below_after HW.out hb1
          have p1 := cells6 ((hb1.block _ (by omega)).trans HC1.out)
          have p2 := cells6 ((hb1.block _ (by omega)).trans HC2.out)
          have hs1 := hb1.size
          clear hb1
          rcases hb1 : belowB vars ds with _ | _
          · skip
            go_wp2_with fail
            go_ret
            exact ⟨by simp [hb1, e1], HB1.out⟩
          · go_wp2_with fail
            refine (below_any vars B _ ar w1 (by omega) (HA.out.below (HB1.out.mono hB))).mono ?_
            rintro e w2 ⟨rfl, hb2⟩
            have HB2 : Hid (Below w.heap.size w w2) := below_after HB1.out hb2
            clear hb2 p1 p2
            go_wp2_with fail
            go_ret
            exact ⟨by simp [hb1, e1], HB2.out⟩
      · by_cases k1 : nn < 0
        · go_enter Try.func17, Try.ntmps17
          go_wp2_with fail
          go_ret
          exact ⟨by simp; omega, HWS.out ▸ HW.out⟩
          
        by_cases k2 : slots ≤ nn
        · have k2' : nn ≥ slots := k2
          go_enter Try.func17, Try.ntmps17
          go_wp2_with fail
          go_ret
          exact ⟨by simp; omega, HWS.out ▸ HW.out⟩
        have k2' : ¬ nn ≥ slots := k2
        have e1 : (decide (0 ≤ nn) && decide (nn < slots)) = true := by simp; omega
        go_enter Try.func17, Try.ntmps17
        go_wp2_with fail
        rw [← HWS.out]
        refine (below_any vars B _ ds W (by omega) (HD.out.below (HW.out.mono hB))).mono ?_
        rintro e w1 ⟨rfl, hb1⟩
        have HB1 : Hid (Below w.heap.size w w1) := below_after HW.out hb1
        have p1 := cells6 ((hb1.block _ (by omega)).trans HC1.out)
        have p2 := cells6 ((hb1.block _ (by omega)).trans HC2.out)
        have hs1 := hb1.size
        clear hb1
        rcases hb1 : belowB vars ds with _ | _
        · skip
          go_wp2_with fail
          go_ret
          exact ⟨by simp [hb1, e1], HB1.out⟩
        · go_wp2_with fail
          refine (below_any vars B _ ar w1 (by omega) (HA.out.below (HB1.out.mono hB))).mono ?_
          rintro e w2 ⟨rfl, hb2⟩
          have HB2 : Hid (Below w.heap.size w w2) := below_after HB1.out hb2
          clear hb2 p1 p2
          go_wp2_with fail
          go_ret
          exact ⟨by simp [hb1, e1], HB2.out⟩
    · have : op = 12 := by simpa using g12
      subst this
      go_enter Try.func17, Try.ntmps17
      go_wp2_with fail
      rw [← HWS.out]
      refine (below_any slots B _ ds W (by omega) (HD.out.below (HW.out.mono hB))).mono ?_
      rintro e w1 ⟨rfl, hb1⟩
      have HB1 : Hid (Below w.heap.size w w1) := below_after HW.out hb1
      have p1 := cells6 ((hb1.block _ (by omega)).trans HC1.out)
      have p2 := cells6 ((hb1.block _ (by omega)).trans HC2.out)
      have hs1 := hb1.size
      clear hb1
      rcases hb1 : belowB slots ds with _ | _
      · skip
        go_wp2_with fail
        go_ret
        exact ⟨by simp [hb1], HB1.out⟩
      · go_wp2_with fail
        refine (below_any slots B _ ar w1 (by omega) (HA.out.below (HB1.out.mono hB))).mono ?_
        rintro e w2 ⟨rfl, hb2⟩
        have HB2 : Hid (Below w.heap.size w w2) := below_after HB1.out hb2
        clear hb2 p1 p2
        go_wp2_with fail
        go_ret
        exact ⟨by simp [hb1], HB2.out⟩
      
  · have : op = 7 := by simpa using g7
    subst this
    go_enter Try.func17, Try.ntmps17
    go_wp2_with fail
    rw [← HWS.out]
    refine (below_any slots B _ ds W (by omega) (HD.out.below (HW.out.mono hB))).mono ?_
    rintro e w1 ⟨rfl, hb1⟩
    have HB1 : Hid (Below w.heap.size w w1) := below_after HW.out hb1
    have p1 := cells6 ((hb1.block _ (by omega)).trans HC1.out)
    have p2 := cells6 ((hb1.block _ (by omega)).trans HC2.out)
    have hs1 := hb1.size
    clear hb1
    rcases hb1 : belowB slots ds with _ | _
    · skip
      go_wp2_with fail
      go_ret
      exact ⟨by simp [hb1], HB1.out⟩
    · go_wp2_with fail
      refine (below_any slots B _ ar w1 (by omega) (HA.out.below (HB1.out.mono hB))).mono ?_
      rintro e w2 ⟨rfl, hb2⟩
      have HB2 : Hid (Below w.heap.size w w2) := below_after HB1.out hb2
      clear hb2 p1 p2
      go_wp2_with fail
      go_ret
      exact ⟨by simp [hb1], HB2.out⟩
    

end Go.Proofs.Ytbpbpihboenbeaa
