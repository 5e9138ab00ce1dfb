/-
  The rules of package ir.
-/
import Derived.Test.YtbpbpihboenbeaaDoorSoI
import Derived.Test.YtbpbpihboenbeaaDoorSoD
namespace Go.Proofs.YtbpbpihboenbeaaDoor
open Go.RowKit
set_option linter.unusedSimpArgs false
set_option linter.unusedVariables false

theorem store_func (P : Program) (w : World) (a : Addr) (f : Fn) (ts cs : Array Value) (m : Mode) : (store a (.func f ts cs) m).run P w = match w.cell? a with
      | some _ => if w.frozen? a then .halt (.unsupported (.unsafePointer "a write to bytes that a string shares")) w else .ok () (w.setCell a (.func f ts cs))
      | none => match w.farStore P a (.func f ts cs) (m == .atomic) with
        | .ok (w', _) => .ok () w'
        | .error h => .halt h w := run_store P w a _ m rfl
theorem cells3 {w : World} {x : Nat} {T : TypeId} {f : Nat × Nat} {c0 c1 c2 : Value} (h : w.heap[x]? = some (.cells #[c0, c1, c2] T f)) : w.cell? ⟨x, 0, none⟩ = some c0 ∧ w.cell? ⟨x, 1, none⟩ = some c1 ∧ w.cell? ⟨x, 2, none⟩ = some c2 := by simp [World.cell?, h]
theorem put3 {w : World} {x : Nat} {T : TypeId} {f : Nat × Nat} {c0 c1 c2 : Value} (h : w.heap[x]? = some (.cells #[c0, c1, c2] T f)) (x1 x2 x3 : Value) :
    (((w.setCell ⟨x, 0, none⟩ x1).setCell ⟨x, 1, none⟩ x2).setCell ⟨x, 2, none⟩ x3).heap[x]? = some (.cells #[x1, x2, x3] T f) := by
  rw [heap_setCell_same (heap_setCell_same (heap_setCell_same h x1) x2) x3]
  simp

def mostN : Int := 6000
/-- how many results, arguments and places an operator has; none: there is no such operator -/
def cntS (op : Int) : Option (Int × Int × Int) := if decide (op < 1) || decide (13 < op) then none else some (ct1 op.toNat, ct2 op.toNat, ct3 op.toNat)
def cV (op : Int) : Int × Int × Int := (cntS op).getD (0, 0, 0)
def bigS (c : Cod) : Bool := decide (3000 < c.vars)
def offS (c : Cod) : Bool := decide (c.vars < c.params) || c.slots != 0
def hasS (c : Cod) (i : Ins) : Bool := belowB c.vars i.ds && belowB c.vars i.ar

/-- what the rules stand on -/
def RInv (w : World) (B qc : Nat) : Prop := TabC w ∧ 0 < B
theorem RInv.below {w w' : World} {B N qc : Nat} (h : RInv w B qc) (hN : B ≤ N) (k : Below N w w') : RInv w' B qc := ⟨h.1.below h.2 (k.mono hN), h.2⟩

set_option maxHeartbeats 2000000 in
theorem cnt_any (op : Int) (B qc : Nat) (w : World) (h : RInv w B qc) (hB : B ≤ w.heap.size) : Calls Tryd.prog 25 #[.int .i64 op] w fun e w' => e = .returned (.tuple #[.agg #[.int .i64 (cV op).1, .int .i64 (cV op).2.1, .int .i64 (cV op).2.2], .bool (cntS op).isSome]) ∧ Below w.heap.size w w' := by
  obtain ⟨n0, n1, n2⟩ := cells3 (heap_alloc_new w (.cells #[.int .i64 0, .int .i64 0, .int .i64 0] 53))
  unfold cV cntS
  by_cases h1 : op < 1
  · go_enter Tryd.func25, Tryd.ntmps25
    go_wp2_with fail
    all_goals exact bodyPost_ret (v := .tuple #[.agg #[.int .i64 0, .int .i64 0, .int .i64 0], .bool false]) (by simp [results, Tryd.results25, go_sem, n0, n1, n2]) rfl ⟨by simp [h1], below_alloc _ _⟩
  by_cases h2 : 13 < op
  · go_enter Tryd.func25, Tryd.ntmps25
    go_wp2_with fail
    all_goals exact bodyPost_ret (v := .tuple #[.agg #[.int .i64 0, .int .i64 0, .int .i64 0], .bool false]) (by simp [results, Tryd.results25, go_sem, n0, n1, n2]) rfl ⟨by simp [h2], below_alloc _ _⟩
  obtain ⟨t1, t2, t3⟩ := (h.1.below h.2 ((below_alloc w (.cells #[.int .i64 0, .int .i64 0, .int .i64 0] 53)).mono hB)) op.toNat (by omega)
  have hk0 : (0 : Int) ≤ op := by omega
  have hk14 : op < 14 := by omega
  have e1 : (decide (op < 1) || decide (13 < op)) = false := by simp; omega
  rw [e1]
  simp only [Bool.false_eq_true, if_false, Option.getD_some, Option.isSome_some]
  generalize ct1 op.toNat = x1 at t1 ⊢
  generalize ct2 op.toNat = x2 at t2 ⊢
  generalize ct3 op.toNat = x3 at t3 ⊢
  clear h e1
  obtain ⟨m0, m1, m2⟩ := cells3 (heap_alloc_new w (.cells #[.int .i64 x1, .int .i64 x2, .int .i64 x3] 53))
  have hbn : Below w.heap.size w (w.alloc (.cells #[.int .i64 0, .int .i64 0, .int .i64 0] 53)) := below_alloc _ _
  have HBN : Hid (_) := hbn
  clear hbn
  go_enter Tryd.func25, Tryd.ntmps25
  go_wp2_with fail
  exact bodyPost_ret (v := .tuple #[.agg #[.int .i64 x1, .int .i64 x2, .int .i64 x3], .bool true]) (by simp [results, Tryd.results25, go_sem, m0, m1, m2]) rfl ⟨rfl, below_alloc _ _⟩

set_option maxHeartbeats 1000000 in
theorem big_any (c : Cod) (a : Option Addr) (n k : Nat) (w : World) : Calls Tryd.prog 26 #[codV c (.slice a n k)] w fun e w' => e = .returned (.bool (bigS c)) ∧ Below w.heap.size w w' := by
  obtain ⟨name, params, results, vars, slots, blocks⟩ := c
  unfold codV bigS
  simp only
  by_cases h1 : 3000 < vars <;>
   (go_enter Tryd.func26, Tryd.ntmps26
    go_wp2_with fail
    go_ret
    exact ⟨by simp [h1], below_alloc _ _⟩)

set_option maxHeartbeats 1000000 in
theorem off_any (c : Cod) (a : Option Addr) (n k : Nat) (w : World) : Calls Tryd.prog 27 #[codV c (.slice a n k)] w fun e w' => e = .returned (.bool (offS c)) ∧ Below w.heap.size w w' := by
  obtain ⟨name, params, results, vars, slots, blocks⟩ := c
  unfold codV offS
  simp only
  by_cases h1 : vars < params
  · go_enter Tryd.func27, Tryd.ntmps27
    go_wp2_with fail
    go_ret
    exact ⟨by simp [h1], below_alloc _ _⟩
  · rcases h2 : (slots != 0) with _ | _ <;>
     (go_enter Tryd.func27, Tryd.ntmps27
      go_wp2_with fail
      go_ret
      exact ⟨by simp [h1, h2], below_alloc _ _⟩)

set_option maxHeartbeats 2000000 in
theorem has_any (c : Cod) (i : Ins) (ab : Option Addr) (nb kb : Nat) (vd va vt : Value) (B : Nat) (w : World) (hB : B ≤ w.heap.size) (hd : Nums B w vd i.ds) (ha : Nums B w va i.ar) (ht : ∃ a n k, vt = .slice a n k) :
    Calls Tryd.prog 28 #[codV c (.slice ab nb kb), insV i vd va vt] w fun e w' => e = .returned (.bool (hasS c i)) ∧ Below w.heap.size w w' := by
  obtain ⟨ad, cd, rfl⟩ := Lies.slice hd
  obtain ⟨aa, ca, rfl⟩ := Lies.slice ha
  obtain ⟨at', nt, ct, rfl⟩ := ht
  have HD : Hid (Nums B w _ _) := hd
  have HA : Hid (Nums B w _ _) := ha
  clear hd ha
  obtain ⟨op, ds, ar, nn, s, to⟩ := i
  obtain ⟨name, params, results, vars, slots, blocks⟩ := c
  unfold codV insV hasS
  simp only at HD HA ⊢
  obtain ⟨W, hW⟩ : ∃ W, W = (w.alloc (Obj.cells #[.string ⟨name.toArray⟩, .int .i64 params, .int .i64 results, .int .i64 vars, .int .i64 slots, .slice ab nb kb] 28)).alloc (Obj.cells #[Value.int IntKind.i64 op, Value.slice ad ds.length cd, Value.slice aa ar.length ca, Value.int IntKind.i64 nn, Value.string ⟨s.toArray⟩, Value.slice at' nt ct] 43) := ⟨_, rfl⟩
  have HW : Hid (Below w.heap.size w W) := by rw [hW]; exact below_after (below_alloc _ _) (below_alloc _ _)
  have hWs : W.heap.size = w.heap.size + 2 := by rw [hW]; simp
  have HC1 : Hid (W.heap[w.heap.size]? = some (Obj.cells #[.string ⟨name.toArray⟩, .int .i64 params, .int .i64 results, .int .i64 vars, .int .i64 slots, .slice ab nb kb] 28)) := by rw [hW]; exact (heap_alloc2 w _ _).1
  have HC2 : Hid (W.heap[w.heap.size + 1]? = some (Obj.cells #[Value.int IntKind.i64 op, Value.slice ad ds.length cd, Value.slice aa ar.length ca, Value.int IntKind.i64 nn, Value.string ⟨s.toArray⟩, Value.slice at' nt ct] 43)) := by rw [hW]; exact (heap_alloc2 w _ _).2
  have HWS : Hid (W = _) := hW
  clear hW
  go_enter Tryd.func28, Tryd.ntmps28
  go_wp2_with fail
  rw [← HWS.out]
  refine (below_any vars B _ ds W (by omega) (HD.out.below (HW.out.mono hB))).mono ?_
  rintro e w1 ⟨rfl, hb1⟩
  have HB1 : Hid (Below w.heap.size w w1) := below_after HW.out hb1
  have p1 := cells6 ((hb1.block _ (by omega)).trans HC1.out)
  have p2 := cells6 ((hb1.block _ (by omega)).trans HC2.out)
  have hs1 := hb1.size
  clear hb1
  rcases hb1 : belowB vars ds with _ | _
  · skip
    go_wp2_with fail
    go_ret
    exact ⟨by simp [hb1], HB1.out⟩
  · go_wp2_with fail
    refine (below_any vars B _ ar w1 (by omega) (HA.out.below (HB1.out.mono hB))).mono ?_
    rintro e w2 ⟨rfl, hb2⟩
    have HB2 : Hid (Below w.heap.size w w2) := below_after HB1.out hb2
    clear hb2 p1 p2
    go_wp2_with fail
    go_ret
    exact ⟨by simp [hb1], HB2.out⟩

end Go.Proofs.YtbpbpihboenbeaaDoor
