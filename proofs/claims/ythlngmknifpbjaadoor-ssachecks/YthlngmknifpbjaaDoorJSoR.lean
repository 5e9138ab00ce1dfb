/-
  The rules of package ir.
-/
import Derived.Test.YthlngmknifpbjaaDoorJSoE
import Derived.Test.YthlngmknifpbjaaDoorJSoI
namespace Go.Proofs.YthlngmknifpbjaaDoor
section
open Go.RowKit
set_option linter.unusedSimpArgs false
set_option linter.unusedVariables false

/-- the table of package ir: three numbers an operator -/
def ctL : List (Int × Int × Int) := [(0, 0, 0), (1, 0, 0), (1, 1, 0), (1, 2, 0), (1, 1, 0), (0, 2, 0), (1, 1, 0), (-1, -1, 0), (0, -1, 0), (0, 0, 1), (0, 1, 2), (0, 1, -2), (0, -1, 0), (0, 0, 0)]
def ct1 (i : Nat) : Int := (ctL.getD i (0, 0, 0)).1
def ct2 (i : Nat) : Int := (ctL.getD i (0, 0, 0)).2.1
def ct3 (i : Nat) : Int := (ctL.getD i (0, 0, 0)).2.2

def TabC (w : World) : Prop := ∀ i, i < 14 → w.cell? ⟨0, i * 3, none⟩ = some (.int .i64 (ct1 i)) ∧ w.cell? ⟨0, i * 3 + 1, none⟩ = some (.int .i64 (ct2 i)) ∧ w.cell? ⟨0, i * 3 + 2, none⟩ = some (.int .i64 (ct3 i))

theorem TabC.below {w w' : World} {B : Nat} (h : TabC w) (hB : 0 < B) (k : Below B w w') : TabC w' := by
  have g1 := hB
  intro i hi
  obtain ⟨h1, h2, h3⟩ := h i hi
  exact ⟨(k.cell (p := ⟨0, i * 3, none⟩) g1).trans h1, (k.cell (p := ⟨0, i * 3 + 1, none⟩) g1).trans h2, (k.cell (p := ⟨0, i * 3 + 2, none⟩) g1).trans h3⟩

theorem below_setc {B : Nat} {a w : World} (h : Below B a w) {g i : Nat} (hg : B ≤ g) (v : Value) : Below B a (w.setCell ⟨g, i, none⟩ v) :=
  h.trans ⟨rfl, rfl, rfl, by simp [World.setCell], fun k hk => Below.heap_setCell _ _ _ _ (by show k ≠ g; omega)⟩

theorem fits_n (n : Nat) (x : Nat) : fitsB (n : Int) (x : Int) = (n == x) := by
  unfold fitsB
  have h1 : ((x : Int) == -1) = false := beq_eq_false_iff_ne.2 (by omega)
  have h2 : ((x : Int) == -2) = false := beq_eq_false_iff_ne.2 (by omega)
  rw [h1, h2]
  by_cases h : n = x
  · subst h; simp
  · have h3 : ((n : Int) == (x : Int)) = false := beq_eq_false_iff_ne.2 (by omega)
    have h4 : (n == x) = false := beq_eq_false_iff_ne.2 h
    rw [h3, h4]
    rfl

theorem fits_any1 (n : Nat) : fitsB (n : Int) (-1) = true := by unfold fitsB; simp
theorem fits_some (n : Nat) : fitsB (n : Int) (-2) = decide (0 < n) := by
  unfold fitsB
  have h1 : ((n : Int) == -2) = false := beq_eq_false_iff_ne.2 (by omega)
  rw [h1]
  simp

theorem counts_eq (k d a t : Nat) (h1 : 1 ≤ k) (h2 : k < 14) : (fitsB d (ct1 k) && (fitsB a (ct2 k) && fitsB t (ct3 k))) = countOk (k : Int) d a t := by
  have f0 : ∀ n : Nat, fitsB (n : Int) 0 = (n == 0) := fun n => fits_n n 0
  have f1 : ∀ n : Nat, fitsB (n : Int) 1 = (n == 1) := fun n => fits_n n 1
  have f2 : ∀ n : Nat, fitsB (n : Int) 2 = (n == 2) := fun n => fits_n n 2
  have f3 := fits_any1
  have f4 := fits_some
  match k, h1, h2 with
  | 1, _, _ =>
    show (fitsB (d : Int) 1 && (fitsB (a : Int) 0 && fitsB (t : Int) 0)) = (d == 1 && (a == 0 && t == 0))
    rw [f1 d, f0 a, f0 t]
  | 2, _, _ =>
    show (fitsB (d : Int) 1 && (fitsB (a : Int) 1 && fitsB (t : Int) 0)) = (d == 1 && (a == 1 && t == 0))
    rw [f1 d, f1 a, f0 t]
  | 3, _, _ =>
    show (fitsB (d : Int) 1 && (fitsB (a : Int) 2 && fitsB (t : Int) 0)) = (d == 1 && (a == 2 && t == 0))
    rw [f1 d, f2 a, f0 t]
  | 4, _, _ =>
    show (fitsB (d : Int) 1 && (fitsB (a : Int) 1 && fitsB (t : Int) 0)) = (d == 1 && (a == 1 && t == 0))
    rw [f1 d, f1 a, f0 t]
  | 5, _, _ =>
    show (fitsB (d : Int) 0 && (fitsB (a : Int) 2 && fitsB (t : Int) 0)) = (d == 0 && (a == 2 && t == 0))
    rw [f0 d, f2 a, f0 t]
  | 6, _, _ =>
    show (fitsB (d : Int) 1 && (fitsB (a : Int) 1 && fitsB (t : Int) 0)) = (d == 1 && (a == 1 && t == 0))
    rw [f1 d, f1 a, f0 t]
  | 7, _, _ =>
    show (fitsB (d : Int) (-1) && (fitsB (a : Int) (-1) && fitsB (t : Int) 0)) = (t == 0)
    rw [f3 d, f3 a, f0 t]
    rfl
  | 8, _, _ =>
    show (fitsB (d : Int) 0 && (fitsB (a : Int) (-1) && fitsB (t : Int) 0)) = (d == 0 && t == 0)
    rw [f0 d, f3 a, f0 t]
    rfl
  | 9, _, _ =>
    show (fitsB (d : Int) 0 && (fitsB (a : Int) 0 && fitsB (t : Int) 1)) = (d == 0 && (a == 0 && t == 1))
    rw [f0 d, f0 a, f1 t]
  | 10, _, _ =>
    show (fitsB (d : Int) 0 && (fitsB (a : Int) 1 && fitsB (t : Int) 2)) = (d == 0 && (a == 1 && t == 2))
    rw [f0 d, f1 a, f2 t]
  | 11, _, _ =>
    show (fitsB (d : Int) 0 && (fitsB (a : Int) 1 && fitsB (t : Int) (-2))) = (d == 0 && (a == 1 && decide (0 < t)))
    rw [f0 d, f1 a, f4 t]
  | 12, _, _ =>
    show (fitsB (d : Int) 0 && (fitsB (a : Int) (-1) && fitsB (t : Int) 0)) = (d == 0 && t == 0)
    rw [f0 d, f3 a, f0 t]
    rfl
  | 13, _, _ =>
    show (fitsB (d : Int) 0 && (fitsB (a : Int) 0 && fitsB (t : Int) 0)) = (d == 0 && (a == 0 && t == 0))
    rw [f0 d, f0 a, f0 t]
end

section
open Go.RowKit
set_option linter.unusedSimpArgs false
set_option linter.unusedVariables false

theorem store_func (P : Program) (w : World) (a : Addr) (f : Fn) (ts cs : Array Value) (m : Mode) : (store a (.func f ts cs) m).run P w = match w.cell? a with
      | some _ => if w.frozen? a then .halt (.unsupported (.unsafePointer "a write to bytes that a string shares")) w else .ok () (w.setCell a (.func f ts cs))
      | none => match w.farStore P a (.func f ts cs) (m == .atomic) with
        | .ok (w', _) => .ok () w'
        | .error h => .halt h w := run_store P w a _ m rfl
theorem cells3 {w : World} {x : Nat} {T : TypeId} {f : Nat × Nat} {c0 c1 c2 : Value} (h : w.heap[x]? = some (.cells #[c0, c1, c2] T f)) : w.cell? ⟨x, 0, none⟩ = some c0 ∧ w.cell? ⟨x, 1, none⟩ = some c1 ∧ w.cell? ⟨x, 2, none⟩ = some c2 := by simp [World.cell?, h]
theorem put3 {w : World} {x : Nat} {T : TypeId} {f : Nat × Nat} {c0 c1 c2 : Value} (h : w.heap[x]? = some (.cells #[c0, c1, c2] T f)) (x1 x2 x3 : Value) :
    (((w.setCell ⟨x, 0, none⟩ x1).setCell ⟨x, 1, none⟩ x2).setCell ⟨x, 2, none⟩ x3).heap[x]? = some (.cells #[x1, x2, x3] T f) := by
  rw [heap_setCell_same (heap_setCell_same (heap_setCell_same h x1) x2) x3]
  simp

def mostN : Int := 6000
/-- how many results, arguments and places an operator has; none: there is no such operator -/
def cntS (op : Int) : Option (Int × Int × Int) := if decide (op < 1) || decide (13 < op) then none else some (ct1 op.toNat, ct2 op.toNat, ct3 op.toNat)
def cV (op : Int) : Int × Int × Int := (cntS op).getD (0, 0, 0)
def bigS (c : Cod) : Bool := decide (3000 < c.vars)
def offS (c : Cod) : Bool := decide (c.vars < c.params) || c.slots != 0
def hasS (c : Cod) (i : Ins) : Bool := belowB c.vars i.ds && belowB c.vars i.ar

/-- what the rules stand on -/
def RInv (w : World) (B qc : Nat) : Prop := TabC w ∧ 0 < B
theorem RInv.below {w w' : World} {B N qc : Nat} (h : RInv w B qc) (hN : B ≤ N) (k : Below N w w') : RInv w' B qc := ⟨h.1.below h.2 (k.mono hN), h.2⟩

set_option maxHeartbeats 2000000 in
theorem cnt_any (op : Int) (B qc : Nat) (w : World) (h : RInv w B qc) (hB : B ≤ w.heap.size) : Calls Tryd.prog 37 #[.int .i64 op] w fun e w' => e = .returned (.tuple #[.agg #[.int .i64 (cV op).1, .int .i64 (cV op).2.1, .int .i64 (cV op).2.2], .bool (cntS op).isSome]) ∧ Below w.heap.size w w' := by
  obtain ⟨n0, n1, n2⟩ := cells3 (heap_alloc_new w (.cells #[.int .i64 0, .int .i64 0, .int .i64 0] 73))
  unfold cV cntS
  by_cases h1 : op < 1
  · go_enter Tryd.func37, Tryd.ntmps37
    go_wp2_with fail
    all_goals exact bodyPost_ret (v := .tuple #[.agg #[.int .i64 0, .int .i64 0, .int .i64 0], .bool false]) (by simp [results, Tryd.results37, go_sem, n0, n1, n2]) rfl ⟨by simp [h1], below_alloc _ _⟩
  by_cases h2 : 13 < op
  · go_enter Tryd.func37, Tryd.ntmps37
    go_wp2_with fail
    all_goals exact bodyPost_ret (v := .tuple #[.agg #[.int .i64 0, .int .i64 0, .int .i64 0], .bool false]) (by simp [results, Tryd.results37, go_sem, n0, n1, n2]) rfl ⟨by simp [h2], below_alloc _ _⟩
  obtain ⟨t1, t2, t3⟩ := (h.1.below h.2 ((below_alloc w (.cells #[.int .i64 0, .int .i64 0, .int .i64 0] 73)).mono hB)) op.toNat (by omega)
  have hk0 : (0 : Int) ≤ op := by omega
  have hk14 : op < 14 := by omega
  have e1 : (decide (op < 1) || decide (13 < op)) = false := by simp; omega
  rw [e1]
  simp only [Bool.false_eq_true, if_false, Option.getD_some, Option.isSome_some]
  generalize ct1 op.toNat = x1 at t1 ⊢
  generalize ct2 op.toNat = x2 at t2 ⊢
  generalize ct3 op.toNat = x3 at t3 ⊢
  clear h e1
  obtain ⟨m0, m1, m2⟩ := cells3 (heap_alloc_new w (.cells #[.int .i64 x1, .int .i64 x2, .int .i64 x3] 73))
  have hbn : Below w.heap.size w (w.alloc (.cells #[.int .i64 0, .int .i64 0, .int .i64 0] 73)) := below_alloc _ _
  have HBN : Hid (_) := hbn
  clear hbn
  go_enter Tryd.func37, Tryd.ntmps37
  go_wp2_with fail
  exact bodyPost_ret (v := .tuple #[.agg #[.int .i64 x1, .int .i64 x2, .int .i64 x3], .bool true]) (by simp [results, Tryd.results37, go_sem, m0, m1, m2]) rfl ⟨rfl, below_alloc _ _⟩

set_option maxHeartbeats 1000000 in
theorem big_any (c : Cod) (a : Option Addr) (n k : Nat) (w : World) : Calls Tryd.prog 38 #[codV c (.slice a n k)] w fun e w' => e = .returned (.bool (bigS c)) ∧ Below w.heap.size w w' := by
  obtain ⟨name, params, results, vars, slots, blocks⟩ := c
  unfold codV bigS
  simp only
  by_cases h1 : 3000 < vars <;>
   (go_enter Tryd.func38, Tryd.ntmps38
    go_wp2_with fail
    go_ret
    exact ⟨by simp [h1], below_alloc _ _⟩)

set_option maxHeartbeats 1000000 in
theorem off_any (c : Cod) (a : Option Addr) (n k : Nat) (w : World) : Calls Tryd.prog 39 #[codV c (.slice a n k)] w fun e w' => e = .returned (.bool (offS c)) ∧ Below w.heap.size w w' := by
  obtain ⟨name, params, results, vars, slots, blocks⟩ := c
  unfold codV offS
  simp only
  by_cases h1 : vars < params
  · go_enter Tryd.func39, Tryd.ntmps39
    go_wp2_with fail
    go_ret
    exact ⟨by simp [h1], below_alloc _ _⟩
  · rcases h2 : (slots != 0) with _ | _ <;>
     (go_enter Tryd.func39, Tryd.ntmps39
      go_wp2_with fail
      go_ret
      exact ⟨by simp [h1, h2], below_alloc _ _⟩)

set_option maxHeartbeats 2000000 in
theorem has_any (c : Cod) (i : Ins) (ab : Option Addr) (nb kb : Nat) (vd va vt : Value) (B : Nat) (w : World) (hB : B ≤ w.heap.size) (hd : Nums B w vd i.ds) (ha : Nums B w va i.ar) (ht : ∃ a n k, vt = .slice a n k) :
    Calls Tryd.prog 40 #[codV c (.slice ab nb kb), insV i vd va vt] w fun e w' => e = .returned (.bool (hasS c i)) ∧ Below w.heap.size w w' := by
  obtain ⟨ad, cd, rfl⟩ := Lies.slice hd
  obtain ⟨aa, ca, rfl⟩ := Lies.slice ha
  obtain ⟨at', nt, ct, rfl⟩ := ht
  have HD : Hid (Nums B w _ _) := hd
  have HA : Hid (Nums B w _ _) := ha
  clear hd ha
  obtain ⟨op, ds, ar, nn, s, to⟩ := i
  obtain ⟨name, params, results, vars, slots, blocks⟩ := c
  unfold codV insV hasS
  simp only at HD HA ⊢
  obtain ⟨W, hW⟩ : ∃ W, W = (w.alloc (Obj.cells #[.string ⟨name.toArray⟩, .int .i64 params, .int .i64 results, .int .i64 vars, .int .i64 slots, .slice ab nb kb] 28)).alloc (Obj.cells #[Value.int IntKind.i64 op, Value.slice ad ds.length cd, Value.slice aa ar.length ca, Value.int IntKind.i64 nn, Value.string ⟨s.toArray⟩, Value.slice at' nt ct] 37) := ⟨_, rfl⟩
  have HW : Hid (Below w.heap.size w W) := by rw [hW]; exact below_after (below_alloc _ _) (below_alloc _ _)
  have hWs : W.heap.size = w.heap.size + 2 := by rw [hW]; simp
  have HC1 : Hid (W.heap[w.heap.size]? = some (Obj.cells #[.string ⟨name.toArray⟩, .int .i64 params, .int .i64 results, .int .i64 vars, .int .i64 slots, .slice ab nb kb] 28)) := by rw [hW]; exact (heap_alloc2 w _ _).1
  have HC2 : Hid (W.heap[w.heap.size + 1]? = some (Obj.cells #[Value.int IntKind.i64 op, Value.slice ad ds.length cd, Value.slice aa ar.length ca, Value.int IntKind.i64 nn, Value.string ⟨s.toArray⟩, Value.slice at' nt ct] 37)) := by rw [hW]; exact (heap_alloc2 w _ _).2
  have HWS : Hid (W = _) := hW
  clear hW
  go_enter Tryd.func40, Tryd.ntmps40
  go_wp2_with fail
  rw [← HWS.out]
  refine (below_any vars B _ ds W (by omega) (HD.out.below (HW.out.mono hB))).mono ?_
  rintro e w1 ⟨rfl, hb1⟩
  have HB1 : Hid (Below w.heap.size w w1) := below_after HW.out hb1
  have p1 := cells6 ((hb1.block _ (by omega)).trans HC1.out)
  have p2 := cells6 ((hb1.block _ (by omega)).trans HC2.out)
  have hs1 := hb1.size
  clear hb1
  rcases hb1 : belowB vars ds with _ | _
  · skip
    go_wp2_with fail
    go_ret
    exact ⟨by simp [hb1], HB1.out⟩
  · go_wp2_with fail
    refine (below_any vars B _ ar w1 (by omega) (HA.out.below (HB1.out.mono hB))).mono ?_
    rintro e w2 ⟨rfl, hb2⟩
    have HB2 : Hid (Below w.heap.size w w2) := below_after HB1.out hb2
    clear hb2 p1 p2
    go_wp2_with fail
    go_ret
    exact ⟨by simp [hb1], HB2.out⟩
end

end Go.Proofs.YthlngmknifpbjaaDoor
