/-
  Package ssa: plant: it answers, says where the blocks stand, and touches nothing but the flow's own rows. (gen_SsB.py writes this text out of SbP.)
-/
import Derived.Test.YthlngmknifpbjaaDoorJSbO2
import Derived.Test.YthlngmknifpbjaaDoorSsA
import Derived.Test.YthlngmknifpbjaaDoorSbN
import Derived.OrdersIn
import Derived.BigRegion
namespace Go.Proofs.YthlngmknifpbjaaDoor
open Go.RowKit Go.Shelf
set_option linter.unusedSimpArgs false
set_option linter.unusedVariables false

attribute [local go_sem] Oper.semAt_some

section
variable {F : Fence} {n : Nat} {P : Program} {ops : Array Oper} {Q : Exit → Act → World → Prop} {md : Region.Mode}
/-- what holds whatever has come up, within a fence -/
theorem wpAnyIn_inv (I : Array Bool → Act → World → Prop)
    (hstep : ∀ listed a w i, I listed a w → i ∈ Region.ready md ops listed → wpOpIn F n P ops Q i (I (listed.setIfInBounds i true)) a w)
    (hdone : ∀ listed a w, I listed a w → Region.ready md ops listed = [] → Q .normal a w) :
    ∀ (fuel : Nat) (listed : Array Bool) (a : Act) (w : World), listed.toList.count false ≤ fuel → I listed a w → wpAnyIn F n P md ops Q fuel listed a w := by
  intro fuel
  induction fuel with
  | zero =>
    intro listed a w hc hI
    have hr : Region.ready md ops listed = [] := by
      rw [List.eq_nil_iff_forall_not_mem]
      intro i hi
      obtain ⟨_, h2, _⟩ := ready_mem hi
      have h0 : listed.toList.count false = 0 := by omega
      rw [List.count_eq_zero] at h0
      rw [Array.getD_eq_getD_getElem?] at h2
      rcases hq : listed[i]? with _ | b
      · rw [hq] at h2; cases h2
      · rw [hq] at h2
        have hb : b = false := h2
        subst hb
        exact h0 (by rw [Array.mem_toList_iff]; exact Array.mem_of_getElem? hq)
    exact ⟨hr, hdone _ _ _ hI hr⟩
  | succ fuel ih =>
    intro listed a w hc hI
    refine ⟨fun hr => hdone _ _ _ hI hr, fun i hi => wpOpIn_mono (fun a' w' h => ih _ a' w' ?_ h) (hstep _ _ _ i hI hi)⟩
    obtain ⟨_, h2, _⟩ := ready_mem hi
    rw [Array.getD_eq_getD_getElem?] at h2
    rcases hq : listed[i]? with _ | b
    · rw [hq] at h2; cases h2
    · rw [hq] at h2
      have hb : b = false := h2
      subst hb
      have := count_set_lt (l := listed.toList) (i := i) (by simpa using hq)
      rw [Array.toList_setIfInBounds]
      omega
end

theorem cells7 {w : World} {x : Nat} {T : TypeId} {f : Nat × Nat} {c0 c1 c2 c3 c4 c5 c6 : Value} (h : w.heap[x]? = some (.cells #[c0, c1, c2, c3, c4, c5, c6] T f)) :
    w.cell? ⟨x, 0, none⟩ = some c0 ∧ w.cell? ⟨x, 1, none⟩ = some c1 ∧ w.cell? ⟨x, 2, none⟩ = some c2 ∧ w.cell? ⟨x, 3, none⟩ = some c3 ∧ w.cell? ⟨x, 4, none⟩ = some c4 ∧ w.cell? ⟨x, 5, none⟩ = some c5 ∧ w.cell? ⟨x, 6, none⟩ = some c6 := by simp [World.cell?, h]

/-- all that was there is as it was, but one block -/
structure FrF (F : Nat) (w0 w : World) : Prop where
  os : w.os = w0.os
  tape : w.tape = w0.tape
  output : w.output = w0.output
  size : w0.heap.size ≤ w.heap.size
  block : ∀ k, k < w0.heap.size → k ≠ F → w.heap[k]? = w0.heap[k]?
theorem FrF.refl (F : Nat) (w : World) : FrF F w w := ⟨rfl, rfl, rfl, Nat.le_refl _, fun _ _ _ => rfl⟩
theorem FrF.below {F : Nat} {w0 w w' : World} (h : FrF F w0 w) (k : Below w.heap.size w w') : FrF F w0 w' :=
  ⟨k.os.trans h.os, k.tape.trans h.tape, k.output.trans h.output, Nat.le_trans h.size k.size, fun i hi hn => (k.block i (Nat.lt_of_lt_of_le hi h.size)).trans (h.block i hi hn)⟩
theorem FrF.set {F : Nat} {w0 w : World} (h : FrF F w0 w) (i : Nat) (v : Value) : FrF F w0 (w.setCell ⟨F, i, none⟩ v) :=
  ⟨h.os, h.tape, h.output, by simpa [World.setCell] using h.size, fun k hk hn => (Below.heap_setCell _ _ _ _ hn).trans (h.block k hk hn)⟩
theorem FrF.setNew {F : Nat} {w0 w : World} (h : FrF F w0 w) {g : Nat} (hg : w0.heap.size ≤ g) (i : Nat) (v : Value) : FrF F w0 (w.setCell ⟨g, i, none⟩ v) :=
  ⟨h.os, h.tape, h.output, by simpa [World.setCell] using h.size, fun k hk hn => (Below.heap_setCell _ _ _ _ (by show k ≠ g; omega)).trans (h.block k hk hn)⟩
theorem FrF.draw {F : Nat} {w0 w : World} (h : FrF F w0 w) (n : Nat) : FrF F w0 (w.drewN n) := ⟨h.os, h.tape, h.output, h.size, h.block⟩

def fobj (a nx o u x4 x5 x6 : Value) : Obj := .cells #[a, nx, o, u, x4, x5, x6] 43
def sel (d : Bool) (v : Value) : Value := match d with | true => v | false => .slice none 0 0

theorem SlB.offS {S l c F : Nat} {O : Obj} {d : Bool} {v : Value} {w w' : World} (h : SlB S O l c d v w) (hF : F < S) (hk : ∀ k, k ≠ F → w'.heap[k]? = w.heap[k]?) : SlB S O l c d v w' := fun e => by
  obtain ⟨g', he, hg, hs⟩ := h e
  exact ⟨g', he, (hk g' (by omega)).trans hg, hs⟩

theorem wrap64_one (x : Int) : wrap64 (wrap64 x + 1) = wrap64 (x + 1) := by unfold wrap64; omega
theorem wrap64_small {a : Nat} (h : a ≤ 2097152) : wrap64 ((a : Int) + 1) = (a : Int) + 1 := by unfold wrap64; omega
theorem wrap64_nat {a : Nat} (h : a ≤ 2097152) : wrap64 (a : Int) = (a : Int) := by unfold wrap64; omega
theorem wrap64_two' {a b : Nat} (h : a + b ≤ 2097152) : wrap64 ((a : Int) + (b : Int)) = (a : Int) + (b : Int) := by unfold wrap64; omega
theorem wrap64_succ (f : Nat) : wrap64 (wrap64 (f : Int) + 1) = wrap64 ((f + 1 : Nat) : Int) := by unfold wrap64; omega
theorem wrap64_sum (a b : Nat) : wrap64 (wrap64 (a : Int) + wrap64 (b : Int)) = wrap64 ((a + b : Nat) : Int) := by unfold wrap64; omega
theorem wrap_64 (x : Int) : IntKind.i64.wrap x = wrap64 x := by rw [IntKind.wrap_i64]; unfold wrap64; rfl
theorem step_row (f : Nat → Nat) (b j : Nat) (y0 : Int) (h : y0 = wrap64 ((f b : Nat) : Int)) : fset (fun b => wrap64 ((f b : Nat) : Int)) b (wrap64 (y0 + 1)) j = wrap64 ((updN f b (f b + 1) j : Nat) : Int) := by
  unfold fset updN
  by_cases e : j = b
  · rw [if_pos e, if_pos e, h, wrap64_succ]
  · rw [if_neg e, if_neg e]
theorem wrap64_two (x y : Int) : wrap64 (wrap64 x + wrap64 y) = wrap64 (x + y) := by unfold wrap64; omega
def mfold (q : Nat → Nat) (pre : List Nat) : Nat → Nat := pre.foldl (manyS q) (fun _ => 0)
theorem mfold_snoc (q : Nat → Nat) (pre : List Nat) (b : Nat) : mfold q (pre ++ [b]) = manyS q (mfold q pre) b := by simp [mfold]
theorem mfold_all (q : Nat → Nat) (o : List Nat) : mfold q o.reverse = manyL q o := by
  unfold mfold
  rw [List.foldl_reverse]
  induction o with
  | nil => rfl
  | cons b l ih => rw [List.foldr_cons, ih]; rfl

/-- between two rounds -/
structure PI (W1 : World) (g n : Nat) (q : Nat → Nat) (pre : List Nat) (W : World) : Prop where
  row : W.heap[g]? = some (.cells (numsL (fnL n (fun b => wrap64 ((mfold q pre b : Nat) : Int)))).toArray 3)
  fr : FrF g W1 W

/-- all that was there is as it was, but three rows -/
structure AG (wc : World) (g4 g5 g6 : Nat) (X : World) : Prop where
  os : X.os = wc.os
  tape : X.tape = wc.tape
  output : X.output = wc.output
  size : wc.heap.size ≤ X.heap.size
  block : ∀ k, k < wc.heap.size → k ≠ g4 → k ≠ g5 → k ≠ g6 → X.heap[k]? = wc.heap[k]?
theorem AG.set {wc X : World} {g4 g5 g6 g : Nat} (h : AG wc g4 g5 g6 X) (hg : g = g4 ∨ g = g5 ∨ g = g6 ∨ wc.heap.size ≤ g) (i : Nat) (v : Value) : AG wc g4 g5 g6 (X.setCell ⟨g, i, none⟩ v) :=
  ⟨h.os, h.tape, h.output, by simpa [World.setCell] using h.size, fun k hk h4 h5 h6 => (Below.heap_setCell _ _ _ _ (by show k ≠ g; omega)).trans (h.block k hk h4 h5 h6)⟩
theorem AG.below {wc X Y : World} {g4 g5 g6 : Nat} (h : AG wc g4 g5 g6 X) (k : Below X.heap.size X Y) : AG wc g4 g5 g6 Y :=
  ⟨k.os.trans h.os, k.tape.trans h.tape, k.output.trans h.output, Nat.le_trans h.size k.size, fun i hi h4 h5 h6 => (k.block i (Nat.lt_of_lt_of_le hi h.size)).trans (h.block i hi h4 h5 h6)⟩

/-- the second half of plant in memory -/
structure PS (wc : World) (g4 g5 g6 g7 n m D2 : Nat) (N : Nat → Nat) (A : Nat → Int) (fr : Nat → Nat) (tr : Nat → Int) (X : World) : Prop where
  ag : AG wc g4 g5 g6 X
  r4 : RowI X 0 g4 m tr
  r5 : RowI X 0 g5 n A
  r6 : RowI X 0 g6 n (fun b => wrap64 ((N b : Nat) : Int))
  r7 : RowI X 0 g7 n (fun b => ((fr b : Nat) : Int))
  dK : X.heap[D2]? = some (.deferred (some []))
  e1 : g4 ≠ g5
  e2 : g4 ≠ g6
  e3 : g4 ≠ g7
  e4 : g5 ≠ g6
  e5 : g5 ≠ g7
  e6 : g6 ≠ g7
  k4 : g4 ≠ D2
  k5 : g5 ≠ D2
  k7 : g7 ≠ D2
  n7 : wc.heap.size ≤ g7
section
variable {wc X : World} {g4 g5 g6 g7 n m D2 : Nat} {N : Nat → Nat} {A : Nat → Int} {fr : Nat → Nat} {tr : Nat → Int}
theorem PS.same {Y : World} (h : PS wc g4 g5 g6 g7 n m D2 N A fr tr X) (k : Y.heap = X.heap) (h1 : Y.os = X.os) (h2 : Y.tape = X.tape) (h3 : Y.output = X.output) : PS wc g4 g5 g6 g7 n m D2 N A fr tr Y :=
  ⟨⟨h1.trans h.ag.os, h2.trans h.ag.tape, h3.trans h.ag.output, by rw [k]; exact h.ag.size, fun i a b c d => by rw [k]; exact h.ag.block i a b c d⟩, h.r4.keep (by rw [k]), h.r5.keep (by rw [k]), h.r6.keep (by rw [k]), h.r7.keep (by rw [k]), by rw [k]; exact h.dK, h.e1, h.e2, h.e3, h.e4, h.e5, h.e6, h.k4, h.k5, h.k7, h.n7⟩
theorem PS.setA (h : PS wc g4 g5 g6 g7 n m D2 N A fr tr X) {i : Nat} (hi : i < n) (x : Int) : PS wc g4 g5 g6 g7 n m D2 N (fset A i x) fr tr (X.setCell ⟨g5, i, none⟩ (.int .i64 x)) :=
  ⟨h.ag.set (.inr (.inl rfl)) _ _, h.r4.off (fun e => h.e1 e.symm) _, h.r5.set hi x, h.r6.off h.e4 _, h.r7.off h.e5 _, (Below.heap_setCell _ _ _ _ (fun e => h.k5 e.symm)).trans h.dK, h.e1, h.e2, h.e3, h.e4, h.e5, h.e6, h.k4, h.k5, h.k7, h.n7⟩
theorem PS.setT (h : PS wc g4 g5 g6 g7 n m D2 N A fr tr X) {i : Nat} (hi : i < m) (x : Int) : PS wc g4 g5 g6 g7 n m D2 N A fr (fset tr i x) (X.setCell ⟨g4, i, none⟩ (.int .i64 x)) :=
  ⟨h.ag.set (.inl rfl) _ _, h.r4.set hi x, h.r5.off h.e1 _, h.r6.off h.e2 _, h.r7.off h.e3 _, (Below.heap_setCell _ _ _ _ (fun e => h.k4 e.symm)).trans h.dK, h.e1, h.e2, h.e3, h.e4, h.e5, h.e6, h.k4, h.k5, h.k7, h.n7⟩
theorem PS.setF (h : PS wc g4 g5 g6 g7 n m D2 N A fr tr X) {i : Nat} (hi : i < n) (x : Nat) : PS wc g4 g5 g6 g7 n m D2 N A (updN fr i x) tr (X.setCell ⟨g7, i, none⟩ (.int .i64 (x : Nat))) :=
  ⟨h.ag.set (.inr (.inr (.inr h.n7))) _ _, h.r4.off (fun e => h.e3 e.symm) _, h.r5.off (fun e => h.e5 e.symm) _, h.r6.off (fun e => h.e6 e.symm) _, (h.r7.set hi (x : Nat)).congr fun j hj => by unfold fset updN; split <;> rfl, (Below.heap_setCell _ _ _ _ (fun e => h.k7 e.symm)).trans h.dK, h.e1, h.e2, h.e3, h.e4, h.e5, h.e6, h.k4, h.k5, h.k7, h.n7⟩
end

structure U2 (w0 : World) (S n m ko F : Nat) (ao : Option Addr) (vA vN vU : Value) (OB OR OM : Obj) (d0 d1 d2 d3 d4 d5 d6 d7 d8 d9 d10 d11 d12 d13 d14 d15 d16 d17 d18 d19 d20 d21 d22 : Bool) (v13 v14 v15 v16 v17 v18 v19 v20 v21 v22 v23 v24 v25 v26 v27 v28 v29 v30 v31 v32 : Value) (w : World) : Prop where
  fr : FrF F w0 w
  cF : w.heap[F]? = some (fobj vA vN (.slice ao m ko) vU (sel d22 v26) (sel d16 v18) (sel d19 v20))
  c0 : d0 = true → v13 = Value.pointer (some ⟨F, 0, none⟩)
  c1 : d1 = true → v14 = Value.pointer (some ⟨F, 0, none⟩)
  c2 : d2 = true → v15 = Value.pointer (some ⟨F, 0, none⟩)
  c3 : d5 = false → SlB S (.cells #[.int .i64 (-1)] 3) 1 1 d3 v16 w
  c4 : d4 = true → v17 = Value.int .i64 (n : Nat)
  c5 : SlB S OR n n d5 v18 w
  c6 : d6 = true → v19 = Value.int .i64 (n : Nat)
  c7 : SlB S OB n n d7 v20 w
  c8 : d8 = true → v21 = Value.pointer (some ⟨F, 0, none⟩)
  c9 : d9 = true → v22 = Value.pointer (some ⟨F, 0, none⟩)
  c10 : d10 = true → v23 = Value.pointer (some ⟨F, 2, none⟩)
  c11 : d11 = true → v24 = Value.slice ao m ko
  c12 : d12 = true → v25 = Value.int .i64 (m : Nat)
  c13 : SlB S OM m m d13 v26 w
  c14 : d14 = true → v27 = Value.pointer (some ⟨F, 0, none⟩)
  c15 : d15 = true → v28 = Value.pointer (some ⟨F, 5, none⟩)
  c17 : d17 = true → v29 = Value.pointer (some ⟨F, 0, none⟩)
  c18 : d18 = true → v30 = Value.pointer (some ⟨F, 6, none⟩)
  c20 : d20 = true → v31 = Value.pointer (some ⟨F, 0, none⟩)
  c21 : d21 = true → v32 = Value.pointer (some ⟨F, 4, none⟩)
  xa : Dis d5 d7 v18 v20
  xb : Dis d5 d13 v18 v26
  xc : Dis d7 d13 v20 v26
  o5 : d5 = true → d3 = true
  o16 : d16 = true → d5 = true
  o19 : d19 = true → d7 = true ∧ d16 = true
  o22 : d22 = true → d13 = true ∧ d19 = true

theorem U2.keep {w0 : World} {S n m ko F : Nat} {ao : Option Addr} {vA vN vU : Value} {OB OR OM : Obj} {d0 d1 d2 d3 d4 d5 d6 d7 d8 d9 d10 d11 d12 d13 d14 d15 d16 d17 d18 d19 d20 d21 d22 : Bool} {v13 v14 v15 v16 v17 v18 v19 v20 v21 v22 v23 v24 v25 v26 v27 v28 v29 v30 v31 v32 : Value} {w w' : World} (h : U2 w0 S n m ko F ao vA vN vU OB OR OM d0 d1 d2 d3 d4 d5 d6 d7 d8 d9 d10 d11 d12 d13 d14 d15 d16 d17 d18 d19 d20 d21 d22 v13 v14 v15 v16 v17 v18 v19 v20 v21 v22 v23 v24 v25 v26 v27 v28 v29 v30 v31 v32 w) (k : Below w.heap.size w w') : U2 w0 S n m ko F ao vA vN vU OB OR OM d0 d1 d2 d3 d4 d5 d6 d7 d8 d9 d10 d11 d12 d13 d14 d15 d16 d17 d18 d19 d20 d21 d22 v13 v14 v15 v16 v17 v18 v19 v20 v21 v22 v23 v24 v25 v26 v27 v28 v29 v30 v31 v32 w' :=
  ⟨h.fr.below k, (k.block F (lt_of_block h.cF)).trans h.cF, h.c0, h.c1, h.c2, fun hd => (h.c3 hd).keep k, h.c4, h.c5.keep k, h.c6, h.c7.keep k, h.c8, h.c9, h.c10, h.c11, h.c12, h.c13.keep k, h.c14, h.c15, h.c17, h.c18, h.c20, h.c21, h.xa, h.xb, h.xc, h.o5, h.o16, h.o19, h.o22⟩


structure R7 (Wd W3 : World) (F g6 gu n b c : Nat) (y1 x1 : Int) (d0 d1 d2 d3 d4 d5 d6 d7 d8 d9 d10 d11 d12 d13 d14 d15 d16 d17 d18 d19 d20 d21 d22 : Bool) (v57 v58 v59 v60 v61 v62 v63 v64 v65 v66 v67 v68 v69 v70 v71 v72 v73 v74 v75 v76 v77 v78 : Value) (w : World) : Prop where
  cw : w = (match d22 with | false => Wd | true => W3)
  c0 : d0 = true → v57 = Value.pointer (some ⟨F, 0, none⟩)
  c1 : d1 = true → v58 = Value.pointer (some ⟨F, 0, none⟩)
  c2 : d2 = true → v59 = Value.pointer (some ⟨F, 6, none⟩)
  c3 : d3 = true → v60 = Value.slice (some ⟨g6, 0, none⟩) n n
  c4 : d4 = true → v61 = Value.pointer (some ⟨F, 0, none⟩)
  c5 : d5 = true → v62 = Value.pointer (some ⟨F, 0, none⟩)
  c6 : d6 = true → v63 = Value.pointer (some ⟨F, 3, none⟩)
  c7 : d7 = true → v64 = Value.slice (some ⟨gu, 0, none⟩) n n
  c8 : d8 = true → v65 = Value.int .i64 (b : Nat)
  c9 : d9 = true → v66 = Value.pointer (some ⟨gu, b, none⟩)
  c10 : d10 = true → v67 = Value.int .i64 (c : Nat)
  c11 : d11 = true → v68 = Value.pointer (some ⟨g6, c, none⟩)
  c12 : d12 = true → v69 = Value.int .i64 y1
  c13 : d13 = true → v70 = Value.pointer (some ⟨F, 0, none⟩)
  c14 : d14 = true → v71 = Value.pointer (some ⟨F, 0, none⟩)
  c15 : d15 = true → v72 = Value.pointer (some ⟨F, 6, none⟩)
  c16 : d16 = true → v73 = Value.slice (some ⟨g6, 0, none⟩) n n
  c17 : d17 = true → v74 = Value.int .i64 (b : Nat)
  c18 : d18 = true → v75 = Value.pointer (some ⟨g6, b, none⟩)
  c19 : d19 = true → v76 = Value.int .i64 x1
  c20 : d20 = true → v77 = Value.int .i64 (IntKind.i64.wrap (y1 + x1))
  c21 : d21 = true → v78 = Value.pointer (some ⟨g6, c, none⟩)
  o22 : d22 = true → d0 = true ∧ d1 = true ∧ d2 = true ∧ d3 = true ∧ d4 = true ∧ d5 = true ∧ d6 = true ∧ d7 = true ∧ d8 = true ∧ d9 = true ∧ d10 = true ∧ d11 = true ∧ d12 = true ∧ d13 = true ∧ d14 = true ∧ d15 = true ∧ d16 = true ∧ d17 = true ∧ d18 = true ∧ d19 = true ∧ d20 = true ∧ d21 = true

structure Rg14 (Wd W3 : World) (k0 k1 k2 k3 k4 k5 k6 k7 k8 k9 k10 k11 k12 : Value) (d0 d1 d2 d3 d4 d5 d6 d7 d8 d9 d10 d11 d12 d13 : Bool) (v0 v1 v2 v3 v4 v5 v6 v7 v8 v9 v10 v11 v12 : Value) (w : World) : Prop where
  cw : w = (match d13 with | false => Wd | true => W3)
  c0 : d0 = true → v0 = k0
  c1 : d1 = true → v1 = k1
  c2 : d2 = true → v2 = k2
  c3 : d3 = true → v3 = k3
  c4 : d4 = true → v4 = k4
  c5 : d5 = true → v5 = k5
  c6 : d6 = true → v6 = k6
  c7 : d7 = true → v7 = k7
  c8 : d8 = true → v8 = k8
  c9 : d9 = true → v9 = k9
  c10 : d10 = true → v10 = k10
  c11 : d11 = true → v11 = k11
  c12 : d12 = true → v12 = k12
  oL : d13 = true → d0 = true ∧ d1 = true ∧ d2 = true ∧ d3 = true ∧ d4 = true ∧ d5 = true ∧ d6 = true ∧ d7 = true ∧ d8 = true ∧ d9 = true ∧ d10 = true ∧ d11 = true ∧ d12 = true

structure Rg17 (Wd W3 : World) (k0 k1 k2 k3 k4 k5 k6 k7 k8 k9 k10 k11 k12 k13 k14 k15 : Value) (d0 d1 d2 d3 d4 d5 d6 d7 d8 d9 d10 d11 d12 d13 d14 d15 d16 : Bool) (v0 v1 v2 v3 v4 v5 v6 v7 v8 v9 v10 v11 v12 v13 v14 v15 : Value) (w : World) : Prop where
  cw : w = (match d16 with | false => Wd | true => W3)
  c0 : d0 = true → v0 = k0
  c1 : d1 = true → v1 = k1
  c2 : d2 = true → v2 = k2
  c3 : d3 = true → v3 = k3
  c4 : d4 = true → v4 = k4
  c5 : d5 = true → v5 = k5
  c6 : d6 = true → v6 = k6
  c7 : d7 = true → v7 = k7
  c8 : d8 = true → v8 = k8
  c9 : d9 = true → v9 = k9
  c10 : d10 = true → v10 = k10
  c11 : d11 = true → v11 = k11
  c12 : d12 = true → v12 = k12
  c13 : d13 = true → v13 = k13
  c14 : d14 = true → v14 = k14
  c15 : d15 = true → v15 = k15
  oL : d16 = true → d0 = true ∧ d1 = true ∧ d2 = true ∧ d3 = true ∧ d4 = true ∧ d5 = true ∧ d6 = true ∧ d7 = true ∧ d8 = true ∧ d9 = true ∧ d10 = true ∧ d11 = true ∧ d12 = true ∧ d13 = true ∧ d14 = true ∧ d15 = true

structure Rg20 (Wd W3 : World) (k0 k1 k2 k3 k4 k5 k6 k7 k8 k9 k10 k11 k12 k13 k14 k15 k16 k17 k18 : Value) (d0 d1 d2 d3 d4 d5 d6 d7 d8 d9 d10 d11 d12 d13 d14 d15 d16 d17 d18 d19 : Bool) (v0 v1 v2 v3 v4 v5 v6 v7 v8 v9 v10 v11 v12 v13 v14 v15 v16 v17 v18 : Value) (w : World) : Prop where
  cw : w = (match d19 with | false => Wd | true => W3)
  c0 : d0 = true → v0 = k0
  c1 : d1 = true → v1 = k1
  c2 : d2 = true → v2 = k2
  c3 : d3 = true → v3 = k3
  c4 : d4 = true → v4 = k4
  c5 : d5 = true → v5 = k5
  c6 : d6 = true → v6 = k6
  c7 : d7 = true → v7 = k7
  c8 : d8 = true → v8 = k8
  c9 : d9 = true → v9 = k9
  c10 : d10 = true → v10 = k10
  c11 : d11 = true → v11 = k11
  c12 : d12 = true → v12 = k12
  c13 : d13 = true → v13 = k13
  c14 : d14 = true → v14 = k14
  c15 : d15 = true → v15 = k15
  c16 : d16 = true → v16 = k16
  c17 : d17 = true → v17 = k17
  c18 : d18 = true → v18 = k18
  oL : d19 = true → d0 = true ∧ d1 = true ∧ d2 = true ∧ d3 = true ∧ d4 = true ∧ d5 = true ∧ d6 = true ∧ d7 = true ∧ d8 = true ∧ d9 = true ∧ d10 = true ∧ d11 = true ∧ d12 = true ∧ d13 = true ∧ d14 = true ∧ d15 = true ∧ d16 = true ∧ d17 = true ∧ d18 = true

/-- where the blocks stand, in rows of one's own -/
structure Planted (o : List Nat) (q : Nat → Nat) (m n F g5 g6 : Nat) (O : Obj) (w w' : World) : Prop where
  obj : w'.heap[F]? = some O
  fr : FrF F w w'
  ne : g5 ≠ g6
  l5 : w.heap.size ≤ g5
  l6 : w.heap.size ≤ g6
  rows : ∃ (A : Nat → Int) (at' fr : Nat → Nat), NW o q m at' fr ∧ (∀ b, b ∈ o → A b = (at' b : Int)) ∧ (∀ b, b ∉ o → A b = -1) ∧ RowI w' 0 g5 n A ∧ RowI w' 0 g6 n (fun b => wrap64 ((manyL q o b : Nat) : Int))

set_option maxHeartbeats 40000000 in
set_option maxRecDepth 100000 in
theorem plant_any (o : List Nat) (u : Nat → Option Nat) (q : Nat → Nat) (B n m kA ko F gu : Nat) (aA ao : Option Addr) (vN : Value) (w : World) (hB : B ≤ w.heap.size) (hm : m = o.length) (hsz : n ≤ 1048576) (hlt : ∀ b, b ∈ o → b < n) (hnd : o.Nodup)
    (hT : 0 < m → TR o q) (hq : ∀ b, b ∈ o → b ≠ 0 → u b = some (q b))
    (hF : w.heap[F]? = some (fobj (.slice aA n kA) vN (.slice ao m ko) (.slice (some ⟨gu, 0, none⟩) n n) (.slice none 0 0) (.slice none 0 0) (.slice none 0 0)))
    (hO : Nums B w (.slice ao m ko) (natsL o)) (hBF : ∀ go oo : Nat, ao = some ⟨go, oo, none⟩ → go ≠ F) (hU : RowI w 0 gu n (upI u)) (hgF : gu ≠ F) :
    Calls Tryd.prog 31 #[.pointer (some ⟨F, 0, none⟩)] w fun e w' => e = .returned (.tuple #[]) ∧ ∃ g4 g5 g6 : Nat, Planted o q m n F g5 g6 (fobj (.slice aA n kA) vN (.slice ao m ko) (.slice (some ⟨gu, 0, none⟩) n n) (.slice (some ⟨g4, 0, none⟩) m m) (.slice (some ⟨g5, 0, none⟩) n n) (.slice (some ⟨g6, 0, none⟩) n n)) w w' := by
  have HMN : Hid (m ≤ n) := by
    have h1 : o.length ≤ (List.range n).length := List.Nodup.length_le_of_subset hnd (fun x hx => List.mem_range.2 (hlt x hx))
    unfold Hid; rw [List.length_range] at h1; omega
  obtain ⟨OB, hOB⟩ : ∃ OB, OB = (.cells (numsL (fnL n (fun _ => 0))).toArray 3 : Obj) := ⟨_, rfl⟩
  have hmk := make_run n (by omega)
  rw [← hOB] at hmk
  have HOB : Hid (OB = _) := hOB
  obtain ⟨OM, hOM⟩ : ∃ OM, OM = (.cells (numsL (fnL m (fun _ => 0))).toArray 3 : Obj) := ⟨_, rfl⟩
  have hmk2 := make_run m (by have := HMN.out; omega)
  rw [← hOM] at hmk2
  have HOM : Hid (OM = _) := hOM
  obtain ⟨OR, hOR⟩ : ∃ OR, OR = (.cells (numsL (fnL n (fun _ => -1))).toArray 3 : Obj) := ⟨_, rfl⟩
  have HOR : Hid (OR = _) := hOR
  have HREP : Hid (∀ (W : World) (g : Nat), W.heap[g]? = some (.cells #[.int .i64 (-1)] 3) → Calls Tryd.prog 46 #[.slice (some ⟨g, 0, none⟩) 1 1, .int .i64 (n : Nat)] W fun e w' =>
      ∃ g', e = .returned (.slice (some ⟨g', 0, none⟩) n n) ∧ w'.heap[g']? = some OR ∧ W.heap.size ≤ g' ∧ g' < w'.heap.size ∧ Below W.heap.size W w') := by
    rw [hOR]; exact rep_run n (by omega)
  have hFlt := lt_of_block hF
  have HFLT : Hid (F < w.heap.size) := hFlt
  obtain ⟨w0, hw0⟩ : ∃ w0, w0 = w.alloc (.cells #[.pointer (some ⟨F, 0, none⟩)] 85) := ⟨_, rfl⟩
  obtain ⟨Bx, hBx⟩ : ∃ Bx, Bx = w.heap.size := ⟨_, rfl⟩
  obtain ⟨S, hS⟩ : ∃ S, S = w0.heap.size := ⟨_, rfl⟩
  have hs0 : w0.heap.size = w.heap.size + 1 := by rw [hw0]; simp
  have HSB : Hid (S = Bx + 1) := by unfold Hid; omega
  have HFB : Hid (F < Bx) := by unfold Hid; omega
  have hFS : F < S := by omega
  have HBX : Hid (w0.heap[Bx]? = some (.cells #[.pointer (some ⟨F, 0, none⟩)] 85)) := by unfold Hid; rw [hw0, hBx]; exact heap_alloc_new w _
  have HB0 : Hid (Below w.heap.size w w0) := by rw [hw0]; exact below_alloc _ _
  have qbox : Hid (∀ wx, FrF F w0 wx → wx.cell? ⟨Bx, 0, none⟩ = some (.pointer (some ⟨F, 0, none⟩))) := fun wx h =>
    cellOne ((h.block Bx (by have := HSB.out; omega) (by have := HFB.out; omega)).trans HBX.out)
  obtain ⟨vA, hvA⟩ : ∃ vA, vA = Value.slice aA n kA := ⟨_, rfl⟩
  obtain ⟨vU, hvU⟩ : ∃ vU, vU = Value.slice (some ⟨gu, 0, none⟩) n n := ⟨_, rfl⟩
  have HF0 : Hid (w0.heap[F]? = some (fobj vA vN (.slice ao m ko) vU (.slice none 0 0) (.slice none 0 0) (.slice none 0 0))) := by rw [hvA, hvU]; exact (HB0.out.block F HFLT.out).trans hF
  have HVU : Hid (vU = _) := hvU
  have HVA : Hid (vA = _) := hvA
  have HW0 : Hid (w0 = w.alloc (.cells #[.pointer (some ⟨F, 0, none⟩)] 85)) := hw0
  have HSE : Hid (S = w0.heap.size) := hS
  have HBE : Hid (Bx = w.heap.size) := hBx
  have HMO : Hid (m = o.length) := hm
  have HLT : Hid (_) := hlt
  have HND : Hid (_) := hnd
  have HTT : Hid (_) := hT
  have HQQ : Hid (_) := hq
  have HOO : Hid (Nums B w (.slice ao m ko) (natsL o)) := hO
  have HUU : Hid (RowI w 0 gu n (upI u)) := hU
  have HGF : Hid (gu ≠ F) := hgF
  have HBF : Hid (∀ go oo : Nat, ao = some ⟨go, oo, none⟩ → go ≠ F) := hBF
  have HBW : Hid (B ≤ w.heap.size) := hB
  have qa0 := (cells7 HF0.out).1
  rw [hvA] at qa0
  clear hOB hOM hOR hFlt hw0 hs0 hm hlt hnd hT hq hO hU hgF hF hB hBF hS hBx hvA hvU
  refine (callsIn_wide (n := 5)).1 ?_
  refine callsIn_of_wp_marks Tryd.func31 rfl trivial ?_ rfl
  simp only [Tryd.ntmps31, List.size_toArray, List.length_cons, List.length_nil, Nat.reduceAdd, Nat.reduceSub, Array.replicate_succ, Array.replicate_zero, List.push_toArray, List.append_toArray, List.nil_append, List.cons_append]
  refine wpIn_wide.2 ?_
  rw [HW0.out] at qa0
  go_upto_region 2 with fail
  rw [← HW0.out, ← HBE.out, ← HVA.out]
  clear qa0
  go_cut [2] from 13 to 32 (fun s2 wx => ∃ g4 g5 g6 : Nat, s2 = .int .i64 (n : Nat) ∧ Hid (wx.heap[F]? = some (fobj vA vN (.slice ao m ko) vU (.slice (some ⟨g4, 0, none⟩) m m) (.slice (some ⟨g5, 0, none⟩) n n) (.slice (some ⟨g6, 0, none⟩) n n)) ∧
    wx.heap[g4]? = some OM ∧ wx.heap[g5]? = some OR ∧ wx.heap[g6]? = some OB ∧ g4 ≠ g5 ∧ g4 ≠ g6 ∧ g5 ≠ g6 ∧ S ≤ g4 ∧ S ≤ g5 ∧ S ≤ g6 ∧ FrF F w0 wx))
  case first =>
    refine wp_region_any (by kernel_rfl) ?_
    refine wpAny_inv (fun listed a wx => ∃ d0 d1 d2 d3 d4 d5 d6 d7 d8 d9 d10 d11 d12 d13 d14 d15 d16 d17 d18 d19 d20 d21 d22 : Bool, listed = #[d0, d1, d2, d3, d4, d5, d6, d7, d8, d9, d10, d11, d12, d13, d14, d15, d16, d17, d18, d19, d20, d21, d22] ∧ ∃ v13 v14 v15 v16 v17 v18 v19 v20 v21 v22 v23 v24 v25 v26 v27 v28 v29 v30 v31 v32 : Value, a = { tmps := #[Value.pointer (some ⟨F, 0, none⟩), Value.pointer (some ⟨Bx, 0, none⟩), Value.int .i64 (n : Nat), undef, undef, undef, undef, undef, Value.pointer (some ⟨F, 0, none⟩), Value.pointer (some ⟨F, 0, none⟩), Value.pointer (some ⟨F, 0, none⟩), vA, Value.int .i64 (n : Nat), v13, v14, v15, v16, v17, v18, v19, v20, v21, v22, v23, v24, v25, v26, v27, v28, v29, v30, v31, v32, undef, undef, undef, undef, undef, undef, undef, undef, undef, undef, undef, undef, undef, undef, undef, undef, undef, undef, undef, undef, undef, undef, undef, undef, undef, undef, undef, undef, undef, undef, undef, undef, undef, undef, undef, undef, undef, undef, undef, undef, undef, undef, undef, undef, undef, undef, undef, undef, undef, undef, undef, undef, undef, undef, undef, undef, undef, undef, undef, undef, undef, undef, undef, undef, undef, undef, undef, undef, undef, undef, undef, undef, undef, undef, undef, undef, undef, undef, undef, undef, undef, undef, undef, undef, undef, undef, undef, undef, undef, undef, undef, undef, undef, undef, undef, undef, undef, undef, undef, undef, undef, undef, undef, undef, undef, undef, undef, undef, undef, undef, undef, undef, undef, undef, undef, undef, undef, undef, undef, undef, undef, undef, undef, undef, undef, undef], defers := [] } ∧ Hid (U2 w0 S n m ko F ao vA vN vU OB OR OM d0 d1 d2 d3 d4 d5 d6 d7 d8 d9 d10 d11 d12 d13 d14 d15 d16 d17 d18 d19 d20 d21 d22 v13 v14 v15 v16 v17 v18 v19 v20 v21 v22 v23 v24 v25 v26 v27 v28 v29 v30 v31 v32 wx)) ?_ ?_ _ _ _ _ (Nat.le_of_eq (by kernel_rfl)) ?_
    · rintro listed a wx i ⟨d0, d1, d2, d3, d4, d5, d6, d7, d8, d9, d10, d11, d12, d13, d14, d15, d16, d17, d18, d19, d20, d21, d22, rfl, v13, v14, v15, v16, v17, v18, v19, v20, v21, v22, v23, v24, v25, v26, v27, v28, v29, v30, v31, v32, rfl, H⟩ hi
      obtain ⟨hi0, hi1, hi2⟩ := ready_mem hi
      clear hi
      have hi0 : i < 23 := hi0
      have hcase : i = 0 ∨ i = 1 ∨ i = 2 ∨ i = 3 ∨ i = 4 ∨ i = 5 ∨ i = 6 ∨ i = 7 ∨ i = 8 ∨ i = 9 ∨ i = 10 ∨ i = 11 ∨ i = 12 ∨ i = 13 ∨ i = 14 ∨ i = 15 ∨ i = 16 ∨ i = 17 ∨ i = 18 ∨ i = 19 ∨ i = 20 ∨ i = 21 ∨ i = 22 := by omega
      clear hi0
      rcases hcase with rfl | rfl | rfl | rfl | rfl | rfl | rfl | rfl | rfl | rfl | rfl | rfl | rfl | rfl | rfl | rfl | rfl | rfl | rfl | rfl | rfl | rfl | rfl
      all_goals (simp [Region.binds] at hi1 hi2)
      · obtain rfl : d0 = false := by simpa using hi1
        clear hi1
        have hsz1 : S ≤ wx.heap.size := by have := H.out.fr.size; have := HSE.out; omega
        have qb := qbox.out wx H.out.fr
        refine wpOp_step rfl (fun K' hK => ?_)
        go_simp
        refine hK _ _ ?_
        have h := H.out
        exact ⟨true, d1, d2, d3, d4, d5, d6, d7, d8, d9, d10, d11, d12, d13, d14, d15, d16, d17, d18, d19, d20, d21, d22, rfl, _, _, _, _, _, _, _, _, _, _, _, _, _, _, _, _, _, _, _, _, rfl, ⟨h.fr, h.cF, fun _ => rfl, h.c1, h.c2, h.c3, h.c4, h.c5, h.c6, h.c7, h.c8, h.c9, h.c10, h.c11, h.c12, h.c13, h.c14, h.c15, h.c17, h.c18, h.c20, h.c21, h.xa, h.xb, h.xc, h.o5, h.o16, h.o19, h.o22⟩⟩
      · obtain rfl : d1 = false := by simpa using hi1
        clear hi1
        have hsz1 : S ≤ wx.heap.size := by have := H.out.fr.size; have := HSE.out; omega
        have qb := qbox.out wx H.out.fr
        refine wpOp_step rfl (fun K' hK => ?_)
        go_simp
        refine hK _ _ ?_
        have h := H.out
        exact ⟨d0, true, d2, d3, d4, d5, d6, d7, d8, d9, d10, d11, d12, d13, d14, d15, d16, d17, d18, d19, d20, d21, d22, rfl, _, _, _, _, _, _, _, _, _, _, _, _, _, _, _, _, _, _, _, _, rfl, ⟨h.fr, h.cF, h.c0, fun _ => rfl, h.c2, h.c3, h.c4, h.c5, h.c6, h.c7, h.c8, h.c9, h.c10, h.c11, h.c12, h.c13, h.c14, h.c15, h.c17, h.c18, h.c20, h.c21, h.xa, h.xb, h.xc, h.o5, h.o16, h.o19, h.o22⟩⟩
      · obtain rfl : d2 = false := by simpa using hi1
        clear hi1
        have hsz1 : S ≤ wx.heap.size := by have := H.out.fr.size; have := HSE.out; omega
        have qb := qbox.out wx H.out.fr
        refine wpOp_step rfl (fun K' hK => ?_)
        go_simp
        refine hK _ _ ?_
        have h := H.out
        exact ⟨d0, d1, true, d3, d4, d5, d6, d7, d8, d9, d10, d11, d12, d13, d14, d15, d16, d17, d18, d19, d20, d21, d22, rfl, _, _, _, _, _, _, _, _, _, _, _, _, _, _, _, _, _, _, _, _, rfl, ⟨h.fr, h.cF, h.c0, h.c1, fun _ => rfl, h.c3, h.c4, h.c5, h.c6, h.c7, h.c8, h.c9, h.c10, h.c11, h.c12, h.c13, h.c14, h.c15, h.c17, h.c18, h.c20, h.c21, h.xa, h.xb, h.xc, h.o5, h.o16, h.o19, h.o22⟩⟩
      · obtain rfl : d3 = false := by simpa using hi1
        clear hi1
        have hsz1 : S ≤ wx.heap.size := by have := H.out.fr.size; have := HSE.out; omega
        refine wpOp_step rfl (fun K' hK => ?_)
        go_simp
        refine hK _ _ ?_
        have hnew := heap_alloc_new wx (.cells #[.int .i64 (-1)] 3)
        have hle : wx.heap.size ≤ wx.heap.size := Nat.le_refl _
        have h := H.out.keep (below_alloc wx (.cells #[.int .i64 (-1)] 3))
        exact ⟨d0, d1, d2, true, d4, d5, d6, d7, d8, d9, d10, d11, d12, d13, d14, d15, d16, d17, d18, d19, d20, d21, d22, rfl, _, _, _, _, _, _, _, _, _, _, _, _, _, _, _, _, _, _, _, _, rfl, ⟨h.fr, h.cF, h.c0, h.c1, h.c2, fun _ => SlB.new hnew hsz1, h.c4, h.c5, h.c6, h.c7, h.c8, h.c9, h.c10, h.c11, h.c12, h.c13, h.c14, h.c15, h.c17, h.c18, h.c20, h.c21, h.xa, h.xb, h.xc, fun _ => rfl, h.o16, h.o19, h.o22⟩⟩
      · obtain rfl : d4 = false := by simpa using hi1
        clear hi1
        have hsz1 : S ≤ wx.heap.size := by have := H.out.fr.size; have := HSE.out; omega
        refine wpOp_step rfl (fun K' hK => ?_)
        go_simp
        refine hK _ _ ?_
        have h := H.out
        exact ⟨d0, d1, d2, d3, true, d5, d6, d7, d8, d9, d10, d11, d12, d13, d14, d15, d16, d17, d18, d19, d20, d21, d22, rfl, _, _, _, _, _, _, _, _, _, _, _, _, _, _, _, _, _, _, _, _, rfl, ⟨h.fr, h.cF, h.c0, h.c1, h.c2, h.c3, fun _ => rfl, h.c5, h.c6, h.c7, h.c8, h.c9, h.c10, h.c11, h.c12, h.c13, h.c14, h.c15, h.c17, h.c18, h.c20, h.c21, h.xa, h.xb, h.xc, h.o5, h.o16, h.o19, h.o22⟩⟩
      · obtain rfl : d5 = false := by simpa using hi1
        have e3 : d3 = true := by simp only [hi2]
        have e4 : d4 = true := by simp only [hi2]
        clear hi1 hi2
        subst e3
        subst e4
        have hsz1 : S ≤ wx.heap.size := by have := H.out.fr.size; have := HSE.out; omega
        obtain rfl := H.out.c4 rfl
        obtain ⟨g, rfl, hg, hs⟩ := H.out.c3 rfl rfl
        have h16 : d16 = false := by
          rcases hq : d16 with _ | _
          · rfl
          · exact nomatch H.out.o16 hq
        obtain rfl := h16
        refine wpOp_step rfl (fun K' hK => ?_)
        go_simp
        go_wp2_with (go_at_call 46; refine Calls.mono (HREP.out _ _ hg) ?_; rintro e w1 ⟨g', rfl, hnew, hle, hlt, hk⟩)
        have h := H.out.keep hk
        exact ⟨d0, d1, d2, true, true, true, d6, d7, d8, d9, d10, d11, d12, d13, d14, d15, false, d17, d18, d19, d20, d21, d22, rfl, _, _, _, _, _, _, _, _, _, _, _, _, _, _, _, _, _, _, _, _, rfl, ⟨h.fr, h.cF, h.c0, h.c1, h.c2, (fun hd => nomatch hd), h.c4, SlB.new hnew (Nat.le_trans hsz1 hle), h.c6, h.c7, h.c8, h.c9, h.c10, h.c11, h.c12, h.c13, h.c14, h.c15, h.c17, h.c18, h.c20, h.c21, (SlB.apart H.out.c7 rfl hle).symm, (SlB.apart H.out.c13 rfl hle).symm, h.xc, fun _ => rfl, (fun hd => nomatch hd), h.o19, h.o22⟩⟩
      · obtain rfl : d6 = false := by simpa using hi1
        clear hi1
        have hsz1 : S ≤ wx.heap.size := by have := H.out.fr.size; have := HSE.out; omega
        refine wpOp_step rfl (fun K' hK => ?_)
        go_simp
        refine hK _ _ ?_
        have h := H.out
        exact ⟨d0, d1, d2, d3, d4, d5, true, d7, d8, d9, d10, d11, d12, d13, d14, d15, d16, d17, d18, d19, d20, d21, d22, rfl, _, _, _, _, _, _, _, _, _, _, _, _, _, _, _, _, _, _, _, _, rfl, ⟨h.fr, h.cF, h.c0, h.c1, h.c2, h.c3, h.c4, h.c5, fun _ => rfl, h.c7, h.c8, h.c9, h.c10, h.c11, h.c12, h.c13, h.c14, h.c15, h.c17, h.c18, h.c20, h.c21, h.xa, h.xb, h.xc, h.o5, h.o16, h.o19, h.o22⟩⟩
      · obtain rfl : d7 = false := by simpa using hi1
        have e6 : d6 = true := by simp only [hi2]
        clear hi1 hi2
        subst e6
        have hsz1 : S ≤ wx.heap.size := by have := H.out.fr.size; have := HSE.out; omega
        obtain rfl := H.out.c6 rfl
        have h19 : d19 = false := by
          rcases hq : d19 with _ | _
          · rfl
          · exact nomatch (H.out.o19 hq).1
        obtain rfl := h19
        refine wpOp_step rfl (fun K' hK => ?_)
        go_simp
        refine hK _ _ ?_
        have hnew := heap_alloc_new wx OB
        have hle : wx.heap.size ≤ wx.heap.size := Nat.le_refl _
        have h := H.out.keep (below_alloc wx OB)
        exact ⟨d0, d1, d2, d3, d4, d5, true, true, d8, d9, d10, d11, d12, d13, d14, d15, d16, d17, d18, false, d20, d21, d22, rfl, _, _, _, _, _, _, _, _, _, _, _, _, _, _, _, _, _, _, _, _, rfl, ⟨h.fr, h.cF, h.c0, h.c1, h.c2, h.c3, h.c4, h.c5, h.c6, SlB.new hnew hsz1, h.c8, h.c9, h.c10, h.c11, h.c12, h.c13, h.c14, h.c15, h.c17, h.c18, h.c20, h.c21, SlB.apart H.out.c5 rfl hle, h.xb, (SlB.apart H.out.c13 rfl hle).symm, h.o5, h.o16, (fun hd => nomatch hd), h.o22⟩⟩
      · obtain rfl : d8 = false := by simpa using hi1
        clear hi1
        have hsz1 : S ≤ wx.heap.size := by have := H.out.fr.size; have := HSE.out; omega
        have qb := qbox.out wx H.out.fr
        refine wpOp_step rfl (fun K' hK => ?_)
        go_simp
        refine hK _ _ ?_
        have h := H.out
        exact ⟨d0, d1, d2, d3, d4, d5, d6, d7, true, d9, d10, d11, d12, d13, d14, d15, d16, d17, d18, d19, d20, d21, d22, rfl, _, _, _, _, _, _, _, _, _, _, _, _, _, _, _, _, _, _, _, _, rfl, ⟨h.fr, h.cF, h.c0, h.c1, h.c2, h.c3, h.c4, h.c5, h.c6, h.c7, fun _ => rfl, h.c9, h.c10, h.c11, h.c12, h.c13, h.c14, h.c15, h.c17, h.c18, h.c20, h.c21, h.xa, h.xb, h.xc, h.o5, h.o16, h.o19, h.o22⟩⟩
      · obtain rfl : d9 = false := by simpa using hi1
        have e8 : d8 = true := by simp only [hi2]
        clear hi1 hi2
        subst e8
        have hsz1 : S ≤ wx.heap.size := by have := H.out.fr.size; have := HSE.out; omega
        obtain rfl := H.out.c8 rfl
        refine wpOp_step rfl (fun K' hK => ?_)
        go_simp
        refine hK _ _ ?_
        have h := H.out
        exact ⟨d0, d1, d2, d3, d4, d5, d6, d7, true, true, d10, d11, d12, d13, d14, d15, d16, d17, d18, d19, d20, d21, d22, rfl, _, _, _, _, _, _, _, _, _, _, _, _, _, _, _, _, _, _, _, _, rfl, ⟨h.fr, h.cF, h.c0, h.c1, h.c2, h.c3, h.c4, h.c5, h.c6, h.c7, h.c8, fun _ => rfl, h.c10, h.c11, h.c12, h.c13, h.c14, h.c15, h.c17, h.c18, h.c20, h.c21, h.xa, h.xb, h.xc, h.o5, h.o16, h.o19, h.o22⟩⟩
      · obtain rfl : d10 = false := by simpa using hi1
        have e9 : d9 = true := by simp only [hi2]
        clear hi1 hi2
        subst e9
        have hsz1 : S ≤ wx.heap.size := by have := H.out.fr.size; have := HSE.out; omega
        obtain rfl := H.out.c9 rfl
        refine wpOp_step rfl (fun K' hK => ?_)
        go_simp
        refine hK _ _ ?_
        have h := H.out
        exact ⟨d0, d1, d2, d3, d4, d5, d6, d7, d8, true, true, d11, d12, d13, d14, d15, d16, d17, d18, d19, d20, d21, d22, rfl, _, _, _, _, _, _, _, _, _, _, _, _, _, _, _, _, _, _, _, _, rfl, ⟨h.fr, h.cF, h.c0, h.c1, h.c2, h.c3, h.c4, h.c5, h.c6, h.c7, h.c8, h.c9, fun _ => rfl, h.c11, h.c12, h.c13, h.c14, h.c15, h.c17, h.c18, h.c20, h.c21, h.xa, h.xb, h.xc, h.o5, h.o16, h.o19, h.o22⟩⟩
      · obtain rfl : d11 = false := by simpa using hi1
        have e10 : d10 = true := by simp only [hi2]
        clear hi1 hi2
        subst e10
        have hsz1 : S ≤ wx.heap.size := by have := H.out.fr.size; have := HSE.out; omega
        obtain rfl := H.out.c10 rfl
        have qf := (cells7 H.out.cF).2.2.1
        refine wpOp_step rfl (fun K' hK => ?_)
        go_simp
        refine hK _ _ ?_
        have h := H.out
        exact ⟨d0, d1, d2, d3, d4, d5, d6, d7, d8, d9, true, true, d12, d13, d14, d15, d16, d17, d18, d19, d20, d21, d22, rfl, _, _, _, _, _, _, _, _, _, _, _, _, _, _, _, _, _, _, _, _, rfl, ⟨h.fr, h.cF, h.c0, h.c1, h.c2, h.c3, h.c4, h.c5, h.c6, h.c7, h.c8, h.c9, h.c10, fun _ => rfl, h.c12, h.c13, h.c14, h.c15, h.c17, h.c18, h.c20, h.c21, h.xa, h.xb, h.xc, h.o5, h.o16, h.o19, h.o22⟩⟩
      · obtain rfl : d12 = false := by simpa using hi1
        have e11 : d11 = true := by simp only [hi2]
        clear hi1 hi2
        subst e11
        have hsz1 : S ≤ wx.heap.size := by have := H.out.fr.size; have := HSE.out; omega
        obtain rfl := H.out.c11 rfl
        refine wpOp_step rfl (fun K' hK => ?_)
        go_simp
        refine hK _ _ ?_
        have h := H.out
        exact ⟨d0, d1, d2, d3, d4, d5, d6, d7, d8, d9, d10, true, true, d13, d14, d15, d16, d17, d18, d19, d20, d21, d22, rfl, _, _, _, _, _, _, _, _, _, _, _, _, _, _, _, _, _, _, _, _, rfl, ⟨h.fr, h.cF, h.c0, h.c1, h.c2, h.c3, h.c4, h.c5, h.c6, h.c7, h.c8, h.c9, h.c10, h.c11, fun _ => rfl, h.c13, h.c14, h.c15, h.c17, h.c18, h.c20, h.c21, h.xa, h.xb, h.xc, h.o5, h.o16, h.o19, h.o22⟩⟩
      · obtain rfl : d13 = false := by simpa using hi1
        have e12 : d12 = true := by simp only [hi2]
        clear hi1 hi2
        subst e12
        have hsz1 : S ≤ wx.heap.size := by have := H.out.fr.size; have := HSE.out; omega
        obtain rfl := H.out.c12 rfl
        have h22 : d22 = false := by
          rcases hq : d22 with _ | _
          · rfl
          · exact nomatch (H.out.o22 hq).1
        obtain rfl := h22
        refine wpOp_step rfl (fun K' hK => ?_)
        go_simp
        refine hK _ _ ?_
        have hnew := heap_alloc_new wx OM
        have hle : wx.heap.size ≤ wx.heap.size := Nat.le_refl _
        have h := H.out.keep (below_alloc wx OM)
        exact ⟨d0, d1, d2, d3, d4, d5, d6, d7, d8, d9, d10, d11, true, true, d14, d15, d16, d17, d18, d19, d20, d21, false, rfl, _, _, _, _, _, _, _, _, _, _, _, _, _, _, _, _, _, _, _, _, rfl, ⟨h.fr, h.cF, h.c0, h.c1, h.c2, h.c3, h.c4, h.c5, h.c6, h.c7, h.c8, h.c9, h.c10, h.c11, h.c12, SlB.new hnew hsz1, h.c14, h.c15, h.c17, h.c18, h.c20, h.c21, h.xa, SlB.apart H.out.c5 rfl hle, SlB.apart H.out.c7 rfl hle, h.o5, h.o16, h.o19, (fun hd => nomatch hd)⟩⟩
      · obtain rfl : d14 = false := by simpa using hi1
        have e0 : d0 = true := by simp only [hi2]
        have e3 : d3 = true := by simp only [hi2]
        have e4 : d4 = true := by simp only [hi2]
        have e5 : d5 = true := by simp only [hi2]
        have e11 : d11 = true := by simp only [hi2]
        clear hi1 hi2
        subst e0
        subst e3
        subst e4
        subst e5
        subst e11
        have hsz1 : S ≤ wx.heap.size := by have := H.out.fr.size; have := HSE.out; omega
        obtain rfl := H.out.c0 rfl
        refine wpOp_step rfl (fun K' hK => ?_)
        go_simp
        refine hK _ _ ?_
        have h := H.out
        exact ⟨true, d1, d2, true, true, true, d6, d7, d8, d9, d10, true, d12, d13, true, d15, d16, d17, d18, d19, d20, d21, d22, rfl, _, _, _, _, _, _, _, _, _, _, _, _, _, _, _, _, _, _, _, _, rfl, ⟨h.fr, h.cF, h.c0, h.c1, h.c2, h.c3, h.c4, h.c5, h.c6, h.c7, h.c8, h.c9, h.c10, h.c11, h.c12, h.c13, fun _ => rfl, h.c15, h.c17, h.c18, h.c20, h.c21, h.xa, h.xb, h.xc, h.o5, h.o16, h.o19, h.o22⟩⟩
      · obtain rfl : d15 = false := by simpa using hi1
        have e14 : d14 = true := by simp only [hi2]
        have e0 : d0 = true := by simp only [hi2]
        have e3 : d3 = true := by simp only [hi2]
        have e4 : d4 = true := by simp only [hi2]
        have e5 : d5 = true := by simp only [hi2]
        have e11 : d11 = true := by simp only [hi2]
        clear hi1 hi2
        subst e14
        subst e0
        subst e3
        subst e4
        subst e5
        subst e11
        have hsz1 : S ≤ wx.heap.size := by have := H.out.fr.size; have := HSE.out; omega
        obtain rfl := H.out.c14 rfl
        refine wpOp_step rfl (fun K' hK => ?_)
        go_simp
        refine hK _ _ ?_
        have h := H.out
        exact ⟨true, d1, d2, true, true, true, d6, d7, d8, d9, d10, true, d12, d13, true, true, d16, d17, d18, d19, d20, d21, d22, rfl, _, _, _, _, _, _, _, _, _, _, _, _, _, _, _, _, _, _, _, _, rfl, ⟨h.fr, h.cF, h.c0, h.c1, h.c2, h.c3, h.c4, h.c5, h.c6, h.c7, h.c8, h.c9, h.c10, h.c11, h.c12, h.c13, h.c14, fun _ => rfl, h.c17, h.c18, h.c20, h.c21, h.xa, h.xb, h.xc, h.o5, h.o16, h.o19, h.o22⟩⟩
      · obtain rfl : d16 = false := by simpa using hi1
        have e15 : d15 = true := by simp only [hi2]
        have e5 : d5 = true := by simp only [hi2]
        have e0 : d0 = true := by simp only [hi2]
        have e3 : d3 = true := by simp only [hi2]
        have e4 : d4 = true := by simp only [hi2]
        have e11 : d11 = true := by simp only [hi2]
        clear hi1 hi2
        subst e15
        subst e5
        subst e0
        subst e3
        subst e4
        subst e11
        have hsz1 : S ≤ wx.heap.size := by have := H.out.fr.size; have := HSE.out; omega
        obtain rfl := H.out.c15 rfl
        obtain ⟨gs, rfl, hgs, hss⟩ := H.out.c5 rfl
        clear hgs
        have h19 : d19 = false := by
          rcases hq : d19 with _ | _
          · rfl
          · exact nomatch (H.out.o19 hq).2
        obtain rfl := h19
        have h22 : d22 = false := by
          rcases hq : d22 with _ | _
          · rfl
          · exact nomatch (H.out.o22 hq).2
        obtain rfl := h22
        have HCF : Hid (_) := H.out.cF
        have qc := cells7 HCF.out
        have qd := thawAny HCF.out 5
        have qe := qc.2.2.2.2.2.1
        clear qc
        refine wpOp_step rfl (fun K' hK => ?_)
        go_simp
        refine hK _ _ ?_
        have hcF := heap_setCell_same (o := 5) HCF.out (.slice (some ⟨gs, 0, none⟩) n n)
        simp at hcF
        exact ⟨true, d1, d2, true, true, true, d6, d7, d8, d9, d10, true, d12, d13, d14, true, true, d17, d18, false, d20, d21, false, rfl, _, _, _, _, _, _, _, _, _, _, _, _, _, _, _, _, _, _, _, _, rfl, ⟨H.out.fr.set 5 _, hcF, H.out.c0, H.out.c1, H.out.c2, (fun hd => nomatch hd), H.out.c4, H.out.c5.offS hFS (fun k hk => Below.heap_setCell _ _ _ _ hk), H.out.c6, H.out.c7.offS hFS (fun k hk => Below.heap_setCell _ _ _ _ hk), H.out.c8, H.out.c9, H.out.c10, H.out.c11, H.out.c12, H.out.c13.offS hFS (fun k hk => Below.heap_setCell _ _ _ _ hk), H.out.c14, H.out.c15, H.out.c17, H.out.c18, H.out.c20, H.out.c21, H.out.xa, H.out.xb, H.out.xc, H.out.o5, fun _ => rfl, (fun hd => nomatch hd), (fun hd => nomatch hd)⟩⟩
      · obtain rfl : d17 = false := by simpa using hi1
        have e1 : d1 = true := by simp only [hi2]
        have e0 : d0 = true := by simp only [hi2]
        have e3 : d3 = true := by simp only [hi2]
        have e4 : d4 = true := by simp only [hi2]
        have e5 : d5 = true := by simp only [hi2]
        have e6 : d6 = true := by simp only [hi2]
        have e7 : d7 = true := by simp only [hi2]
        have e11 : d11 = true := by simp only [hi2]
        have e14 : d14 = true := by simp only [hi2]
        have e15 : d15 = true := by simp only [hi2]
        have e16 : d16 = true := by simp only [hi2]
        clear hi1 hi2
        subst e1
        subst e0
        subst e3
        subst e4
        subst e5
        subst e6
        subst e7
        subst e11
        subst e14
        subst e15
        subst e16
        have hsz1 : S ≤ wx.heap.size := by have := H.out.fr.size; have := HSE.out; omega
        obtain rfl := H.out.c1 rfl
        refine wpOp_step rfl (fun K' hK => ?_)
        go_simp
        refine hK _ _ ?_
        have h := H.out
        exact ⟨true, true, d2, true, true, true, true, true, d8, d9, d10, true, d12, d13, true, true, true, true, d18, d19, d20, d21, d22, rfl, _, _, _, _, _, _, _, _, _, _, _, _, _, _, _, _, _, _, _, _, rfl, ⟨h.fr, h.cF, h.c0, h.c1, h.c2, h.c3, h.c4, h.c5, h.c6, h.c7, h.c8, h.c9, h.c10, h.c11, h.c12, h.c13, h.c14, h.c15, fun _ => rfl, h.c18, h.c20, h.c21, h.xa, h.xb, h.xc, h.o5, h.o16, h.o19, h.o22⟩⟩
      · obtain rfl : d18 = false := by simpa using hi1
        have e17 : d17 = true := by simp only [hi2]
        have e0 : d0 = true := by simp only [hi2]
        have e1 : d1 = true := by simp only [hi2]
        have e3 : d3 = true := by simp only [hi2]
        have e4 : d4 = true := by simp only [hi2]
        have e5 : d5 = true := by simp only [hi2]
        have e6 : d6 = true := by simp only [hi2]
        have e7 : d7 = true := by simp only [hi2]
        have e11 : d11 = true := by simp only [hi2]
        have e14 : d14 = true := by simp only [hi2]
        have e15 : d15 = true := by simp only [hi2]
        have e16 : d16 = true := by simp only [hi2]
        clear hi1 hi2
        subst e17
        subst e0
        subst e1
        subst e3
        subst e4
        subst e5
        subst e6
        subst e7
        subst e11
        subst e14
        subst e15
        subst e16
        have hsz1 : S ≤ wx.heap.size := by have := H.out.fr.size; have := HSE.out; omega
        obtain rfl := H.out.c17 rfl
        refine wpOp_step rfl (fun K' hK => ?_)
        go_simp
        refine hK _ _ ?_
        have h := H.out
        exact ⟨true, true, d2, true, true, true, true, true, d8, d9, d10, true, d12, d13, true, true, true, true, true, d19, d20, d21, d22, rfl, _, _, _, _, _, _, _, _, _, _, _, _, _, _, _, _, _, _, _, _, rfl, ⟨h.fr, h.cF, h.c0, h.c1, h.c2, h.c3, h.c4, h.c5, h.c6, h.c7, h.c8, h.c9, h.c10, h.c11, h.c12, h.c13, h.c14, h.c15, h.c17, fun _ => rfl, h.c20, h.c21, h.xa, h.xb, h.xc, h.o5, h.o16, h.o19, h.o22⟩⟩
      · obtain rfl : d19 = false := by simpa using hi1
        have e18 : d18 = true := by simp only [hi2]
        have e7 : d7 = true := by simp only [hi2]
        have e16 : d16 = true := by simp only [hi2]
        have e0 : d0 = true := by simp only [hi2]
        have e1 : d1 = true := by simp only [hi2]
        have e3 : d3 = true := by simp only [hi2]
        have e4 : d4 = true := by simp only [hi2]
        have e5 : d5 = true := by simp only [hi2]
        have e6 : d6 = true := by simp only [hi2]
        have e11 : d11 = true := by simp only [hi2]
        have e14 : d14 = true := by simp only [hi2]
        have e15 : d15 = true := by simp only [hi2]
        clear hi1 hi2
        subst e18
        subst e7
        subst e16
        subst e0
        subst e1
        subst e3
        subst e4
        subst e5
        subst e6
        subst e11
        subst e14
        subst e15
        have hsz1 : S ≤ wx.heap.size := by have := H.out.fr.size; have := HSE.out; omega
        obtain rfl := H.out.c18 rfl
        obtain ⟨gs, rfl, hgs, hss⟩ := H.out.c7 rfl
        clear hgs
        have h22 : d22 = false := by
          rcases hq : d22 with _ | _
          · rfl
          · exact nomatch (H.out.o22 hq).2
        obtain rfl := h22
        have HCF : Hid (_) := H.out.cF
        have qc := cells7 HCF.out
        have qd := thawAny HCF.out 6
        have qe := qc.2.2.2.2.2.2
        clear qc
        refine wpOp_step rfl (fun K' hK => ?_)
        go_simp
        refine hK _ _ ?_
        have hcF := heap_setCell_same (o := 6) HCF.out (.slice (some ⟨gs, 0, none⟩) n n)
        simp at hcF
        exact ⟨true, true, d2, true, true, true, true, true, d8, d9, d10, true, d12, d13, true, true, true, d17, true, true, d20, d21, false, rfl, _, _, _, _, _, _, _, _, _, _, _, _, _, _, _, _, _, _, _, _, rfl, ⟨H.out.fr.set 6 _, hcF, H.out.c0, H.out.c1, H.out.c2, (fun hd => nomatch hd), H.out.c4, H.out.c5.offS hFS (fun k hk => Below.heap_setCell _ _ _ _ hk), H.out.c6, H.out.c7.offS hFS (fun k hk => Below.heap_setCell _ _ _ _ hk), H.out.c8, H.out.c9, H.out.c10, H.out.c11, H.out.c12, H.out.c13.offS hFS (fun k hk => Below.heap_setCell _ _ _ _ hk), H.out.c14, H.out.c15, H.out.c17, H.out.c18, H.out.c20, H.out.c21, H.out.xa, H.out.xb, H.out.xc, H.out.o5, H.out.o16, fun _ => ⟨rfl, rfl⟩, (fun hd => nomatch hd)⟩⟩
      · obtain rfl : d20 = false := by simpa using hi1
        have e2 : d2 = true := by simp only [hi2]
        have e0 : d0 = true := by simp only [hi2]
        have e1 : d1 = true := by simp only [hi2]
        have e3 : d3 = true := by simp only [hi2]
        have e4 : d4 = true := by simp only [hi2]
        have e5 : d5 = true := by simp only [hi2]
        have e6 : d6 = true := by simp only [hi2]
        have e7 : d7 = true := by simp only [hi2]
        have e8 : d8 = true := by simp only [hi2]
        have e9 : d9 = true := by simp only [hi2]
        have e10 : d10 = true := by simp only [hi2]
        have e11 : d11 = true := by simp only [hi2]
        have e12 : d12 = true := by simp only [hi2]
        have e13 : d13 = true := by simp only [hi2]
        have e14 : d14 = true := by simp only [hi2]
        have e15 : d15 = true := by simp only [hi2]
        have e16 : d16 = true := by simp only [hi2]
        have e17 : d17 = true := by simp only [hi2]
        have e18 : d18 = true := by simp only [hi2]
        have e19 : d19 = true := by simp only [hi2]
        clear hi1 hi2
        subst e2
        subst e0
        subst e1
        subst e3
        subst e4
        subst e5
        subst e6
        subst e7
        subst e8
        subst e9
        subst e10
        subst e11
        subst e12
        subst e13
        subst e14
        subst e15
        subst e16
        subst e17
        subst e18
        subst e19
        have hsz1 : S ≤ wx.heap.size := by have := H.out.fr.size; have := HSE.out; omega
        obtain rfl := H.out.c2 rfl
        refine wpOp_step rfl (fun K' hK => ?_)
        go_simp
        refine hK _ _ ?_
        have h := H.out
        exact ⟨true, true, true, true, true, true, true, true, true, true, true, true, true, true, true, true, true, true, true, true, true, d21, d22, rfl, _, _, _, _, _, _, _, _, _, _, _, _, _, _, _, _, _, _, _, _, rfl, ⟨h.fr, h.cF, h.c0, h.c1, h.c2, h.c3, h.c4, h.c5, h.c6, h.c7, h.c8, h.c9, h.c10, h.c11, h.c12, h.c13, h.c14, h.c15, h.c17, h.c18, fun _ => rfl, h.c21, h.xa, h.xb, h.xc, h.o5, h.o16, h.o19, h.o22⟩⟩
      · obtain rfl : d21 = false := by simpa using hi1
        have e20 : d20 = true := by simp only [hi2]
        have e0 : d0 = true := by simp only [hi2]
        have e1 : d1 = true := by simp only [hi2]
        have e2 : d2 = true := by simp only [hi2]
        have e3 : d3 = true := by simp only [hi2]
        have e4 : d4 = true := by simp only [hi2]
        have e5 : d5 = true := by simp only [hi2]
        have e6 : d6 = true := by simp only [hi2]
        have e7 : d7 = true := by simp only [hi2]
        have e8 : d8 = true := by simp only [hi2]
        have e9 : d9 = true := by simp only [hi2]
        have e10 : d10 = true := by simp only [hi2]
        have e11 : d11 = true := by simp only [hi2]
        have e12 : d12 = true := by simp only [hi2]
        have e13 : d13 = true := by simp only [hi2]
        have e14 : d14 = true := by simp only [hi2]
        have e15 : d15 = true := by simp only [hi2]
        have e16 : d16 = true := by simp only [hi2]
        have e17 : d17 = true := by simp only [hi2]
        have e18 : d18 = true := by simp only [hi2]
        have e19 : d19 = true := by simp only [hi2]
        clear hi1 hi2
        subst e20
        subst e0
        subst e1
        subst e2
        subst e3
        subst e4
        subst e5
        subst e6
        subst e7
        subst e8
        subst e9
        subst e10
        subst e11
        subst e12
        subst e13
        subst e14
        subst e15
        subst e16
        subst e17
        subst e18
        subst e19
        have hsz1 : S ≤ wx.heap.size := by have := H.out.fr.size; have := HSE.out; omega
        obtain rfl := H.out.c20 rfl
        refine wpOp_step rfl (fun K' hK => ?_)
        go_simp
        refine hK _ _ ?_
        have h := H.out
        exact ⟨true, true, true, true, true, true, true, true, true, true, true, true, true, true, true, true, true, true, true, true, true, true, d22, rfl, _, _, _, _, _, _, _, _, _, _, _, _, _, _, _, _, _, _, _, _, rfl, ⟨h.fr, h.cF, h.c0, h.c1, h.c2, h.c3, h.c4, h.c5, h.c6, h.c7, h.c8, h.c9, h.c10, h.c11, h.c12, h.c13, h.c14, h.c15, h.c17, h.c18, h.c20, fun _ => rfl, h.xa, h.xb, h.xc, h.o5, h.o16, h.o19, h.o22⟩⟩
      · obtain rfl : d22 = false := by simpa using hi1
        have e21 : d21 = true := by simp only [hi2]
        have e13 : d13 = true := by simp only [hi2]
        have e19 : d19 = true := by simp only [hi2]
        have e0 : d0 = true := by simp only [hi2]
        have e1 : d1 = true := by simp only [hi2]
        have e2 : d2 = true := by simp only [hi2]
        have e3 : d3 = true := by simp only [hi2]
        have e4 : d4 = true := by simp only [hi2]
        have e5 : d5 = true := by simp only [hi2]
        have e6 : d6 = true := by simp only [hi2]
        have e7 : d7 = true := by simp only [hi2]
        have e8 : d8 = true := by simp only [hi2]
        have e9 : d9 = true := by simp only [hi2]
        have e10 : d10 = true := by simp only [hi2]
        have e11 : d11 = true := by simp only [hi2]
        have e12 : d12 = true := by simp only [hi2]
        have e14 : d14 = true := by simp only [hi2]
        have e15 : d15 = true := by simp only [hi2]
        have e16 : d16 = true := by simp only [hi2]
        have e17 : d17 = true := by simp only [hi2]
        have e18 : d18 = true := by simp only [hi2]
        clear hi1 hi2
        subst e21
        subst e13
        subst e19
        subst e0
        subst e1
        subst e2
        subst e3
        subst e4
        subst e5
        subst e6
        subst e7
        subst e8
        subst e9
        subst e10
        subst e11
        subst e12
        subst e14
        subst e15
        subst e16
        subst e17
        subst e18
        have hsz1 : S ≤ wx.heap.size := by have := H.out.fr.size; have := HSE.out; omega
        obtain rfl := H.out.c21 rfl
        obtain ⟨gs, rfl, hgs, hss⟩ := H.out.c13 rfl
        clear hgs
        have HCF : Hid (_) := H.out.cF
        have qc := cells7 HCF.out
        have qd := thawAny HCF.out 4
        have qe := qc.2.2.2.2.1
        clear qc
        refine wpOp_step rfl (fun K' hK => ?_)
        go_simp
        refine hK _ _ ?_
        have hcF := heap_setCell_same (o := 4) HCF.out (.slice (some ⟨gs, 0, none⟩) m m)
        simp at hcF
        exact ⟨true, true, true, true, true, true, true, true, true, true, true, true, true, true, true, true, true, true, true, true, d20, true, true, rfl, _, _, _, _, _, _, _, _, _, _, _, _, _, _, _, _, _, _, _, _, rfl, ⟨H.out.fr.set 4 _, hcF, H.out.c0, H.out.c1, H.out.c2, (fun hd => nomatch hd), H.out.c4, H.out.c5.offS hFS (fun k hk => Below.heap_setCell _ _ _ _ hk), H.out.c6, H.out.c7.offS hFS (fun k hk => Below.heap_setCell _ _ _ _ hk), H.out.c8, H.out.c9, H.out.c10, H.out.c11, H.out.c12, H.out.c13.offS hFS (fun k hk => Below.heap_setCell _ _ _ _ hk), H.out.c14, H.out.c15, H.out.c17, H.out.c18, H.out.c20, H.out.c21, H.out.xa, H.out.xb, H.out.xc, H.out.o5, H.out.o16, H.out.o19, fun _ => ⟨rfl, rfl⟩⟩⟩
    · rintro listed a wx ⟨d0, d1, d2, d3, d4, d5, d6, d7, d8, d9, d10, d11, d12, d13, d14, d15, d16, d17, d18, d19, d20, d21, d22, rfl, v13, v14, v15, v16, v17, v18, v19, v20, v21, v22, v23, v24, v25, v26, v27, v28, v29, v30, v31, v32, rfl, H⟩ hr
      obtain rfl : d0 = true := by simpa using ready_none hr 0 (by decide) (by simp [Region.binds])
      obtain rfl : d1 = true := by simpa using ready_none hr 1 (by decide) (by simp [Region.binds])
      obtain rfl : d2 = true := by simpa using ready_none hr 2 (by decide) (by simp [Region.binds])
      obtain rfl : d3 = true := by simpa using ready_none hr 3 (by decide) (by simp [Region.binds])
      obtain rfl : d4 = true := by simpa using ready_none hr 4 (by decide) (by simp [Region.binds])
      obtain rfl : d6 = true := by simpa using ready_none hr 6 (by decide) (by simp [Region.binds])
      obtain rfl : d8 = true := by simpa using ready_none hr 8 (by decide) (by simp [Region.binds])
      obtain rfl : d9 = true := by simpa using ready_none hr 9 (by decide) (by simp [Region.binds])
      obtain rfl : d10 = true := by simpa using ready_none hr 10 (by decide) (by simp [Region.binds])
      obtain rfl : d11 = true := by simpa using ready_none hr 11 (by decide) (by simp [Region.binds])
      obtain rfl : d12 = true := by simpa using ready_none hr 12 (by decide) (by simp [Region.binds])
      obtain rfl : d13 = true := by simpa using ready_none hr 13 (by decide) (by simp [Region.binds])
      obtain rfl : d5 = true := by simpa using ready_none hr 5 (by decide) (by simp [Region.binds])
      obtain rfl : d7 = true := by simpa using ready_none hr 7 (by decide) (by simp [Region.binds])
      obtain rfl : d14 = true := by simpa using ready_none hr 14 (by decide) (by simp [Region.binds])
      obtain rfl : d15 = true := by simpa using ready_none hr 15 (by decide) (by simp [Region.binds])
      obtain rfl : d16 = true := by simpa using ready_none hr 16 (by decide) (by simp [Region.binds])
      obtain rfl : d17 = true := by simpa using ready_none hr 17 (by decide) (by simp [Region.binds])
      obtain rfl : d18 = true := by simpa using ready_none hr 18 (by decide) (by simp [Region.binds])
      obtain rfl : d19 = true := by simpa using ready_none hr 19 (by decide) (by simp [Region.binds])
      obtain rfl : d20 = true := by simpa using ready_none hr 20 (by decide) (by simp [Region.binds])
      obtain rfl : d21 = true := by simpa using ready_none hr 21 (by decide) (by simp [Region.binds])
      obtain rfl : d22 = true := by simpa using ready_none hr 22 (by decide) (by simp [Region.binds])
      obtain ⟨g5, rfl, h5, s5⟩ := H.out.c5 rfl
      obtain ⟨g6, rfl, h6, s6⟩ := H.out.c7 rfl
      obtain ⟨g4, rfl, h4, s4⟩ := H.out.c13 rfl
      have x1 := H.out.xa rfl rfl
      have x2 := H.out.xb rfl rfl
      have x3 := H.out.xc rfl rfl
      simp only [blkOf, ne_eq, Option.some.injEq] at x1 x2 x3
      have HF9 : Hid (_) := And.intro H.out.cF (And.intro h4 (And.intro h5 (And.intro h6 (And.intro (Ne.symm x2) (And.intro (Ne.symm x3) (And.intro x1 (And.intro s4 (And.intro s5 (And.intro s6 H.out.fr)))))))))
      clear h4 h5 h6 x1 x2 x3 hr
      go_wp2_with fail
      go_meet
      first | (case rel => exact ⟨g4, g5, g6, rfl, HF9⟩) | exact ⟨g4, g5, g6, rfl, HF9⟩
    · exact ⟨false, false, false, false, false, false, false, false, false, false, false, false, false, false, false, false, false, false, false, false, false, false, false, rfl, _, _, _, _, _, _, _, _, _, _, _, _, _, _, _, _, _, _, _, _, rfl, ⟨(show FrF F w0 _ from ⟨rfl, rfl, rfl, Nat.le_refl _, fun _ _ _ => rfl⟩), HF0.out, (fun hd => nomatch hd), (fun hd => nomatch hd), (fun hd => nomatch hd), fun _ => SlB.no _ _, (fun hd => nomatch hd), SlB.no _ _, (fun hd => nomatch hd), SlB.no _ _, (fun hd => nomatch hd), (fun hd => nomatch hd), (fun hd => nomatch hd), (fun hd => nomatch hd), (fun hd => nomatch hd), SlB.no _ _, (fun hd => nomatch hd), (fun hd => nomatch hd), (fun hd => nomatch hd), (fun hd => nomatch hd), (fun hd => nomatch hd), (fun hd => nomatch hd), Dis.no, Dis.no, Dis.no, (fun hd => nomatch hd), (fun hd => nomatch hd), (fun hd => nomatch hd), (fun hd => nomatch hd)⟩⟩
  case rest =>
    obtain ⟨g4, g5, g6, rfl, HZ⟩ := hcut
    have HFR : Hid (FrF F w0 wc) := HZ.out.2.2.2.2.2.2.2.2.2.2
    have qb := qbox.out wc HFR.out
    have qf := (cells7 HZ.out.1).2.2.1
    clear HREP hmk hmk2
    go_wp2_with fail
    refine Calls.mono (backward_one ao m ko _) ?_
    rintro e w1 ⟨rfl, rfl⟩
    obtain ⟨W1, hW1⟩ : ∃ W1, W1 = wc.alloc (.cells #[.slice ao m ko] 23) := ⟨_, rfl⟩
    obtain ⟨B2, hB2⟩ : ∃ B2, B2 = wc.heap.size := ⟨_, rfl⟩
    obtain ⟨D, hD⟩ : ∃ D, D = W1.heap.size := ⟨_, rfl⟩
    have hd : D = B2 + 1 := by rw [hD, hW1, hB2]; simp
    have HB2 : Hid (W1.heap[B2]? = some (.cells #[.slice ao m ko] 23)) := by unfold Hid; rw [hW1, hB2]; exact heap_alloc_new wc _
    have HFR1 : Hid (FrF F w0 W1) := by rw [hW1]; exact HFR.out.below (below_alloc _ _)
    have HKEEP : Hid (∀ k o', wc.heap[k]? = some o' → k < B2 ∧ W1.heap[k]? = some o') := fun k o' h => ⟨by rw [hB2]; exact lt_of_block h, by rw [hW1]; exact blk_alloc h _⟩
    have HN63 : Hid (n ≤ maxLen) := by unfold Hid maxLen; omega
    have h6 := HKEEP.out g6 _ HZ.out.2.2.2.1
    have hFw := HKEEP.out F _ HZ.out.1
    have hneF : g6 ≠ F := by have := HZ.out.2.2.2.2.2.2.2.2.2.1; omega
    have hs6 : S ≤ g6 := HZ.out.2.2.2.2.2.2.2.2.2.1
    have HSB2 : Hid (S ≤ B2) := by unfold Hid; omega
    have HORD : Hid (∀ (j b : Nat), o[j]? = some b → ∃ go oo : Nat, ao = some ⟨go, oo, none⟩ ∧ go < D ∧ go ≠ g6 ∧ go ≠ F ∧ W1.cell? ⟨go, oo + j, none⟩ = some (.int .i64 (b : Nat))) := by
      intro j b hj
      obtain ⟨go, oo, e, hgo, hat⟩ := nums_at HOO.out (by have := (List.getElem?_eq_some_iff.1 hj).1; omega)
      have hgF : go ≠ F := HBF.out go oo e
      have hbw := HBW.out
      have hbe := HBE.out
      have hsb := HSB.out
      have hss := HSB2.out
      refine ⟨go, oo, e, by omega, by omega, hgF, ?_⟩
      have h1 := hat j b hj
      have h2 : w0.cell? ⟨go, oo + j, none⟩ = w.cell? ⟨go, oo + j, none⟩ := HB0.out.cell (p := ⟨go, oo + j, none⟩) (by show go < _; omega)
      have h3 : W1.cell? ⟨go, oo + j, none⟩ = w0.cell? ⟨go, oo + j, none⟩ := World.cell?_of_block (w := w0) (HFR1.out.block go (by have := HSE.out; omega) (by omega))
      rw [h3, h2, h1]
    have HROW : Hid (∀ (j b : Nat), o[j]? = some b → ∃ go oo : Nat, ao = some ⟨go, oo, none⟩ ∧ go < D ∧ go ≠ g6 ∧ W1.cell? ⟨go, oo + j, none⟩ = some (.int .i64 (b : Nat))) := fun j b hj => by
      obtain ⟨go, oo, e, h1, h2, _, h3⟩ := HORD.out j b hj
      exact ⟨go, oo, e, h1, h2, h3⟩
    have HB2L : Hid (B2 < D ∧ B2 ≠ g6 ∧ g6 < D ∧ D = W1.heap.size ∧ F < D ∧ F ≠ g6) := ⟨by omega, by have := h6.1; omega, by have := h6.1; omega, hD, by have := hFw.1; omega, fun e => hneF e.symm⟩
    have HOB1 : Hid (PI W1 g6 n q [] W1) := ⟨by rw [h6.2, HOB.out]; exact congrArg (fun l => some (Obj.cells (numsL l).toArray 3 (0, 0))) (fnL_congr fun i _ => by simp [mfold, wrap64]), FrF.refl _ _⟩
    have HFW : Hid (W1.heap[F]? = some (fobj vA vN (.slice ao m ko) vU (.slice (some ⟨g4, 0, none⟩) m m) (.slice (some ⟨g5, 0, none⟩) n n) (.slice (some ⟨g6, 0, none⟩) n n))) := hFw.2
    have HW1B : Hid (Below wc.heap.size wc W1) := by rw [hW1]; exact below_alloc _ _
    rw [← hW1, ← hB2]
    clear qb qf hW1 hB2 hd h6 hFw hneF hs6 hD
    go_wp2_with fail
    refine (wpIn_wide (n := 5)).1 ?_
    refine wpIn_rangeFunc_ownF rfl (by decide) (gf := 59) (lb := #[.pointer (some ⟨B2, 0, none⟩)]) rfl trivial (enters_of Tryd.func59 (by kernel_rfl) rfl)
      (backward_stops o B2 D g6 m ko ao W1 HMO.out HND.out (by have := HMN.out; omega) HB2L.out.1 HB2L.out.2.1 (by rw [HB2L.out.2.2.2.1]; exact Nat.le_refl _) (cellOne HB2.out) HROW.out)
      (fun h k => KpB.trans h k) (fun W l o1 o2 hl h1 h2 h3 => ⟨by simp, fun k hk hn => World.putObj_heap_other (by have := HB2L.out.2.2.2.1; omega)⟩) (Below.refl _ _) (fun _ => rfl)
      (fun pre W => PI W1 g6 n q (pre.map (·.1)) W) (fun _ _ _ => False) ?hI (fun _ _ _ _ _ hs _ _ => hs) HOB1.out ?a1 ?assign ?body ?done ?stop
    case hI =>
      intro s A A' row hs hg hr
      refine ⟨(hg.block g6 (lt_of_block hs.row) (fun e => by have := (hr _ e.symm).1; have := HB2L.out; omega)).trans hs.row, ⟨hg.os.trans hs.fr.os, hg.tape.trans hs.fr.tape, hg.output.trans hs.fr.output, Nat.le_trans hs.fr.size hg.size, fun k hk hn => (hg.block k (Nat.lt_of_lt_of_le hk hs.fr.size) (fun e => by have := (hr _ e.symm).1; omega)).trans (hs.fr.block k hk hn)⟩⟩
    case assign =>
      intro l x W K hK
      gi_wp2
      exact hK
    case body =>
      rintro l pre ⟨b, hbm⟩ W hI hlen
      have hbn : b < n := HLT.out b hbm
      have hm0 : 0 < m := by have := HMO.out; have := List.length_pos_of_mem hbm; omega
      obtain ⟨f, hf⟩ : ∃ f, f = mfold q (pre.map (·.1)) := ⟨_, rfl⟩
      have HFE : Hid (f = mfold q (pre.map (·.1))) := hf
      have hIr := hI.row
      rw [← hf] at hIr
      have HIR : Hid (RowI W 0 g6 n (fun b => wrap64 ((f b : Nat) : Int))) := rowI_of_block hIr (Nat.zero_le _) HN63.out
      have HIF : Hid (FrF g6 W1 W) := hI.fr
      have HAG : Hid (∀ k, k < D → k ≠ g6 → W.heap[k]? = W1.heap[k]?) := fun k h1 h2 => hI.fr.block k (by rw [← HB2L.out.2.2.2.1]; exact h1) h2
      obtain ⟨y0, hy0⟩ : ∃ y0, y0 = wrap64 ((f b : Nat) : Int) := ⟨_, rfl⟩
      have HY0 : Hid (y0 = wrap64 ((f b : Nat) : Int)) := hy0
      obtain ⟨r1, r1f⟩ := HIR.out.get hbn
      rw [← hy0] at r1
      have hT0 : o[0]? = some 0 := by have := (HTT.out hm0).head; rw [List.head?_eq_getElem?] at this; exact this
      obtain ⟨go, oo, rfl, hg1, hg2, hg3, hoc⟩ := HORD.out 0 0 hT0
      have HG0 : Hid (∀ X : World, (∀ k, k ≠ g6 → X.heap[k]? = W.heap[k]?) → X.cell? ⟨Bx, 0, none⟩ = some (.pointer (some ⟨F, 0, none⟩)) ∧ X.heap[F]? = some (fobj vA vN (.slice (some ⟨go, oo, none⟩) m ko) vU (.slice (some ⟨g4, 0, none⟩) m m) (.slice (some ⟨g5, 0, none⟩) n n) (.slice (some ⟨g6, 0, none⟩) n n)) ∧ X.cell? ⟨go, oo, none⟩ = some (.int .i64 0)) := by
        intro X hX
        have hB := HB2L.out
        have hS2 := HSB2.out
        have hSB := HSB.out
        have h6 := HZ.out.2.2.2.2.2.2.2.2.2.1
        refine ⟨?_, (hX F (by omega)).trans ((HAG.out F (by omega) (by omega)).trans HFW.out), ?_⟩
        · exact (World.cell?_of_block (w := W1) ((hX Bx (by omega)).trans (HAG.out Bx (by omega) (by omega)))).trans (qbox.out W1 HFR1.out)
        · have h1 : X.cell? ⟨go, oo, none⟩ = W1.cell? ⟨go, oo, none⟩ := World.cell?_of_block (w := W1) ((hX go hg2).trans (HAG.out go hg1 hg2))
          rw [h1]; simpa using hoc
      obtain ⟨pb, pF, p0⟩ := HG0.out W fun _ _ => rfl
      have pf6 := (cells7 pF).2.2.2.2.2.2
      obtain ⟨x1, hx1⟩ : ∃ x1, x1 = wrap64 (y0 + 1) := ⟨_, rfl⟩
      have HX1 : Hid (x1 = wrap64 (y0 + 1)) := hx1
      obtain ⟨W2, hW2⟩ : ∃ W2, W2 = W.setCell ⟨g6, b, none⟩ (.int .i64 (wrap64 (y0 + 1))) := ⟨_, rfl⟩
      have HW2 : Hid (W2 = W.setCell ⟨g6, b, none⟩ (.int .i64 (wrap64 (y0 + 1)))) := hW2
      have HN2 : Hid (∀ k, k ≠ g6 → W2.heap[k]? = W.heap[k]?) := fun k hk => by rw [hW2]; exact Below.heap_setCell _ _ _ _ hk
      have HR2 : Hid (RowI W2 0 g6 n (fun j => wrap64 ((updN f b (f b + 1) j : Nat) : Int))) := by
        have h1 := HIR.out.set hbn (wrap64 (y0 + 1))
        rw [← hW2] at h1
        exact h1.congr fun j hj => step_row f b j y0 hy0
      have HS2 : Hid (W2.heap.size = W.heap.size ∧ W2.os = W.os ∧ W2.tape = W.tape ∧ W2.output = W.output ∧ KeepsOthers W W2) := by unfold Hid; rw [hW2]; exact ⟨by simp [World.setCell], rfl, rfl, rfl, KeepsOthers.setCell _ _ _⟩
      obtain ⟨pb2, pF2, p02⟩ := HG0.out W2 HN2.out
      have HPF2 : Hid (_) := pF2
      obtain ⟨_, _, ps2, ps3, _, _, ps6⟩ := cells7 pF2
      have ho0 : (0 : Int) < (m : Int) := by omega
      have hbI : (b : Int) < (n : Int) := by omega
      have HEND : Hid (∀ (W3 : World) (f3 : Nat → Nat), f3 = manyS q f b → (∀ k, k ≠ g6 → W3.heap[k]? = W2.heap[k]?) → W3.os = W2.os → W3.tape = W2.tape → W3.output = W2.output → W2.heap.size = W3.heap.size → KeepsOthers W2 W3 → RowI W3 0 g6 n (fun j => wrap64 ((f3 j : Nat) : Int)) →
          KeepsOthers W W3 ∧ KpB D g6 W W3 ∧ PI W1 g6 n q ((pre ++ [(⟨b, hbm⟩ : { b : Nat // b ∈ o })]).map (·.1)) W3) := by
        intro W3 f3 e hk h1 h2 h3 h4 h5 hrow
        have hs := HS2.out
        refine ⟨hs.2.2.2.2.trans h5, ⟨by omega, fun k hk1 hk2 => (hk k hk2).trans (HN2.out k hk2)⟩, ?_, ?_⟩
        · rw [List.map_append, List.map_cons, List.map_nil, mfold_snoc, ← HFE.out, ← e]; exact hrow.block
        · have hf := HIF.out
          exact ⟨h1.trans (hs.2.1.trans hf.os), h2.trans (hs.2.2.1.trans hf.tape), h3.trans (hs.2.2.2.1.trans hf.output), by have := hf.size; omega, fun k hk1 hk2 => (hk k hk2).trans ((HN2.out k hk2).trans (hf.block k hk1 hk2))⟩
      rw [hW2] at pb2 ps2 ps3 ps6 p02
      clear hf hIr hy0 hT0 hg1 hg2 hg3 hoc pF p0 hx1 hW2 pF2 hI hm0
      by_cases hb0 : b = 0
      · have hbz : ((b : Int) != 0) = false := by simp [hb0]
        have HBZ : Hid (b = 0) := hb0
        clear hb0
        gi_wp2
        rw [← HW2.out]
        exact HEND.out W2 _ (by unfold manyS; rw [if_pos HBZ.out]) (fun _ _ => rfl) rfl rfl rfl rfl (KeepsOthers.refl _) HR2.out
      · have hbz : ((b : Int) != 0) = true := by simp; omega
        have hbz2 : ¬ ((b : Int) = 0) := by omega
        have HBZ : Hid (b ≠ 0) := hb0
        clear hb0
        gi_wp2
        obtain ⟨c, hc⟩ : ∃ c, c = q b := ⟨_, rfl⟩
        have HCB : Hid (c = q b) := hc
        obtain ⟨hcm, _⟩ := (HTT.out (by have := HMO.out; have := List.length_pos_of_mem hbm; omega)).par b hbm HBZ.out
        have hub := HQQ.out b hbm HBZ.out
        have hcb : c ≠ b := by rw [hc]; exact (HTT.out (by have := HMO.out; have := List.length_pos_of_mem hbm; omega)).ne hbm HBZ.out
        rw [← hc] at hcm hub
        have hcn : c < n := HLT.out c hcm
        have hcI : (c : Int) < (n : Int) := by omega
        obtain ⟨y1, hy1⟩ : ∃ y1, y1 = wrap64 ((updN f b (f b + 1) c : Nat) : Int) := ⟨_, rfl⟩
        have t1 := HR2.out.get hcn
        rw [← hy1] at t1
        obtain ⟨t1, t1f⟩ := t1
        have hx2 : x1 = wrap64 ((updN f b (f b + 1) b : Nat) : Int) := by rw [HX1.out, HY0.out, updN_same, wrap64_succ]
        obtain ⟨t2, _⟩ := HR2.out.get hbn
        rw [← hx2] at t2
        have HUP : Hid (W2.cell? ⟨gu, b, none⟩ = some (.int .i64 (c : Nat))) := by
          have h1 := (HUU.out.get hbn).1
          rw [upI_some hub] at h1
          have h2 : W2.cell? ⟨gu, b, none⟩ = w.cell? ⟨gu, b, none⟩ := by
            have hB := HB2L.out
            have hS1 := HSB.out
            have hS2 := HSB2.out
            have hS3 := HBE.out
            have hS4 := HSE.out
            have hu := HUU.out.lt.2
            have hgf := HGF.out
            have h6 := HZ.out.2.2.2.2.2.2.2.2.2.1
            exact World.cell?_of_block (w := w) ((HN2.out gu (by omega)).trans ((HAG.out gu (by omega) (by omega)).trans ((HFR1.out.block gu (by omega) hgf).trans (HB0.out.block gu hu))))
          exact h2.trans h1
        obtain ⟨W3, hW3⟩ : ∃ W3, W3 = (W2.setCell ⟨g6, c, none⟩ (.int .i64 (IntKind.i64.wrap (y1 + x1)))).drew := ⟨_, rfl⟩
        have HW3 : Hid (W3 = (W2.setCell ⟨g6, c, none⟩ (.int .i64 (IntKind.i64.wrap (y1 + x1)))).drew) := hW3
        obtain ⟨pb2, pF2, _⟩ := HG0.out W2 HN2.out
        obtain ⟨_, _, _, ps3, _, _, ps6⟩ := cells7 pF2
        rw [HVU.out] at ps3
        have HR3 : Hid (RowI W3 0 g6 n (fun j => wrap64 ((manyS q f b j : Nat) : Int))) := by
          have h1 := (HR2.out.set hcn (IntKind.i64.wrap (y1 + x1))).keep (w' := (W2.setCell ⟨g6, c, none⟩ (.int .i64 (IntKind.i64.wrap (y1 + x1)))).drew) rfl
          rw [← hW3] at h1
          refine h1.congr fun j hj => ?_
          unfold fset
          by_cases e : j = c
          · rw [if_pos e, e, hc, manyS_par HBZ.out (by rw [← hc]; exact hcb), wrap_64, hy1, hx2, wrap64_sum, updN_same, updN_other _ _ hcb, ← hc]
          · rw [if_neg e]
            unfold manyS
            rw [if_neg HBZ.out, ← hc, updN_other _ _ e]
        have HR4 : Hid ((∀ k, k ≠ g6 → W3.heap[k]? = W2.heap[k]?) ∧ W3.os = W2.os ∧ W3.tape = W2.tape ∧ W3.output = W2.output ∧ W2.heap.size = W3.heap.size ∧ KeepsOthers W2 W3) := by
          unfold Hid; rw [hW3]
          refine ⟨fun k hk => Below.heap_setCell _ _ _ _ hk, rfl, rfl, rfl, by simp [World.setCell], (KeepsOthers.setCell W2 ⟨g6, c, none⟩ (.int .i64 (IntKind.i64.wrap (y1 + x1)))).trans (show KeepsOthers _ (World.drew _) from ⟨Nat.le_refl _, fun _ _ h _ => h⟩)⟩
        have hup := HUP.out
        rw [← HW2.out]
        clear pb2 pF2 ps2 p02 hub hcm hcb hy1 hx2 hW3 hc pb pf6 r1 r1f
        have pb2 := (HG0.out W2 HN2.out).1
        refine wpIn_region_any (by kernel_rfl) ?_
        refine wpAnyIn_inv (fun listed a wx => ∃ d0 d1 d2 d3 d4 d5 d6 d7 d8 d9 d10 d11 d12 d13 d14 d15 d16 d17 d18 d19 d20 d21 d22 : Bool, listed = #[d0, d1, d2, d3, d4, d5, d6, d7, d8, d9, d10, d11, d12, d13, d14, d15, d16, d17, d18, d19, d20, d21, d22] ∧ ∃ v57 v58 v59 v60 v61 v62 v63 v64 v65 v66 v67 v68 v69 v70 v71 v72 v73 v74 v75 v76 v77 v78 : Value, a = { tmps := #[Value.pointer (some ⟨F, 0, none⟩), Value.pointer (some ⟨Bx, 0, none⟩), Value.int .i64 (n : Nat), undef, Value.int .i64 (b : Nat), undef, undef, undef, Value.pointer (some ⟨F, 0, none⟩), Value.pointer (some ⟨F, 0, none⟩), Value.pointer (some ⟨F, 0, none⟩), vA, Value.int .i64 (n : Nat), u13, u14, u15, u16, u17, u18, u19, u20, u21, u22, u23, u24, u25, u26, u27, u28, u29, u30, u31, u32, Value.pointer (some ⟨F, 0, none⟩), Value.pointer (some ⟨F, 0, none⟩), Value.pointer (some ⟨F, 2, none⟩), Value.slice (some ⟨go, oo, none⟩) m ko, Value.func (Fn.func 59) #[] #[Value.pointer (some ⟨B2, 0, none⟩)], Value.int .i64 (o.idxOf b : Nat), Value.int .i64 (b : Nat), Value.pointer (some ⟨F, 0, none⟩), Value.pointer (some ⟨F, 0, none⟩), Value.pointer (some ⟨F, 6, none⟩), Value.slice (some ⟨g6, 0, none⟩) n n, Value.int .i64 (b : Nat), Value.pointer (some ⟨g6, b, none⟩), Value.int .i64 y0, Value.int .i64 (wrap64 (y0 + 1)), Value.pointer (some ⟨g6, b, none⟩), Value.int .i64 (b : Nat), Value.pointer (some ⟨F, 0, none⟩), Value.pointer (some ⟨F, 0, none⟩), Value.pointer (some ⟨F, 2, none⟩), Value.slice (some ⟨go, oo, none⟩) m ko, Value.pointer (some ⟨go, oo, none⟩), Value.int .i64 0, Value.bool true, v57, v58, v59, v60, v61, v62, v63, v64, v65, v66, v67, v68, v69, v70, v71, v72, v73, v74, v75, v76, v77, v78, undef, undef, undef, undef, undef, undef, undef, undef, undef, undef, undef, undef, undef, undef, undef, undef, undef, undef, undef, undef, undef, undef, undef, undef, undef, undef, undef, undef, undef, undef, undef, undef, undef, undef, undef, undef, undef, undef, undef, undef, undef, undef, undef, undef, undef, undef, undef, undef, undef, undef, undef, undef, undef, undef, undef, undef, undef, undef, undef, undef, undef, undef, undef, undef, undef, undef, undef, undef, undef, undef, undef, undef, undef, undef, undef, undef, undef, undef, undef, undef], defers := [] } ∧ Hid (R7 W2.drew W3 F g6 gu n b c y1 x1 d0 d1 d2 d3 d4 d5 d6 d7 d8 d9 d10 d11 d12 d13 d14 d15 d16 d17 d18 d19 d20 d21 d22 v57 v58 v59 v60 v61 v62 v63 v64 v65 v66 v67 v68 v69 v70 v71 v72 v73 v74 v75 v76 v77 v78 wx)) ?_ ?_ _ _ _ _ (Nat.le_of_eq (by kernel_rfl)) ?_
        · rintro listed a wx i ⟨d0, d1, d2, d3, d4, d5, d6, d7, d8, d9, d10, d11, d12, d13, d14, d15, d16, d17, d18, d19, d20, d21, d22, rfl, v57, v58, v59, v60, v61, v62, v63, v64, v65, v66, v67, v68, v69, v70, v71, v72, v73, v74, v75, v76, v77, v78, rfl, H⟩ hi
          obtain ⟨hi0, hi1, hi2⟩ := ready_mem hi
          clear hi
          have hi0 : i < 23 := hi0
          have hcase : i = 0 ∨ i = 1 ∨ i = 2 ∨ i = 3 ∨ i = 4 ∨ i = 5 ∨ i = 6 ∨ i = 7 ∨ i = 8 ∨ i = 9 ∨ i = 10 ∨ i = 11 ∨ i = 12 ∨ i = 13 ∨ i = 14 ∨ i = 15 ∨ i = 16 ∨ i = 17 ∨ i = 18 ∨ i = 19 ∨ i = 20 ∨ i = 21 ∨ i = 22 := by omega
          clear hi0
          rcases hcase with rfl | rfl | rfl | rfl | rfl | rfl | rfl | rfl | rfl | rfl | rfl | rfl | rfl | rfl | rfl | rfl | rfl | rfl | rfl | rfl | rfl | rfl | rfl
          all_goals (simp [Region.binds] at hi1 hi2)
          · obtain rfl : d0 = false := by simpa using hi1
            clear hi1
            have h22 : d22 = false := by
              rcases hq : d22 with _ | _
              · rfl
              · exact nomatch (H.out.o22 hq).1
            obtain rfl := h22
            obtain rfl : wx = W2.drew := H.out.cw
            refine wpOpIn_step rfl (fun K' hK => ?_)
            go_simp
            refine hK _ _ ?_
            exact ⟨true, d1, d2, d3, d4, d5, d6, d7, d8, d9, d10, d11, d12, d13, d14, d15, d16, d17, d18, d19, d20, d21, false, rfl, _, _, _, _, _, _, _, _, _, _, _, _, _, _, _, _, _, _, _, _, _, _, rfl, ⟨H.out.cw, fun _ => rfl, H.out.c1, H.out.c2, H.out.c3, H.out.c4, H.out.c5, H.out.c6, H.out.c7, H.out.c8, H.out.c9, H.out.c10, H.out.c11, H.out.c12, H.out.c13, H.out.c14, H.out.c15, H.out.c16, H.out.c17, H.out.c18, H.out.c19, H.out.c20, H.out.c21, (fun hd => nomatch hd)⟩⟩
          · obtain rfl : d1 = false := by simpa using hi1
            have e0 : d0 = true := by simp only [hi2]
            clear hi1 hi2
            subst e0
            have h22 : d22 = false := by
              rcases hq : d22 with _ | _
              · rfl
              · exact nomatch (H.out.o22 hq).2.1
            obtain rfl := h22
            obtain rfl : wx = W2.drew := H.out.cw
            obtain rfl := H.out.c0 rfl
            refine wpOpIn_step rfl (fun K' hK => ?_)
            go_simp
            refine hK _ _ ?_
            exact ⟨true, true, d2, d3, d4, d5, d6, d7, d8, d9, d10, d11, d12, d13, d14, d15, d16, d17, d18, d19, d20, d21, false, rfl, _, _, _, _, _, _, _, _, _, _, _, _, _, _, _, _, _, _, _, _, _, _, rfl, ⟨H.out.cw, H.out.c0, fun _ => rfl, H.out.c2, H.out.c3, H.out.c4, H.out.c5, H.out.c6, H.out.c7, H.out.c8, H.out.c9, H.out.c10, H.out.c11, H.out.c12, H.out.c13, H.out.c14, H.out.c15, H.out.c16, H.out.c17, H.out.c18, H.out.c19, H.out.c20, H.out.c21, (fun hd => nomatch hd)⟩⟩
          · obtain rfl : d2 = false := by simpa using hi1
            have e1 : d1 = true := by simp only [hi2]
            clear hi1 hi2
            subst e1
            have h22 : d22 = false := by
              rcases hq : d22 with _ | _
              · rfl
              · exact nomatch (H.out.o22 hq).2.2.1
            obtain rfl := h22
            obtain rfl : wx = W2.drew := H.out.cw
            obtain rfl := H.out.c1 rfl
            refine wpOpIn_step rfl (fun K' hK => ?_)
            go_simp
            refine hK _ _ ?_
            exact ⟨d0, true, true, d3, d4, d5, d6, d7, d8, d9, d10, d11, d12, d13, d14, d15, d16, d17, d18, d19, d20, d21, false, rfl, _, _, _, _, _, _, _, _, _, _, _, _, _, _, _, _, _, _, _, _, _, _, rfl, ⟨H.out.cw, H.out.c0, H.out.c1, fun _ => rfl, H.out.c3, H.out.c4, H.out.c5, H.out.c6, H.out.c7, H.out.c8, H.out.c9, H.out.c10, H.out.c11, H.out.c12, H.out.c13, H.out.c14, H.out.c15, H.out.c16, H.out.c17, H.out.c18, H.out.c19, H.out.c20, H.out.c21, (fun hd => nomatch hd)⟩⟩
          · obtain rfl : d3 = false := by simpa using hi1
            have e2 : d2 = true := by simp only [hi2]
            clear hi1 hi2
            subst e2
            have h22 : d22 = false := by
              rcases hq : d22 with _ | _
              · rfl
              · exact nomatch (H.out.o22 hq).2.2.2.1
            obtain rfl := h22
            obtain rfl : wx = W2.drew := H.out.cw
            obtain rfl := H.out.c2 rfl
            refine wpOpIn_step rfl (fun K' hK => ?_)
            go_simp
            refine hK _ _ ?_
            exact ⟨d0, d1, true, true, d4, d5, d6, d7, d8, d9, d10, d11, d12, d13, d14, d15, d16, d17, d18, d19, d20, d21, false, rfl, _, _, _, _, _, _, _, _, _, _, _, _, _, _, _, _, _, _, _, _, _, _, rfl, ⟨H.out.cw, H.out.c0, H.out.c1, H.out.c2, fun _ => rfl, H.out.c4, H.out.c5, H.out.c6, H.out.c7, H.out.c8, H.out.c9, H.out.c10, H.out.c11, H.out.c12, H.out.c13, H.out.c14, H.out.c15, H.out.c16, H.out.c17, H.out.c18, H.out.c19, H.out.c20, H.out.c21, (fun hd => nomatch hd)⟩⟩
          · obtain rfl : d4 = false := by simpa using hi1
            clear hi1
            have h22 : d22 = false := by
              rcases hq : d22 with _ | _
              · rfl
              · exact nomatch (H.out.o22 hq).2.2.2.2.1
            obtain rfl := h22
            obtain rfl : wx = W2.drew := H.out.cw
            refine wpOpIn_step rfl (fun K' hK => ?_)
            go_simp
            refine hK _ _ ?_
            exact ⟨d0, d1, d2, d3, true, d5, d6, d7, d8, d9, d10, d11, d12, d13, d14, d15, d16, d17, d18, d19, d20, d21, false, rfl, _, _, _, _, _, _, _, _, _, _, _, _, _, _, _, _, _, _, _, _, _, _, rfl, ⟨H.out.cw, H.out.c0, H.out.c1, H.out.c2, H.out.c3, fun _ => rfl, H.out.c5, H.out.c6, H.out.c7, H.out.c8, H.out.c9, H.out.c10, H.out.c11, H.out.c12, H.out.c13, H.out.c14, H.out.c15, H.out.c16, H.out.c17, H.out.c18, H.out.c19, H.out.c20, H.out.c21, (fun hd => nomatch hd)⟩⟩
          · obtain rfl : d5 = false := by simpa using hi1
            have e4 : d4 = true := by simp only [hi2]
            clear hi1 hi2
            subst e4
            have h22 : d22 = false := by
              rcases hq : d22 with _ | _
              · rfl
              · exact nomatch (H.out.o22 hq).2.2.2.2.2.1
            obtain rfl := h22
            obtain rfl : wx = W2.drew := H.out.cw
            obtain rfl := H.out.c4 rfl
            refine wpOpIn_step rfl (fun K' hK => ?_)
            go_simp
            refine hK _ _ ?_
            exact ⟨d0, d1, d2, d3, true, true, d6, d7, d8, d9, d10, d11, d12, d13, d14, d15, d16, d17, d18, d19, d20, d21, false, rfl, _, _, _, _, _, _, _, _, _, _, _, _, _, _, _, _, _, _, _, _, _, _, rfl, ⟨H.out.cw, H.out.c0, H.out.c1, H.out.c2, H.out.c3, H.out.c4, fun _ => rfl, H.out.c6, H.out.c7, H.out.c8, H.out.c9, H.out.c10, H.out.c11, H.out.c12, H.out.c13, H.out.c14, H.out.c15, H.out.c16, H.out.c17, H.out.c18, H.out.c19, H.out.c20, H.out.c21, (fun hd => nomatch hd)⟩⟩
          · obtain rfl : d6 = false := by simpa using hi1
            have e5 : d5 = true := by simp only [hi2]
            clear hi1 hi2
            subst e5
            have h22 : d22 = false := by
              rcases hq : d22 with _ | _
              · rfl
              · exact nomatch (H.out.o22 hq).2.2.2.2.2.2.1
            obtain rfl := h22
            obtain rfl : wx = W2.drew := H.out.cw
            obtain rfl := H.out.c5 rfl
            refine wpOpIn_step rfl (fun K' hK => ?_)
            go_simp
            refine hK _ _ ?_
            exact ⟨d0, d1, d2, d3, d4, true, true, d7, d8, d9, d10, d11, d12, d13, d14, d15, d16, d17, d18, d19, d20, d21, false, rfl, _, _, _, _, _, _, _, _, _, _, _, _, _, _, _, _, _, _, _, _, _, _, rfl, ⟨H.out.cw, H.out.c0, H.out.c1, H.out.c2, H.out.c3, H.out.c4, H.out.c5, fun _ => rfl, H.out.c7, H.out.c8, H.out.c9, H.out.c10, H.out.c11, H.out.c12, H.out.c13, H.out.c14, H.out.c15, H.out.c16, H.out.c17, H.out.c18, H.out.c19, H.out.c20, H.out.c21, (fun hd => nomatch hd)⟩⟩
          · obtain rfl : d7 = false := by simpa using hi1
            have e6 : d6 = true := by simp only [hi2]
            clear hi1 hi2
            subst e6
            have h22 : d22 = false := by
              rcases hq : d22 with _ | _
              · rfl
              · exact nomatch (H.out.o22 hq).2.2.2.2.2.2.2.1
            obtain rfl := h22
            obtain rfl : wx = W2.drew := H.out.cw
            obtain rfl := H.out.c6 rfl
            refine wpOpIn_step rfl (fun K' hK => ?_)
            go_simp
            refine hK _ _ ?_
            exact ⟨d0, d1, d2, d3, d4, d5, true, true, d8, d9, d10, d11, d12, d13, d14, d15, d16, d17, d18, d19, d20, d21, false, rfl, _, _, _, _, _, _, _, _, _, _, _, _, _, _, _, _, _, _, _, _, _, _, rfl, ⟨H.out.cw, H.out.c0, H.out.c1, H.out.c2, H.out.c3, H.out.c4, H.out.c5, H.out.c6, fun _ => rfl, H.out.c8, H.out.c9, H.out.c10, H.out.c11, H.out.c12, H.out.c13, H.out.c14, H.out.c15, H.out.c16, H.out.c17, H.out.c18, H.out.c19, H.out.c20, H.out.c21, (fun hd => nomatch hd)⟩⟩
          · obtain rfl : d8 = false := by simpa using hi1
            clear hi1
            have h22 : d22 = false := by
              rcases hq : d22 with _ | _
              · rfl
              · exact nomatch (H.out.o22 hq).2.2.2.2.2.2.2.2.1
            obtain rfl := h22
            obtain rfl : wx = W2.drew := H.out.cw
            refine wpOpIn_step rfl (fun K' hK => ?_)
            go_simp
            refine hK _ _ ?_
            exact ⟨d0, d1, d2, d3, d4, d5, d6, d7, true, d9, d10, d11, d12, d13, d14, d15, d16, d17, d18, d19, d20, d21, false, rfl, _, _, _, _, _, _, _, _, _, _, _, _, _, _, _, _, _, _, _, _, _, _, rfl, ⟨H.out.cw, H.out.c0, H.out.c1, H.out.c2, H.out.c3, H.out.c4, H.out.c5, H.out.c6, H.out.c7, fun _ => rfl, H.out.c9, H.out.c10, H.out.c11, H.out.c12, H.out.c13, H.out.c14, H.out.c15, H.out.c16, H.out.c17, H.out.c18, H.out.c19, H.out.c20, H.out.c21, (fun hd => nomatch hd)⟩⟩
          · obtain rfl : d9 = false := by simpa using hi1
            have e7 : d7 = true := by simp only [hi2]
            have e8 : d8 = true := by simp only [hi2]
            clear hi1 hi2
            subst e7
            subst e8
            have h22 : d22 = false := by
              rcases hq : d22 with _ | _
              · rfl
              · exact nomatch (H.out.o22 hq).2.2.2.2.2.2.2.2.2.1
            obtain rfl := h22
            obtain rfl : wx = W2.drew := H.out.cw
            obtain rfl := H.out.c7 rfl
            obtain rfl := H.out.c8 rfl
            refine wpOpIn_step rfl (fun K' hK => ?_)
            go_simp
            refine hK _ _ ?_
            exact ⟨d0, d1, d2, d3, d4, d5, d6, true, true, true, d10, d11, d12, d13, d14, d15, d16, d17, d18, d19, d20, d21, false, rfl, _, _, _, _, _, _, _, _, _, _, _, _, _, _, _, _, _, _, _, _, _, _, rfl, ⟨H.out.cw, H.out.c0, H.out.c1, H.out.c2, H.out.c3, H.out.c4, H.out.c5, H.out.c6, H.out.c7, H.out.c8, fun _ => rfl, H.out.c10, H.out.c11, H.out.c12, H.out.c13, H.out.c14, H.out.c15, H.out.c16, H.out.c17, H.out.c18, H.out.c19, H.out.c20, H.out.c21, (fun hd => nomatch hd)⟩⟩
          · obtain rfl : d10 = false := by simpa using hi1
            have e9 : d9 = true := by simp only [hi2]
            clear hi1 hi2
            subst e9
            have h22 : d22 = false := by
              rcases hq : d22 with _ | _
              · rfl
              · exact nomatch (H.out.o22 hq).2.2.2.2.2.2.2.2.2.2.1
            obtain rfl := h22
            obtain rfl : wx = W2.drew := H.out.cw
            obtain rfl := H.out.c9 rfl
            refine wpOpIn_step rfl (fun K' hK => ?_)
            go_simp
            refine hK _ _ ?_
            exact ⟨d0, d1, d2, d3, d4, d5, d6, d7, d8, true, true, d11, d12, d13, d14, d15, d16, d17, d18, d19, d20, d21, false, rfl, _, _, _, _, _, _, _, _, _, _, _, _, _, _, _, _, _, _, _, _, _, _, rfl, ⟨H.out.cw, H.out.c0, H.out.c1, H.out.c2, H.out.c3, H.out.c4, H.out.c5, H.out.c6, H.out.c7, H.out.c8, H.out.c9, fun _ => rfl, H.out.c11, H.out.c12, H.out.c13, H.out.c14, H.out.c15, H.out.c16, H.out.c17, H.out.c18, H.out.c19, H.out.c20, H.out.c21, (fun hd => nomatch hd)⟩⟩
          · obtain rfl : d11 = false := by simpa using hi1
            have e3 : d3 = true := by simp only [hi2]
            have e10 : d10 = true := by simp only [hi2]
            clear hi1 hi2
            subst e3
            subst e10
            have h22 : d22 = false := by
              rcases hq : d22 with _ | _
              · rfl
              · exact nomatch (H.out.o22 hq).2.2.2.2.2.2.2.2.2.2.2.1
            obtain rfl := h22
            obtain rfl : wx = W2.drew := H.out.cw
            obtain rfl := H.out.c3 rfl
            obtain rfl := H.out.c10 rfl
            refine wpOpIn_step rfl (fun K' hK => ?_)
            go_simp
            refine hK _ _ ?_
            exact ⟨d0, d1, d2, true, d4, d5, d6, d7, d8, d9, true, true, d12, d13, d14, d15, d16, d17, d18, d19, d20, d21, false, rfl, _, _, _, _, _, _, _, _, _, _, _, _, _, _, _, _, _, _, _, _, _, _, rfl, ⟨H.out.cw, H.out.c0, H.out.c1, H.out.c2, H.out.c3, H.out.c4, H.out.c5, H.out.c6, H.out.c7, H.out.c8, H.out.c9, H.out.c10, fun _ => rfl, H.out.c12, H.out.c13, H.out.c14, H.out.c15, H.out.c16, H.out.c17, H.out.c18, H.out.c19, H.out.c20, H.out.c21, (fun hd => nomatch hd)⟩⟩
          · obtain rfl : d12 = false := by simpa using hi1
            have e11 : d11 = true := by simp only [hi2]
            clear hi1 hi2
            subst e11
            have h22 : d22 = false := by
              rcases hq : d22 with _ | _
              · rfl
              · exact nomatch (H.out.o22 hq).2.2.2.2.2.2.2.2.2.2.2.2.1
            obtain rfl := h22
            obtain rfl : wx = W2.drew := H.out.cw
            obtain rfl := H.out.c11 rfl
            refine wpOpIn_step rfl (fun K' hK => ?_)
            go_simp
            refine hK _ _ ?_
            exact ⟨d0, d1, d2, d3, d4, d5, d6, d7, d8, d9, d10, true, true, d13, d14, d15, d16, d17, d18, d19, d20, d21, false, rfl, _, _, _, _, _, _, _, _, _, _, _, _, _, _, _, _, _, _, _, _, _, _, rfl, ⟨H.out.cw, H.out.c0, H.out.c1, H.out.c2, H.out.c3, H.out.c4, H.out.c5, H.out.c6, H.out.c7, H.out.c8, H.out.c9, H.out.c10, H.out.c11, fun _ => rfl, H.out.c13, H.out.c14, H.out.c15, H.out.c16, H.out.c17, H.out.c18, H.out.c19, H.out.c20, H.out.c21, (fun hd => nomatch hd)⟩⟩
          · obtain rfl : d13 = false := by simpa using hi1
            clear hi1
            have h22 : d22 = false := by
              rcases hq : d22 with _ | _
              · rfl
              · exact nomatch (H.out.o22 hq).2.2.2.2.2.2.2.2.2.2.2.2.2.1
            obtain rfl := h22
            obtain rfl : wx = W2.drew := H.out.cw
            refine wpOpIn_step rfl (fun K' hK => ?_)
            go_simp
            refine hK _ _ ?_
            exact ⟨d0, d1, d2, d3, d4, d5, d6, d7, d8, d9, d10, d11, d12, true, d14, d15, d16, d17, d18, d19, d20, d21, false, rfl, _, _, _, _, _, _, _, _, _, _, _, _, _, _, _, _, _, _, _, _, _, _, rfl, ⟨H.out.cw, H.out.c0, H.out.c1, H.out.c2, H.out.c3, H.out.c4, H.out.c5, H.out.c6, H.out.c7, H.out.c8, H.out.c9, H.out.c10, H.out.c11, H.out.c12, fun _ => rfl, H.out.c14, H.out.c15, H.out.c16, H.out.c17, H.out.c18, H.out.c19, H.out.c20, H.out.c21, (fun hd => nomatch hd)⟩⟩
          · obtain rfl : d14 = false := by simpa using hi1
            have e13 : d13 = true := by simp only [hi2]
            clear hi1 hi2
            subst e13
            have h22 : d22 = false := by
              rcases hq : d22 with _ | _
              · rfl
              · exact nomatch (H.out.o22 hq).2.2.2.2.2.2.2.2.2.2.2.2.2.2.1
            obtain rfl := h22
            obtain rfl : wx = W2.drew := H.out.cw
            obtain rfl := H.out.c13 rfl
            refine wpOpIn_step rfl (fun K' hK => ?_)
            go_simp
            refine hK _ _ ?_
            exact ⟨d0, d1, d2, d3, d4, d5, d6, d7, d8, d9, d10, d11, d12, true, true, d15, d16, d17, d18, d19, d20, d21, false, rfl, _, _, _, _, _, _, _, _, _, _, _, _, _, _, _, _, _, _, _, _, _, _, rfl, ⟨H.out.cw, H.out.c0, H.out.c1, H.out.c2, H.out.c3, H.out.c4, H.out.c5, H.out.c6, H.out.c7, H.out.c8, H.out.c9, H.out.c10, H.out.c11, H.out.c12, H.out.c13, fun _ => rfl, H.out.c15, H.out.c16, H.out.c17, H.out.c18, H.out.c19, H.out.c20, H.out.c21, (fun hd => nomatch hd)⟩⟩
          · obtain rfl : d15 = false := by simpa using hi1
            have e14 : d14 = true := by simp only [hi2]
            clear hi1 hi2
            subst e14
            have h22 : d22 = false := by
              rcases hq : d22 with _ | _
              · rfl
              · exact nomatch (H.out.o22 hq).2.2.2.2.2.2.2.2.2.2.2.2.2.2.2.1
            obtain rfl := h22
            obtain rfl : wx = W2.drew := H.out.cw
            obtain rfl := H.out.c14 rfl
            refine wpOpIn_step rfl (fun K' hK => ?_)
            go_simp
            refine hK _ _ ?_
            exact ⟨d0, d1, d2, d3, d4, d5, d6, d7, d8, d9, d10, d11, d12, d13, true, true, d16, d17, d18, d19, d20, d21, false, rfl, _, _, _, _, _, _, _, _, _, _, _, _, _, _, _, _, _, _, _, _, _, _, rfl, ⟨H.out.cw, H.out.c0, H.out.c1, H.out.c2, H.out.c3, H.out.c4, H.out.c5, H.out.c6, H.out.c7, H.out.c8, H.out.c9, H.out.c10, H.out.c11, H.out.c12, H.out.c13, H.out.c14, fun _ => rfl, H.out.c16, H.out.c17, H.out.c18, H.out.c19, H.out.c20, H.out.c21, (fun hd => nomatch hd)⟩⟩
          · obtain rfl : d16 = false := by simpa using hi1
            have e15 : d15 = true := by simp only [hi2]
            clear hi1 hi2
            subst e15
            have h22 : d22 = false := by
              rcases hq : d22 with _ | _
              · rfl
              · exact nomatch (H.out.o22 hq).2.2.2.2.2.2.2.2.2.2.2.2.2.2.2.2.1
            obtain rfl := h22
            obtain rfl : wx = W2.drew := H.out.cw
            obtain rfl := H.out.c15 rfl
            refine wpOpIn_step rfl (fun K' hK => ?_)
            go_simp
            refine hK _ _ ?_
            exact ⟨d0, d1, d2, d3, d4, d5, d6, d7, d8, d9, d10, d11, d12, d13, d14, true, true, d17, d18, d19, d20, d21, false, rfl, _, _, _, _, _, _, _, _, _, _, _, _, _, _, _, _, _, _, _, _, _, _, rfl, ⟨H.out.cw, H.out.c0, H.out.c1, H.out.c2, H.out.c3, H.out.c4, H.out.c5, H.out.c6, H.out.c7, H.out.c8, H.out.c9, H.out.c10, H.out.c11, H.out.c12, H.out.c13, H.out.c14, H.out.c15, fun _ => rfl, H.out.c17, H.out.c18, H.out.c19, H.out.c20, H.out.c21, (fun hd => nomatch hd)⟩⟩
          · obtain rfl : d17 = false := by simpa using hi1
            clear hi1
            have h22 : d22 = false := by
              rcases hq : d22 with _ | _
              · rfl
              · exact nomatch (H.out.o22 hq).2.2.2.2.2.2.2.2.2.2.2.2.2.2.2.2.2.1
            obtain rfl := h22
            obtain rfl : wx = W2.drew := H.out.cw
            refine wpOpIn_step rfl (fun K' hK => ?_)
            go_simp
            refine hK _ _ ?_
            exact ⟨d0, d1, d2, d3, d4, d5, d6, d7, d8, d9, d10, d11, d12, d13, d14, d15, d16, true, d18, d19, d20, d21, false, rfl, _, _, _, _, _, _, _, _, _, _, _, _, _, _, _, _, _, _, _, _, _, _, rfl, ⟨H.out.cw, H.out.c0, H.out.c1, H.out.c2, H.out.c3, H.out.c4, H.out.c5, H.out.c6, H.out.c7, H.out.c8, H.out.c9, H.out.c10, H.out.c11, H.out.c12, H.out.c13, H.out.c14, H.out.c15, H.out.c16, fun _ => rfl, H.out.c18, H.out.c19, H.out.c20, H.out.c21, (fun hd => nomatch hd)⟩⟩
          · obtain rfl : d18 = false := by simpa using hi1
            have e16 : d16 = true := by simp only [hi2]
            have e17 : d17 = true := by simp only [hi2]
            clear hi1 hi2
            subst e16
            subst e17
            have h22 : d22 = false := by
              rcases hq : d22 with _ | _
              · rfl
              · exact nomatch (H.out.o22 hq).2.2.2.2.2.2.2.2.2.2.2.2.2.2.2.2.2.2.1
            obtain rfl := h22
            obtain rfl : wx = W2.drew := H.out.cw
            obtain rfl := H.out.c16 rfl
            obtain rfl := H.out.c17 rfl
            refine wpOpIn_step rfl (fun K' hK => ?_)
            go_simp
            refine hK _ _ ?_
            exact ⟨d0, d1, d2, d3, d4, d5, d6, d7, d8, d9, d10, d11, d12, d13, d14, d15, true, true, true, d19, d20, d21, false, rfl, _, _, _, _, _, _, _, _, _, _, _, _, _, _, _, _, _, _, _, _, _, _, rfl, ⟨H.out.cw, H.out.c0, H.out.c1, H.out.c2, H.out.c3, H.out.c4, H.out.c5, H.out.c6, H.out.c7, H.out.c8, H.out.c9, H.out.c10, H.out.c11, H.out.c12, H.out.c13, H.out.c14, H.out.c15, H.out.c16, H.out.c17, fun _ => rfl, H.out.c19, H.out.c20, H.out.c21, (fun hd => nomatch hd)⟩⟩
          · obtain rfl : d19 = false := by simpa using hi1
            have e18 : d18 = true := by simp only [hi2]
            clear hi1 hi2
            subst e18
            have h22 : d22 = false := by
              rcases hq : d22 with _ | _
              · rfl
              · exact nomatch (H.out.o22 hq).2.2.2.2.2.2.2.2.2.2.2.2.2.2.2.2.2.2.2.1
            obtain rfl := h22
            obtain rfl : wx = W2.drew := H.out.cw
            obtain rfl := H.out.c18 rfl
            refine wpOpIn_step rfl (fun K' hK => ?_)
            go_simp
            refine hK _ _ ?_
            exact ⟨d0, d1, d2, d3, d4, d5, d6, d7, d8, d9, d10, d11, d12, d13, d14, d15, d16, d17, true, true, d20, d21, false, rfl, _, _, _, _, _, _, _, _, _, _, _, _, _, _, _, _, _, _, _, _, _, _, rfl, ⟨H.out.cw, H.out.c0, H.out.c1, H.out.c2, H.out.c3, H.out.c4, H.out.c5, H.out.c6, H.out.c7, H.out.c8, H.out.c9, H.out.c10, H.out.c11, H.out.c12, H.out.c13, H.out.c14, H.out.c15, H.out.c16, H.out.c17, H.out.c18, fun _ => rfl, H.out.c20, H.out.c21, (fun hd => nomatch hd)⟩⟩
          · obtain rfl : d20 = false := by simpa using hi1
            have e12 : d12 = true := by simp only [hi2]
            have e19 : d19 = true := by simp only [hi2]
            clear hi1 hi2
            subst e12
            subst e19
            have h22 : d22 = false := by
              rcases hq : d22 with _ | _
              · rfl
              · exact nomatch (H.out.o22 hq).2.2.2.2.2.2.2.2.2.2.2.2.2.2.2.2.2.2.2.2.1
            obtain rfl := h22
            obtain rfl : wx = W2.drew := H.out.cw
            obtain rfl := H.out.c12 rfl
            obtain rfl := H.out.c19 rfl
            refine wpOpIn_step rfl (fun K' hK => ?_)
            go_simp
            refine hK _ _ ?_
            exact ⟨d0, d1, d2, d3, d4, d5, d6, d7, d8, d9, d10, d11, true, d13, d14, d15, d16, d17, d18, true, true, d21, false, rfl, _, _, _, _, _, _, _, _, _, _, _, _, _, _, _, _, _, _, _, _, _, _, rfl, ⟨H.out.cw, H.out.c0, H.out.c1, H.out.c2, H.out.c3, H.out.c4, H.out.c5, H.out.c6, H.out.c7, H.out.c8, H.out.c9, H.out.c10, H.out.c11, H.out.c12, H.out.c13, H.out.c14, H.out.c15, H.out.c16, H.out.c17, H.out.c18, H.out.c19, fun _ => rfl, H.out.c21, (fun hd => nomatch hd)⟩⟩
          · obtain rfl : d21 = false := by simpa using hi1
            have e0 : d0 = true := by simp only [hi2]
            have e1 : d1 = true := by simp only [hi2]
            have e2 : d2 = true := by simp only [hi2]
            have e3 : d3 = true := by simp only [hi2]
            have e4 : d4 = true := by simp only [hi2]
            have e5 : d5 = true := by simp only [hi2]
            have e6 : d6 = true := by simp only [hi2]
            have e7 : d7 = true := by simp only [hi2]
            have e8 : d8 = true := by simp only [hi2]
            have e9 : d9 = true := by simp only [hi2]
            have e10 : d10 = true := by simp only [hi2]
            have e11 : d11 = true := by simp only [hi2]
            have e12 : d12 = true := by simp only [hi2]
            have e13 : d13 = true := by simp only [hi2]
            have e14 : d14 = true := by simp only [hi2]
            have e15 : d15 = true := by simp only [hi2]
            have e16 : d16 = true := by simp only [hi2]
            have e17 : d17 = true := by simp only [hi2]
            have e18 : d18 = true := by simp only [hi2]
            have e19 : d19 = true := by simp only [hi2]
            have e20 : d20 = true := by simp only [hi2]
            clear hi1 hi2
            subst e0
            subst e1
            subst e2
            subst e3
            subst e4
            subst e5
            subst e6
            subst e7
            subst e8
            subst e9
            subst e10
            subst e11
            subst e12
            subst e13
            subst e14
            subst e15
            subst e16
            subst e17
            subst e18
            subst e19
            subst e20
            have h22 : d22 = false := by
              rcases hq : d22 with _ | _
              · rfl
              · exact nomatch (H.out.o22 hq).2.2.2.2.2.2.2.2.2.2.2.2.2.2.2.2.2.2.2.2.2
            obtain rfl := h22
            obtain rfl : wx = W2.drew := H.out.cw
            obtain rfl := H.out.c3 rfl
            obtain rfl := H.out.c10 rfl
            refine wpOpIn_step rfl (fun K' hK => ?_)
            go_simp
            refine hK _ _ ?_
            exact ⟨true, true, true, true, true, true, true, true, true, true, true, true, true, true, true, true, true, true, true, true, true, true, false, rfl, _, _, _, _, _, _, _, _, _, _, _, _, _, _, _, _, _, _, _, _, _, _, rfl, ⟨H.out.cw, H.out.c0, H.out.c1, H.out.c2, H.out.c3, H.out.c4, H.out.c5, H.out.c6, H.out.c7, H.out.c8, H.out.c9, H.out.c10, H.out.c11, H.out.c12, H.out.c13, H.out.c14, H.out.c15, H.out.c16, H.out.c17, H.out.c18, H.out.c19, H.out.c20, fun _ => rfl, (fun hd => nomatch hd)⟩⟩
          · obtain rfl : d22 = false := by simpa using hi1
            have e0 : d0 = true := by simp only [hi2]
            have e1 : d1 = true := by simp only [hi2]
            have e2 : d2 = true := by simp only [hi2]
            have e3 : d3 = true := by simp only [hi2]
            have e4 : d4 = true := by simp only [hi2]
            have e5 : d5 = true := by simp only [hi2]
            have e6 : d6 = true := by simp only [hi2]
            have e7 : d7 = true := by simp only [hi2]
            have e8 : d8 = true := by simp only [hi2]
            have e9 : d9 = true := by simp only [hi2]
            have e10 : d10 = true := by simp only [hi2]
            have e11 : d11 = true := by simp only [hi2]
            have e12 : d12 = true := by simp only [hi2]
            have e13 : d13 = true := by simp only [hi2]
            have e14 : d14 = true := by simp only [hi2]
            have e15 : d15 = true := by simp only [hi2]
            have e16 : d16 = true := by simp only [hi2]
            have e17 : d17 = true := by simp only [hi2]
            have e18 : d18 = true := by simp only [hi2]
            have e19 : d19 = true := by simp only [hi2]
            have e20 : d20 = true := by simp only [hi2]
            have e21 : d21 = true := by simp only [hi2]
            clear hi1 hi2
            subst e0
            subst e1
            subst e2
            subst e3
            subst e4
            subst e5
            subst e6
            subst e7
            subst e8
            subst e9
            subst e10
            subst e11
            subst e12
            subst e13
            subst e14
            subst e15
            subst e16
            subst e17
            subst e18
            subst e19
            subst e20
            subst e21
            obtain rfl : wx = W2.drew := H.out.cw
            obtain rfl := H.out.c21 rfl
            obtain rfl := H.out.c20 rfl
            refine wpOpIn_step rfl (fun K' hK => ?_)
            go_simp
            rw [show (W2.setCell ⟨g6, c, none⟩ (.int .i64 (IntKind.i64.wrap (y1 + x1)))).drew = W3 from HW3.out.symm]
            refine hK _ _ ?_
            exact ⟨true, true, true, true, true, true, true, true, true, true, true, true, true, true, true, true, true, true, true, true, true, true, true, rfl, _, _, _, _, _, _, _, _, _, _, _, _, _, _, _, _, _, _, _, _, _, _, rfl, ⟨rfl, H.out.c0, H.out.c1, H.out.c2, H.out.c3, H.out.c4, H.out.c5, H.out.c6, H.out.c7, H.out.c8, H.out.c9, H.out.c10, H.out.c11, H.out.c12, H.out.c13, H.out.c14, H.out.c15, H.out.c16, H.out.c17, H.out.c18, H.out.c19, H.out.c20, H.out.c21, fun _ => ⟨rfl, rfl, rfl, rfl, rfl, rfl, rfl, rfl, rfl, rfl, rfl, rfl, rfl, rfl, rfl, rfl, rfl, rfl, rfl, rfl, rfl, rfl⟩⟩⟩
        · rintro listed a wx ⟨d0, d1, d2, d3, d4, d5, d6, d7, d8, d9, d10, d11, d12, d13, d14, d15, d16, d17, d18, d19, d20, d21, d22, rfl, v57, v58, v59, v60, v61, v62, v63, v64, v65, v66, v67, v68, v69, v70, v71, v72, v73, v74, v75, v76, v77, v78, rfl, H⟩ hr
          obtain rfl : d0 = true := by simpa using ready_none hr 0 (by decide) (by simp [Region.binds])
          obtain rfl : d1 = true := by simpa using ready_none hr 1 (by decide) (by simp [Region.binds])
          obtain rfl : d2 = true := by simpa using ready_none hr 2 (by decide) (by simp [Region.binds])
          obtain rfl : d3 = true := by simpa using ready_none hr 3 (by decide) (by simp [Region.binds])
          obtain rfl : d4 = true := by simpa using ready_none hr 4 (by decide) (by simp [Region.binds])
          obtain rfl : d5 = true := by simpa using ready_none hr 5 (by decide) (by simp [Region.binds])
          obtain rfl : d6 = true := by simpa using ready_none hr 6 (by decide) (by simp [Region.binds])
          obtain rfl : d7 = true := by simpa using ready_none hr 7 (by decide) (by simp [Region.binds])
          obtain rfl : d8 = true := by simpa using ready_none hr 8 (by decide) (by simp [Region.binds])
          obtain rfl : d9 = true := by simpa using ready_none hr 9 (by decide) (by simp [Region.binds])
          obtain rfl : d10 = true := by simpa using ready_none hr 10 (by decide) (by simp [Region.binds])
          obtain rfl : d11 = true := by simpa using ready_none hr 11 (by decide) (by simp [Region.binds])
          obtain rfl : d12 = true := by simpa using ready_none hr 12 (by decide) (by simp [Region.binds])
          obtain rfl : d13 = true := by simpa using ready_none hr 13 (by decide) (by simp [Region.binds])
          obtain rfl : d14 = true := by simpa using ready_none hr 14 (by decide) (by simp [Region.binds])
          obtain rfl : d15 = true := by simpa using ready_none hr 15 (by decide) (by simp [Region.binds])
          obtain rfl : d16 = true := by simpa using ready_none hr 16 (by decide) (by simp [Region.binds])
          obtain rfl : d17 = true := by simpa using ready_none hr 17 (by decide) (by simp [Region.binds])
          obtain rfl : d18 = true := by simpa using ready_none hr 18 (by decide) (by simp [Region.binds])
          obtain rfl : d19 = true := by simpa using ready_none hr 19 (by decide) (by simp [Region.binds])
          obtain rfl : d20 = true := by simpa using ready_none hr 20 (by decide) (by simp [Region.binds])
          obtain rfl : d21 = true := by simpa using ready_none hr 21 (by decide) (by simp [Region.binds])
          obtain rfl : d22 = true := by simpa using ready_none hr 22 (by decide) (by simp [Region.binds])
          obtain rfl : wx = W3 := H.out.cw
          have h4 := HR4.out
          exact HEND.out wx _ rfl h4.1 h4.2.1 h4.2.2.1 h4.2.2.2.1 h4.2.2.2.2.1 h4.2.2.2.2.2 HR3.out
        · exact ⟨false, false, false, false, false, false, false, false, false, false, false, false, false, false, false, false, false, false, false, false, false, false, false, rfl, _, _, _, _, _, _, _, _, _, _, _, _, _, _, _, _, _, _, _, _, _, _, rfl, ⟨rfl, (fun hd => nomatch hd), (fun hd => nomatch hd), (fun hd => nomatch hd), (fun hd => nomatch hd), (fun hd => nomatch hd), (fun hd => nomatch hd), (fun hd => nomatch hd), (fun hd => nomatch hd), (fun hd => nomatch hd), (fun hd => nomatch hd), (fun hd => nomatch hd), (fun hd => nomatch hd), (fun hd => nomatch hd), (fun hd => nomatch hd), (fun hd => nomatch hd), (fun hd => nomatch hd), (fun hd => nomatch hd), (fun hd => nomatch hd), (fun hd => nomatch hd), (fun hd => nomatch hd), (fun hd => nomatch hd), (fun hd => nomatch hd), (fun hd => nomatch hd)⟩⟩
    case done =>
      rintro D2 xs W hD2 hxs hI hK
      rw [hxs] at hI
      have hB := HB2L.out
      have HD2L : Hid (D2 < W.heap.size ∧ D ≤ D2) := ⟨lt_of_block hK, by rw [hB.2.2.2.1]; exact hD2⟩
      have HAG : Hid (AG wc g4 g5 g6 W) := by
        have hf := hI.fr
        have h2 : Below wc.heap.size wc W1 := HW1B.out
        exact ⟨hf.os.trans h2.os, hf.tape.trans h2.tape, hf.output.trans h2.output, Nat.le_trans h2.size hf.size, fun k hk h4 h5 h6 => (hf.block k (Nat.lt_of_lt_of_le hk h2.size) h6).trans (h2.block k hk)⟩
      obtain ⟨N, hN⟩ : ∃ N, N = manyL q o := ⟨_, rfl⟩
      have HNE : Hid (N = manyL q o) := hN
      have HR6 : Hid (RowI W 0 g6 n (fun b => wrap64 ((N b : Nat) : Int))) := by
        have h1 := hI.row
        rw [mfold_all, ← hN] at h1
        exact rowI_of_block h1 (Nat.zero_le _) HN63.out
      have HKD : Hid (W.heap[D2]? = some (.deferred (some []))) := hK
      have HX : Hid (∀ X : World, AG wc g4 g5 g6 X → X.cell? ⟨Bx, 0, none⟩ = some (.pointer (some ⟨F, 0, none⟩)) ∧ X.heap[F]? = some (fobj vA vN (.slice ao m ko) vU (.slice (some ⟨g4, 0, none⟩) m m) (.slice (some ⟨g5, 0, none⟩) n n) (.slice (some ⟨g6, 0, none⟩) n n)) ∧
          (∀ b c : Nat, b < n → u b = some c → X.cell? ⟨gu, b, none⟩ = some (.int .i64 (c : Nat))) ∧ (∀ j b : Nat, o[j]? = some b → ∃ go oo : Nat, ao = some ⟨go, oo, none⟩ ∧ X.cell? ⟨go, oo + j, none⟩ = some (.int .i64 (b : Nat)))) := by
        intro X hX
        have hZ := HZ.out
        have l4 := hZ.2.2.2.2.2.2.2.1
        have l5 := hZ.2.2.2.2.2.2.2.2.1
        have l6 := hZ.2.2.2.2.2.2.2.2.2.1
        have hS1 := HSB.out
        have hS3 := HBE.out
        have hS4 := HSE.out
        have hfb := HFB.out
        have hsz0 := HFR.out.size
        refine ⟨?_, (hX.block F (by omega) (by omega) (by omega) (by omega)).trans hZ.1, fun b c hb hc => ?_, fun j b hj => ?_⟩
        · exact (World.cell?_of_block (w := wc) (hX.block Bx (by omega) (by omega) (by omega) (by omega))).trans (qbox.out wc HFR.out)
        · have h1 := (HUU.out.get hb).1
          rw [upI_some hc] at h1
          have hu := HUU.out.lt.2
          exact (World.cell?_of_block (w := w) ((hX.block gu (by omega) (by omega) (by omega) (by omega)).trans ((HFR.out.block gu (by omega) HGF.out).trans (HB0.out.block gu hu)))).trans h1
        · obtain ⟨go, oo, e, hgo, hat⟩ := nums_at HOO.out (by have := (List.getElem?_eq_some_iff.1 hj).1; omega)
          have hgF := HBF.out go oo e
          have hbw := HBW.out
          have hbe := HBE.out
          refine ⟨go, oo, e, ?_⟩
          exact (World.cell?_of_block (w := w) ((hX.block go (by omega) (by omega) (by omega) (by omega)).trans ((HFR.out.block go (by omega) (by omega)).trans (HB0.out.block go (by omega))))).trans (hat j b hj)
      have HR45 : Hid (RowI W 0 g4 m (fun _ => 0) ∧ RowI W 0 g5 n (fun _ => -1)) := by
        have hZ := HZ.out
        have a4 := HKEEP.out g4 _ hZ.2.1
        have a5 := HKEEP.out g5 _ hZ.2.2.1
        have hf := hI.fr
        have hmn := HMN.out
        have hn63 := HN63.out
        refine ⟨rowI_of_block ((hf.block g4 (by omega) hZ.2.2.2.2.2.1).trans (a4.2.trans (by rw [HOM.out]))) (Nat.zero_le _) (by omega), rowI_of_block ((hf.block g5 (by omega) hZ.2.2.2.2.2.2.1).trans (a5.2.trans (by rw [HOR.out]))) (Nat.zero_le _) hn63⟩
      obtain ⟨i1, hi1, hy0, hy1, hyb⟩ := infoParts infoInt
      clear hI hxs hD2 hK hN hB
      go_wp2_with (at_make; refine wpList_make_full _ rfl _ _ _ rfl W.heap.size 3 i1 _ 1 Tryd.underlying23 hi1 hy0 hy1 .i64 .i64 _ _ n (by rfl) (by rfl) rfl rfl (by rw [hyb]; omega) (by unfold maxLen; omega) (Nat.le_refl _) ?_)
      intro w9 hown hgrow
      obtain ⟨g7, hg7⟩ : ∃ g7, g7 = W.heap.size := ⟨_, rfl⟩
      have h1 : (madeCells #[Value.int .i64 0] n).toList = List.replicate n (.int .i64 0) := toList_madeCells_one _ _
      rw [h1, ← fnL_const n 0, ← hg7] at hown
      have hbw : Below W.heap.size W w9 := (Below.refl _ _).grown hgrow (Nat.le_refl _) (fun k hk => by cases hk)
      have HP0 : Hid (PS wc g4 g5 g6 g7 n m D2 N (fun _ => -1) (fun _ => 0) (fun _ => 0) w9) := by
        have hl4 := HR45.out.1.lt.2
        have hl5 := HR45.out.2.lt.2
        have hl6 := HR6.out.lt.2
        have hZ := HZ.out
        have hD2 := HD2L.out
        have hB := HB2L.out
        have a4 := (HKEEP.out g4 _ hZ.2.1).1
        have a5 := (HKEEP.out g5 _ hZ.2.2.1).1
        have hw := HAG.out.size
        refine ⟨HAG.out.below hbw, HR45.out.1.keep (hbw.block _ hl4), HR45.out.2.keep (hbw.block _ hl5), HR6.out.keep (hbw.block _ hl6), ⟨own_base' hown (Nat.zero_le _)⟩, (hbw.block _ hD2.1).trans HKD.out, hZ.2.2.2.2.1, hZ.2.2.2.2.2.1, by omega, hZ.2.2.2.2.2.2.1, by omega, by omega, by omega, by omega, by omega, by omega⟩
      have HG7 : Hid (g7 = W.heap.size) := hg7
      rw [← hg7]
      obtain ⟨pb, pF, _, _⟩ := HX.out w9 HP0.out.ag
      have pf2 := (cells7 pF).2.2.1
      clear hown hgrow h1 hbw HR45 HR6 HKD hg7 pF
      go_wp2_with fail
      go_loopg [86] m (fun g s86 wr => ∃ (i : Nat) (A : Nat → Int) (fr : Nat → Nat) (tr : Nat → Int) (at' : Nat → Nat), s86 = .int .i64 (i : Nat) ∧ i + g = m ∧ Hid (NW o q i at' fr ∧ (∀ b, b ∈ o.take i → A b = (at' b : Int)) ∧ ∀ b, b ∉ o.take i → A b = -1) ∧ Hid (PS wc g4 g5 g6 g7 n m D2 N A fr tr wr))
      case atStart => exact ⟨0, _, _, _, fun _ => 0, rfl, by omega, ⟨NW.zero' _ _, fun b hb => by simp at hb, fun b _ => rfl⟩, HP0⟩
      case round =>
        clear HP0 pb pf2
        obtain ⟨i, A, fr, tr, at', rfl, hi', HFW2, HP⟩ := hrel
        cases gk with
        | zero =>
          have hlt : ¬ (i : Int) < (m : Int) := by omega
          go_wp2_with fail
          have HKN : Hid (wr.heap[D2]? = some (.deferred (some []))) := HP.out.dK
          have hD2 := HD2L.out
          have hB := HB2L.out
          have hS1 := HSB.out
          have hS2 := HSB2.out
          have hS3 := HBE.out
          have hS4 := HSE.out
          have hfb := HFB.out
          have hZ := HZ.out
          have l4 := hZ.2.2.2.2.2.2.2.1
          have l5 := hZ.2.2.2.2.2.2.2.2.1
          have l6 := hZ.2.2.2.2.2.2.2.2.2.1
          have hag := HP.out.ag
          have hF1 := (HX.out wr hag).2.1
          rw [HVA.out, HVU.out] at hF1
          have hfr := HFR.out
          have hb0 := HB0.out
          refine ⟨by simp, .inl ⟨_, _, rfl, run_takeDeferred HKN.out, ?_⟩⟩
          have him : i = m := by omega
          have hN6 : g6 ≠ D2 := by have := hB.2.2.1; have := hD2.2; omega
          have hFW2 := HFW2.out
          rw [him, HMO.out, List.take_length] at hFW2
          have h6 := HP.out.r6
          rw [HNE.out] at h6
          refine ⟨_, results_none rfl _ _ _, rfl, g4, g5, g6, (World.putObj_heap_other (by omega)).trans hF1, ?_, HP.out.e4, by omega, by omega, A, at', fr, by rw [HMO.out]; exact hFW2.1, hFW2.2.1, hFW2.2.2, HP.out.r5.keep (World.putObj_heap_other HP.out.k5), h6.keep (World.putObj_heap_other hN6)⟩
          refine ⟨hag.os.trans (hfr.os.trans hb0.os), hag.tape.trans (hfr.tape.trans hb0.tape), hag.output.trans (hfr.output.trans hb0.output), ?_, fun k hk hn => ?_⟩
          · have h1 := hag.size
            have h2 := hfr.size
            have h3 := hb0.size
            have h4 : (wr.putObj D2 (.deferred none)).heap.size = wr.heap.size := by simp
            omega
          · have h2 := hfr.size
            exact (World.putObj_heap_other (by omega)).trans ((hag.block k (by omega) (by omega) (by omega) (by omega)).trans ((hfr.block k (by omega) hn).trans (hb0.block k hk)))
        | succ gj =>
          have hlt : (i : Int) < (m : Int) := by omega
          have him : i < o.length := by have := HMO.out; omega
          have hget : o[i]? = some o[i] := List.getElem?_eq_getElem him
          generalize o[i] = b at hget
          have HGET : Hid (o[i]? = some b) := hget
          have hbm : b ∈ o := List.mem_of_getElem? hget
          have HBM : Hid (b ∈ o) := hbm
          have hbn : b < n := HLT.out b hbm
          have hbI : (b : Int) < (n : Int) := by omega
          have HT : Hid (TR o q) := HTT.out (by omega)
          obtain ⟨pb, pF, pU, pO⟩ := HX.out wr HP.out.ag
          obtain ⟨_, _, pf2, pf3, pf4, pf5, pf6⟩ := cells7 pF
          rw [HVU.out] at pf3
          obtain ⟨go, oo, rfl, po⟩ := pO i b hget
          by_cases hi0 : i = 0
          · have hb0 : b = 0 := by
              have h := HT.out.head
              rw [List.head?_eq_getElem?] at h
              have hget0 := hget
              rw [hi0, h] at hget0
              exact (Option.some.inj hget0).symm
            have hi0z : ((i : Int) == 0) = true := by simp [hi0]
            have HI0 : Hid (i = 0) := hi0
            clear hi0
            obtain ⟨k5, k5f⟩ := HP.out.r5.get hbn
            obtain ⟨av, hav⟩ : ∃ av : Nat, av = 0 := ⟨_, rfl⟩
            obtain ⟨fr1, hfr1⟩ : ∃ fr1, fr1 = fr := ⟨_, rfl⟩
            obtain ⟨A1, hA1⟩ : ∃ A1, A1 = fset A b 0 := ⟨_, rfl⟩
            have HP1 : Hid (PS wc g4 g5 g6 g7 n m D2 N A1 fr1 tr (wr.setCell ⟨g5, b, none⟩ (.int .i64 0))) := by unfold Hid; rw [hA1, hfr1]; exact HP.out.setA hbn 0
            have HAV : Hid (A1 b = (av : Int)) := by unfold Hid; rw [hA1, hav, fset_same]; rfl
            have HFN : Hid (NW o q (i + 1) (updN at' b av) (updN fr1 b (av + 1)) ∧ av < m ∧ ∀ x, x ≠ b → A1 x = A x) := by
              have hf := NW.first' (at' := at') (fr := fr) HT.out
              refine ⟨?_, by omega, fun x hx => by rw [hA1, fset_other _ _ hx]⟩
              rw [HI0.out, hb0, hav, hfr1]; exact hf
            clear hfr1 hA1 hget hbm pU pO pF hb0
            clear hav
            go_upto_region 16 with fail
            obtain ⟨Wa, hWa⟩ : ∃ Wa, Wa = wr.setCell ⟨g5, b, none⟩ (.int .i64 0) := ⟨_, rfl⟩
            rw [← hWa] at HP1 ⊢
            clear hWa po
            have hmn := HMN.out
            clear pb pf2 pf3 pf4 pf5 pf6 k5 k5f
            obtain ⟨pb, pF, _, _⟩ := HX.out Wa HP1.out.ag
            obtain ⟨_, _, _, _, pf4, pf5, _⟩ := cells7 pF
            obtain ⟨k5, _⟩ := HP1.out.r5.get hbn
            rw [HAV.out] at k5
            obtain ⟨k7, k7f⟩ := HP1.out.r7.get hbn
            have ham := HFN.out.2.1
            have hwa : Hid (wrap64 ((av : Int) + 1) = (av : Int) + 1) := wrap64_small (by omega)
            have hwe : (av : Int) + 1 = ((av + 1 : Nat) : Int) := by omega
            have HP2 : Hid (PS wc g4 g5 g6 g7 n m D2 N A1 (updN fr1 b (av + 1)) tr (Wa.setCell ⟨g7, b, none⟩ (.int .i64 ((av : Int) + 1)))) := by
              unfold Hid; rw [hwe]; exact HP1.out.setF hbn (av + 1)
            clear hwe pF
            go_upto_region 17 with fail
            obtain ⟨Wb, hWb⟩ : ∃ Wb, Wb = Wa.setCell ⟨g7, b, none⟩ (.int .i64 ((av : Int) + 1)) := ⟨_, rfl⟩
            rw [← hWb] at HP2 ⊢
            clear hWb pb pf4 pf5 k5 k7 k7f hwa HP1
            obtain ⟨pb, pF, _, _⟩ := HX.out Wb HP2.out.ag
            obtain ⟨_, _, _, _, pf4, pf5, _⟩ := cells7 pF
            obtain ⟨k5, _⟩ := HP2.out.r5.get hbn
            rw [HAV.out] at k5
            obtain ⟨k4, k4f⟩ := HP2.out.r4.get ham
            have hamI : (av : Int) < (m : Int) := by omega
            have HP3 : Hid (PS wc g4 g5 g6 g7 n m D2 N A1 (updN fr1 b (av + 1)) (fset tr av b) (Wb.setCell ⟨g4, av, none⟩ (.int .i64 (b : Nat))).drew) := (HP2.out.setT ham b).same rfl rfl rfl rfl
            clear pF
            refine wp_region_any (by kernel_rfl) ?_
            refine wpAny_inv (fun listed a wx => ∃ d0 d1 d2 d3 d4 d5 d6 d7 d8 d9 d10 d11 d12 d13 : Bool, listed = #[d0, d1, d2, d3, d4, d5, d6, d7, d8, d9, d10, d11, d12, d13] ∧ ∃ v0 v1 v2 v3 v4 v5 v6 v7 v8 v9 v10 v11 v12 : Value, a = { tmps := #[Value.pointer (some ⟨F, 0, none⟩), Value.pointer (some ⟨Bx, 0, none⟩), Value.int .i64 (n : Nat), undef, undef, Value.slice (some ⟨g7, 0, none⟩) n n, Value.int .i64 (i : Nat), Value.int .i64 (b : Nat), Value.pointer (some ⟨F, 0, none⟩), Value.pointer (some ⟨F, 0, none⟩), Value.pointer (some ⟨F, 0, none⟩), vA, Value.int .i64 (n : Nat), u13, u14, u15, u16, u17, u18, u19, u20, u21, u22, u23, u24, u25, u26, u27, u28, u29, u30, u31, u32, Value.pointer (some ⟨F, 0, none⟩), Value.pointer (some ⟨F, 0, none⟩), Value.pointer (some ⟨F, 2, none⟩), Value.slice (some ⟨go, oo, none⟩) m ko, Value.func (Fn.func 59) #[] #[Value.pointer (some ⟨B2, 0, none⟩)], undef, undef, undef, undef, undef, undef, undef, undef, undef, undef, undef, undef, undef, undef, undef, undef, undef, undef, undef, undef, undef, undef, undef, undef, undef, undef, undef, undef, undef, undef, undef, undef, undef, undef, undef, undef, undef, undef, undef, undef, undef, Value.int .i64 (n : Nat), Value.slice (some ⟨g7, 0, none⟩) n n, Value.pointer (some ⟨F, 0, none⟩), Value.pointer (some ⟨F, 0, none⟩), Value.pointer (some ⟨F, 2, none⟩), Value.slice (some ⟨go, oo, none⟩) m ko, Value.int .i64 (m : Nat), Value.int .i64 (i : Nat), Value.bool true, Value.int .i64 (i : Nat), Value.pointer (some ⟨go, oo + i, none⟩), Value.int .i64 (b : Nat), Value.int .i64 (i : Nat), Value.bool true, Value.pointer (some ⟨F, 0, none⟩), Value.pointer (some ⟨F, 0, none⟩), Value.pointer (some ⟨F, 5, none⟩), Value.slice (some ⟨g5, 0, none⟩) n n, Value.int .i64 (b : Nat), Value.pointer (some ⟨g5, b, none⟩), u99, u100, u101, u102, u103, u104, u105, u106, u107, u108, u109, u110, u111, u112, u113, u114, u115, u116, u117, u118, u119, u120, u121, u122, u123, u124, u125, u126, u127, u128, u129, u130, u131, u132, u133, Value.slice (some ⟨g7, 0, none⟩) n n, Value.int .i64 (b : Nat), Value.pointer (some ⟨F, 0, none⟩), Value.pointer (some ⟨F, 0, none⟩), Value.pointer (some ⟨F, 5, none⟩), Value.slice (some ⟨g5, 0, none⟩) n n, Value.int .i64 (b : Nat), Value.pointer (some ⟨g5, b, none⟩), Value.int .i64 (av : Nat), Value.int .i64 ((av : Int) + 1), Value.pointer (some ⟨g7, b, none⟩), v0, v1, v2, v3, v4, v5, v6, v7, v8, v9, v10, v11, v12, u158], defers := [{ target := .collected D2, args := #[] }] } ∧ Hid (Rg14 (Wb.drew) ((Wb.setCell ⟨g4, av, none⟩ (.int .i64 (b : Nat))).drew) (Value.pointer (some ⟨F, 0, none⟩)) (Value.pointer (some ⟨F, 0, none⟩)) (Value.pointer (some ⟨F, 4, none⟩)) (Value.slice (some ⟨g4, 0, none⟩) m m) (Value.pointer (some ⟨F, 0, none⟩)) (Value.pointer (some ⟨F, 0, none⟩)) (Value.pointer (some ⟨F, 5, none⟩)) (Value.slice (some ⟨g5, 0, none⟩) n n) (Value.int .i64 (b : Nat)) (Value.pointer (some ⟨g5, b, none⟩)) (Value.int .i64 (av : Nat)) (Value.int .i64 (b : Nat)) (Value.pointer (some ⟨g4, av, none⟩)) d0 d1 d2 d3 d4 d5 d6 d7 d8 d9 d10 d11 d12 d13 v0 v1 v2 v3 v4 v5 v6 v7 v8 v9 v10 v11 v12 wx)) ?rstep ?rdone _ _ _ _ (Nat.le_of_eq (by kernel_rfl)) ?rinit
            case rstep =>
              rintro listed a wx ri ⟨d0, d1, d2, d3, d4, d5, d6, d7, d8, d9, d10, d11, d12, d13, rfl, v0, v1, v2, v3, v4, v5, v6, v7, v8, v9, v10, v11, v12, rfl, H⟩ hri
              obtain ⟨hi0, hi1, hi2⟩ := ready_mem hri
              clear hri
              have hi0 : ri < 14 := hi0
              have hcase : ri = 0 ∨ ri = 1 ∨ ri = 2 ∨ ri = 3 ∨ ri = 4 ∨ ri = 5 ∨ ri = 6 ∨ ri = 7 ∨ ri = 8 ∨ ri = 9 ∨ ri = 10 ∨ ri = 11 ∨ ri = 12 ∨ ri = 13 := by omega
              clear hi0
              rcases hcase with rfl | rfl | rfl | rfl | rfl | rfl | rfl | rfl | rfl | rfl | rfl | rfl | rfl | rfl
              all_goals (simp [Region.binds] at hi1 hi2)
              · obtain rfl : d0 = false := by simpa using hi1
                clear hi1
                have hL : d13 = false := by
                  rcases hq : d13 with _ | _
                  · rfl
                  · exact nomatch (H.out.oL hq).1
                obtain rfl := hL
                obtain rfl : wx = (Wb.drew) := H.out.cw
                refine wpOp_step rfl (fun K' hK => ?_)
                go_simp
                refine hK _ _ ?_
                exact ⟨true, d1, d2, d3, d4, d5, d6, d7, d8, d9, d10, d11, d12, false, rfl, _, _, _, _, _, _, _, _, _, _, _, _, _, rfl, ⟨H.out.cw, fun _ => rfl, H.out.c1, H.out.c2, H.out.c3, H.out.c4, H.out.c5, H.out.c6, H.out.c7, H.out.c8, H.out.c9, H.out.c10, H.out.c11, H.out.c12, (fun hd => nomatch hd)⟩⟩
              · obtain rfl : d1 = false := by simpa using hi1
                have e0 : d0 = true := by simp only [hi2]
                clear hi1 hi2
                subst e0
                have hL : d13 = false := by
                  rcases hq : d13 with _ | _
                  · rfl
                  · exact nomatch (H.out.oL hq).2.1
                obtain rfl := hL
                obtain rfl : wx = (Wb.drew) := H.out.cw
                obtain rfl := H.out.c0 rfl
                refine wpOp_step rfl (fun K' hK => ?_)
                go_simp
                refine hK _ _ ?_
                exact ⟨true, true, d2, d3, d4, d5, d6, d7, d8, d9, d10, d11, d12, false, rfl, _, _, _, _, _, _, _, _, _, _, _, _, _, rfl, ⟨H.out.cw, H.out.c0, fun _ => rfl, H.out.c2, H.out.c3, H.out.c4, H.out.c5, H.out.c6, H.out.c7, H.out.c8, H.out.c9, H.out.c10, H.out.c11, H.out.c12, (fun hd => nomatch hd)⟩⟩
              · obtain rfl : d2 = false := by simpa using hi1
                have e1 : d1 = true := by simp only [hi2]
                clear hi1 hi2
                subst e1
                have hL : d13 = false := by
                  rcases hq : d13 with _ | _
                  · rfl
                  · exact nomatch (H.out.oL hq).2.2.1
                obtain rfl := hL
                obtain rfl : wx = (Wb.drew) := H.out.cw
                obtain rfl := H.out.c1 rfl
                refine wpOp_step rfl (fun K' hK => ?_)
                go_simp
                refine hK _ _ ?_
                exact ⟨d0, true, true, d3, d4, d5, d6, d7, d8, d9, d10, d11, d12, false, rfl, _, _, _, _, _, _, _, _, _, _, _, _, _, rfl, ⟨H.out.cw, H.out.c0, H.out.c1, fun _ => rfl, H.out.c3, H.out.c4, H.out.c5, H.out.c6, H.out.c7, H.out.c8, H.out.c9, H.out.c10, H.out.c11, H.out.c12, (fun hd => nomatch hd)⟩⟩
              · obtain rfl : d3 = false := by simpa using hi1
                have e2 : d2 = true := by simp only [hi2]
                clear hi1 hi2
                subst e2
                have hL : d13 = false := by
                  rcases hq : d13 with _ | _
                  · rfl
                  · exact nomatch (H.out.oL hq).2.2.2.1
                obtain rfl := hL
                obtain rfl : wx = (Wb.drew) := H.out.cw
                obtain rfl := H.out.c2 rfl
                refine wpOp_step rfl (fun K' hK => ?_)
                go_simp
                refine hK _ _ ?_
                exact ⟨d0, d1, true, true, d4, d5, d6, d7, d8, d9, d10, d11, d12, false, rfl, _, _, _, _, _, _, _, _, _, _, _, _, _, rfl, ⟨H.out.cw, H.out.c0, H.out.c1, H.out.c2, fun _ => rfl, H.out.c4, H.out.c5, H.out.c6, H.out.c7, H.out.c8, H.out.c9, H.out.c10, H.out.c11, H.out.c12, (fun hd => nomatch hd)⟩⟩
              · obtain rfl : d4 = false := by simpa using hi1
                clear hi1
                have hL : d13 = false := by
                  rcases hq : d13 with _ | _
                  · rfl
                  · exact nomatch (H.out.oL hq).2.2.2.2.1
                obtain rfl := hL
                obtain rfl : wx = (Wb.drew) := H.out.cw
                refine wpOp_step rfl (fun K' hK => ?_)
                go_simp
                refine hK _ _ ?_
                exact ⟨d0, d1, d2, d3, true, d5, d6, d7, d8, d9, d10, d11, d12, false, rfl, _, _, _, _, _, _, _, _, _, _, _, _, _, rfl, ⟨H.out.cw, H.out.c0, H.out.c1, H.out.c2, H.out.c3, fun _ => rfl, H.out.c5, H.out.c6, H.out.c7, H.out.c8, H.out.c9, H.out.c10, H.out.c11, H.out.c12, (fun hd => nomatch hd)⟩⟩
              · obtain rfl : d5 = false := by simpa using hi1
                have e4 : d4 = true := by simp only [hi2]
                clear hi1 hi2
                subst e4
                have hL : d13 = false := by
                  rcases hq : d13 with _ | _
                  · rfl
                  · exact nomatch (H.out.oL hq).2.2.2.2.2.1
                obtain rfl := hL
                obtain rfl : wx = (Wb.drew) := H.out.cw
                obtain rfl := H.out.c4 rfl
                refine wpOp_step rfl (fun K' hK => ?_)
                go_simp
                refine hK _ _ ?_
                exact ⟨d0, d1, d2, d3, true, true, d6, d7, d8, d9, d10, d11, d12, false, rfl, _, _, _, _, _, _, _, _, _, _, _, _, _, rfl, ⟨H.out.cw, H.out.c0, H.out.c1, H.out.c2, H.out.c3, H.out.c4, fun _ => rfl, H.out.c6, H.out.c7, H.out.c8, H.out.c9, H.out.c10, H.out.c11, H.out.c12, (fun hd => nomatch hd)⟩⟩
              · obtain rfl : d6 = false := by simpa using hi1
                have e5 : d5 = true := by simp only [hi2]
                clear hi1 hi2
                subst e5
                have hL : d13 = false := by
                  rcases hq : d13 with _ | _
                  · rfl
                  · exact nomatch (H.out.oL hq).2.2.2.2.2.2.1
                obtain rfl := hL
                obtain rfl : wx = (Wb.drew) := H.out.cw
                obtain rfl := H.out.c5 rfl
                refine wpOp_step rfl (fun K' hK => ?_)
                go_simp
                refine hK _ _ ?_
                exact ⟨d0, d1, d2, d3, d4, true, true, d7, d8, d9, d10, d11, d12, false, rfl, _, _, _, _, _, _, _, _, _, _, _, _, _, rfl, ⟨H.out.cw, H.out.c0, H.out.c1, H.out.c2, H.out.c3, H.out.c4, H.out.c5, fun _ => rfl, H.out.c7, H.out.c8, H.out.c9, H.out.c10, H.out.c11, H.out.c12, (fun hd => nomatch hd)⟩⟩
              · obtain rfl : d7 = false := by simpa using hi1
                have e6 : d6 = true := by simp only [hi2]
                clear hi1 hi2
                subst e6
                have hL : d13 = false := by
                  rcases hq : d13 with _ | _
                  · rfl
                  · exact nomatch (H.out.oL hq).2.2.2.2.2.2.2.1
                obtain rfl := hL
                obtain rfl : wx = (Wb.drew) := H.out.cw
                obtain rfl := H.out.c6 rfl
                refine wpOp_step rfl (fun K' hK => ?_)
                go_simp
                refine hK _ _ ?_
                exact ⟨d0, d1, d2, d3, d4, d5, true, true, d8, d9, d10, d11, d12, false, rfl, _, _, _, _, _, _, _, _, _, _, _, _, _, rfl, ⟨H.out.cw, H.out.c0, H.out.c1, H.out.c2, H.out.c3, H.out.c4, H.out.c5, H.out.c6, fun _ => rfl, H.out.c8, H.out.c9, H.out.c10, H.out.c11, H.out.c12, (fun hd => nomatch hd)⟩⟩
              · obtain rfl : d8 = false := by simpa using hi1
                clear hi1
                have hL : d13 = false := by
                  rcases hq : d13 with _ | _
                  · rfl
                  · exact nomatch (H.out.oL hq).2.2.2.2.2.2.2.2.1
                obtain rfl := hL
                obtain rfl : wx = (Wb.drew) := H.out.cw
                refine wpOp_step rfl (fun K' hK => ?_)
                go_simp
                refine hK _ _ ?_
                exact ⟨d0, d1, d2, d3, d4, d5, d6, d7, true, d9, d10, d11, d12, false, rfl, _, _, _, _, _, _, _, _, _, _, _, _, _, rfl, ⟨H.out.cw, H.out.c0, H.out.c1, H.out.c2, H.out.c3, H.out.c4, H.out.c5, H.out.c6, H.out.c7, fun _ => rfl, H.out.c9, H.out.c10, H.out.c11, H.out.c12, (fun hd => nomatch hd)⟩⟩
              · obtain rfl : d9 = false := by simpa using hi1
                have e7 : d7 = true := by simp only [hi2]
                have e8 : d8 = true := by simp only [hi2]
                clear hi1 hi2
                subst e7
                subst e8
                have hL : d13 = false := by
                  rcases hq : d13 with _ | _
                  · rfl
                  · exact nomatch (H.out.oL hq).2.2.2.2.2.2.2.2.2.1
                obtain rfl := hL
                obtain rfl : wx = (Wb.drew) := H.out.cw
                obtain rfl := H.out.c7 rfl
                obtain rfl := H.out.c8 rfl
                refine wpOp_step rfl (fun K' hK => ?_)
                go_simp
                refine hK _ _ ?_
                exact ⟨d0, d1, d2, d3, d4, d5, d6, true, true, true, d10, d11, d12, false, rfl, _, _, _, _, _, _, _, _, _, _, _, _, _, rfl, ⟨H.out.cw, H.out.c0, H.out.c1, H.out.c2, H.out.c3, H.out.c4, H.out.c5, H.out.c6, H.out.c7, H.out.c8, fun _ => rfl, H.out.c10, H.out.c11, H.out.c12, (fun hd => nomatch hd)⟩⟩
              · obtain rfl : d10 = false := by simpa using hi1
                have e9 : d9 = true := by simp only [hi2]
                clear hi1 hi2
                subst e9
                have hL : d13 = false := by
                  rcases hq : d13 with _ | _
                  · rfl
                  · exact nomatch (H.out.oL hq).2.2.2.2.2.2.2.2.2.2.1
                obtain rfl := hL
                obtain rfl : wx = (Wb.drew) := H.out.cw
                obtain rfl := H.out.c9 rfl
                refine wpOp_step rfl (fun K' hK => ?_)
                go_simp
                refine hK _ _ ?_
                exact ⟨d0, d1, d2, d3, d4, d5, d6, d7, d8, true, true, d11, d12, false, rfl, _, _, _, _, _, _, _, _, _, _, _, _, _, rfl, ⟨H.out.cw, H.out.c0, H.out.c1, H.out.c2, H.out.c3, H.out.c4, H.out.c5, H.out.c6, H.out.c7, H.out.c8, H.out.c9, fun _ => rfl, H.out.c11, H.out.c12, (fun hd => nomatch hd)⟩⟩
              · obtain rfl : d11 = false := by simpa using hi1
                clear hi1
                have hL : d13 = false := by
                  rcases hq : d13 with _ | _
                  · rfl
                  · exact nomatch (H.out.oL hq).2.2.2.2.2.2.2.2.2.2.2.1
                obtain rfl := hL
                obtain rfl : wx = (Wb.drew) := H.out.cw
                refine wpOp_step rfl (fun K' hK => ?_)
                go_simp
                refine hK _ _ ?_
                exact ⟨d0, d1, d2, d3, d4, d5, d6, d7, d8, d9, d10, true, d12, false, rfl, _, _, _, _, _, _, _, _, _, _, _, _, _, rfl, ⟨H.out.cw, H.out.c0, H.out.c1, H.out.c2, H.out.c3, H.out.c4, H.out.c5, H.out.c6, H.out.c7, H.out.c8, H.out.c9, H.out.c10, fun _ => rfl, H.out.c12, (fun hd => nomatch hd)⟩⟩
              · obtain rfl : d12 = false := by simpa using hi1
                have e3 : d3 = true := by simp only [hi2]
                have e10 : d10 = true := by simp only [hi2]
                have e0 : d0 = true := by simp only [hi2]
                have e1 : d1 = true := by simp only [hi2]
                have e2 : d2 = true := by simp only [hi2]
                have e4 : d4 = true := by simp only [hi2]
                have e5 : d5 = true := by simp only [hi2]
                have e6 : d6 = true := by simp only [hi2]
                have e7 : d7 = true := by simp only [hi2]
                have e8 : d8 = true := by simp only [hi2]
                have e9 : d9 = true := by simp only [hi2]
                have e11 : d11 = true := by simp only [hi2]
                clear hi1 hi2
                subst e3
                subst e10
                subst e0
                subst e1
                subst e2
                subst e4
                subst e5
                subst e6
                subst e7
                subst e8
                subst e9
                subst e11
                have hL : d13 = false := by
                  rcases hq : d13 with _ | _
                  · rfl
                  · exact nomatch (H.out.oL hq).2.2.2.2.2.2.2.2.2.2.2.2
                obtain rfl := hL
                obtain rfl : wx = (Wb.drew) := H.out.cw
                obtain rfl := H.out.c3 rfl
                obtain rfl := H.out.c10 rfl
                refine wpOp_step rfl (fun K' hK => ?_)
                go_simp
                refine hK _ _ ?_
                exact ⟨true, true, true, true, true, true, true, true, true, true, true, true, true, false, rfl, _, _, _, _, _, _, _, _, _, _, _, _, _, rfl, ⟨H.out.cw, H.out.c0, H.out.c1, H.out.c2, H.out.c3, H.out.c4, H.out.c5, H.out.c6, H.out.c7, H.out.c8, H.out.c9, H.out.c10, H.out.c11, fun _ => rfl, (fun hd => nomatch hd)⟩⟩
              · obtain rfl : d13 = false := by simpa using hi1
                have e12 : d12 = true := by simp only [hi2]
                have e11 : d11 = true := by simp only [hi2]
                have e0 : d0 = true := by simp only [hi2]
                have e1 : d1 = true := by simp only [hi2]
                have e2 : d2 = true := by simp only [hi2]
                have e3 : d3 = true := by simp only [hi2]
                have e4 : d4 = true := by simp only [hi2]
                have e5 : d5 = true := by simp only [hi2]
                have e6 : d6 = true := by simp only [hi2]
                have e7 : d7 = true := by simp only [hi2]
                have e8 : d8 = true := by simp only [hi2]
                have e9 : d9 = true := by simp only [hi2]
                have e10 : d10 = true := by simp only [hi2]
                clear hi1 hi2
                subst e12
                subst e11
                subst e0
                subst e1
                subst e2
                subst e3
                subst e4
                subst e5
                subst e6
                subst e7
                subst e8
                subst e9
                subst e10
                obtain rfl : wx = (Wb.drew) := H.out.cw
                obtain rfl := H.out.c12 rfl
                obtain rfl := H.out.c11 rfl
                refine wpOp_step rfl (fun K' hK => ?_)
                go_simp
                skip
                refine hK _ _ ?_
                exact ⟨true, true, true, true, true, true, true, true, true, true, true, true, true, true, rfl, _, _, _, _, _, _, _, _, _, _, _, _, _, rfl, ⟨rfl, H.out.c0, H.out.c1, H.out.c2, H.out.c3, H.out.c4, H.out.c5, H.out.c6, H.out.c7, H.out.c8, H.out.c9, H.out.c10, H.out.c11, H.out.c12, fun _ => ⟨rfl, rfl, rfl, rfl, rfl, rfl, rfl, rfl, rfl, rfl, rfl, rfl, rfl⟩⟩⟩
            case rinit =>
              exact ⟨false, false, false, false, false, false, false, false, false, false, false, false, false, false, rfl, _, _, _, _, _, _, _, _, _, _, _, _, _, rfl, ⟨rfl, (fun hd => nomatch hd), (fun hd => nomatch hd), (fun hd => nomatch hd), (fun hd => nomatch hd), (fun hd => nomatch hd), (fun hd => nomatch hd), (fun hd => nomatch hd), (fun hd => nomatch hd), (fun hd => nomatch hd), (fun hd => nomatch hd), (fun hd => nomatch hd), (fun hd => nomatch hd), (fun hd => nomatch hd), (fun hd => nomatch hd)⟩⟩
            case rdone =>
              rintro listed a wx ⟨d0, d1, d2, d3, d4, d5, d6, d7, d8, d9, d10, d11, d12, d13, rfl, v0, v1, v2, v3, v4, v5, v6, v7, v8, v9, v10, v11, v12, rfl, H⟩ hr
              obtain rfl : d0 = true := by simpa using ready_none hr 0 (by decide) (by simp [Region.binds])
              obtain rfl : d1 = true := by simpa using ready_none hr 1 (by decide) (by simp [Region.binds])
              obtain rfl : d2 = true := by simpa using ready_none hr 2 (by decide) (by simp [Region.binds])
              obtain rfl : d3 = true := by simpa using ready_none hr 3 (by decide) (by simp [Region.binds])
              obtain rfl : d4 = true := by simpa using ready_none hr 4 (by decide) (by simp [Region.binds])
              obtain rfl : d5 = true := by simpa using ready_none hr 5 (by decide) (by simp [Region.binds])
              obtain rfl : d6 = true := by simpa using ready_none hr 6 (by decide) (by simp [Region.binds])
              obtain rfl : d7 = true := by simpa using ready_none hr 7 (by decide) (by simp [Region.binds])
              obtain rfl : d8 = true := by simpa using ready_none hr 8 (by decide) (by simp [Region.binds])
              obtain rfl : d9 = true := by simpa using ready_none hr 9 (by decide) (by simp [Region.binds])
              obtain rfl : d10 = true := by simpa using ready_none hr 10 (by decide) (by simp [Region.binds])
              obtain rfl : d11 = true := by simpa using ready_none hr 11 (by decide) (by simp [Region.binds])
              obtain rfl : d12 = true := by simpa using ready_none hr 12 (by decide) (by simp [Region.binds])
              obtain rfl : d13 = true := by simpa using ready_none hr 13 (by decide) (by simp [Region.binds])
              obtain rfl := H.out.c0 rfl
              obtain rfl := H.out.c1 rfl
              obtain rfl := H.out.c2 rfl
              obtain rfl := H.out.c3 rfl
              obtain rfl := H.out.c4 rfl
              obtain rfl := H.out.c5 rfl
              obtain rfl := H.out.c6 rfl
              obtain rfl := H.out.c7 rfl
              obtain rfl := H.out.c8 rfl
              obtain rfl := H.out.c9 rfl
              obtain rfl := H.out.c10 rfl
              obtain rfl := H.out.c11 rfl
              obtain rfl := H.out.c12 rfl
              obtain rfl : wx = ((Wb.setCell ⟨g4, av, none⟩ (.int .i64 (b : Nat))).drew) := H.out.cw
              clear hr H
              obtain ⟨Wc, hWc⟩ : ∃ Wc, Wc = (Wb.setCell ⟨g4, av, none⟩ (.int .i64 (b : Nat))).drew := ⟨_, rfl⟩
              rw [← hWc] at HP3 ⊢
              clear hWc pb pf4 pf5 k5 k4 k4f HP2
              have HR : Hid (NW o q (i + 1) (updN at' b av) (updN fr1 b (av + 1)) ∧ (∀ x, x ∈ o.take (i + 1) → A1 x = (updN at' b av x : Nat)) ∧ ∀ x, x ∉ o.take (i + 1) → A1 x = -1) := by
                refine ⟨HFN.out.1, fun x hx => ?_, fun x hx => (HFN.out.2.2 x fun e => hx ((mem_take_succ HGET.out x).2 (.inr e))).trans (HFW2.out.2.2 x fun h => hx ((mem_take_succ HGET.out x).2 (.inl h)))⟩
                by_cases e : x = b
                · subst e; rw [updN_same]; exact HAV.out
                · rw [updN_other _ _ e, HFN.out.2.2 x e]
                  refine HFW2.out.2.1 x ?_
                  rcases (mem_take_succ HGET.out x).1 hx with h | h
                  · exact h
                  · exact absurd h e
              go_wp2_with fail
              go_roundg gj
              case measure => omega
              case rel => exact ⟨i + 1, _, _, _, _, by go_num, by omega, HR, HP3⟩
          · have hi0z : ((i : Int) == 0) = false := by simp [hi0]
            have hi0I : ¬ ((i : Int) = 0) := by omega
            obtain ⟨c, hc⟩ : ∃ c, c = q b := ⟨_, rfl⟩
            have hmn2 := HMN.out
            obtain ⟨n1, n2, n3, n4, n5⟩ := NW.next HT.out HFW2.out.1 (by omega) hget
            have hub := HQQ.out b hbm n1
            rw [← hc] at n2 n3 n5 hub
            have hcm : c ∈ o := List.mem_of_mem_take n2
            have hcn : c < n := HLT.out c hcm
            have hcI : (c : Int) < (n : Int) := by omega
            have hcb : c ≠ b := by rw [hc]; exact HT.out.ne hbm n1
            have pu := pU b c hbn hub
            obtain ⟨k5, k5f⟩ := HP.out.r5.get hbn
            obtain ⟨k7, _⟩ := HP.out.r7.get hcn
            obtain ⟨av, hav⟩ : ∃ av, av = fr c := ⟨_, rfl⟩
            rw [← hav] at k7 n3 n5
            rw [← HNE.out, ← HMO.out] at n3
            rw [← HNE.out] at n4 n5
            have HPA : Hid (PS wc g4 g5 g6 g7 n m D2 N (fset A b (av : Nat)) fr tr (wr.setCell ⟨g5, b, none⟩ (.int .i64 (av : Nat))).drew) := (HP.out.setA hbn (av : Nat)).same rfl rfl rfl rfl
            have HUB : Hid (u b = some c) := hub
            have HFN5 : Hid (_) := n5
            have hNb : N b ≤ m := by omega
            have hNw : wrap64 ((N b : Nat) : Int) = ((N b : Nat) : Int) := wrap64_nat (by omega)
            have HAVC : Hid (av = fr c) := hav
            clear pU pO pF hub n2 n5 hcm hget hbm hc hav
            go_upto_region 14 with fail
            refine wp_region_any (by kernel_rfl) ?_
            refine wpAny_inv (fun listed a wx => ∃ d0 d1 d2 d3 d4 d5 d6 d7 d8 d9 d10 d11 d12 d13 d14 d15 d16 : Bool, listed = #[d0, d1, d2, d3, d4, d5, d6, d7, d8, d9, d10, d11, d12, d13, d14, d15, d16] ∧ ∃ v0 v1 v2 v3 v4 v5 v6 v7 v8 v9 v10 v11 v12 v13 v14 v15 : Value, a = { tmps := #[Value.pointer (some ⟨F, 0, none⟩), Value.pointer (some ⟨Bx, 0, none⟩), Value.int .i64 (n : Nat), undef, undef, Value.slice (some ⟨g7, 0, none⟩) n n, Value.int .i64 (i : Nat), Value.int .i64 (b : Nat), Value.pointer (some ⟨F, 0, none⟩), Value.pointer (some ⟨F, 0, none⟩), Value.pointer (some ⟨F, 0, none⟩), vA, Value.int .i64 (n : Nat), u13, u14, u15, u16, u17, u18, u19, u20, u21, u22, u23, u24, u25, u26, u27, u28, u29, u30, u31, u32, Value.pointer (some ⟨F, 0, none⟩), Value.pointer (some ⟨F, 0, none⟩), Value.pointer (some ⟨F, 2, none⟩), Value.slice (some ⟨go, oo, none⟩) m ko, Value.func (Fn.func 59) #[] #[Value.pointer (some ⟨B2, 0, none⟩)], undef, undef, undef, undef, undef, undef, undef, undef, undef, undef, undef, undef, undef, undef, undef, undef, undef, undef, undef, undef, undef, undef, undef, undef, undef, undef, undef, undef, undef, undef, undef, undef, undef, undef, undef, undef, undef, undef, undef, undef, undef, Value.int .i64 (n : Nat), Value.slice (some ⟨g7, 0, none⟩) n n, Value.pointer (some ⟨F, 0, none⟩), Value.pointer (some ⟨F, 0, none⟩), Value.pointer (some ⟨F, 2, none⟩), Value.slice (some ⟨go, oo, none⟩) m ko, Value.int .i64 (m : Nat), Value.int .i64 (i : Nat), Value.bool true, Value.int .i64 (i : Nat), Value.pointer (some ⟨go, oo + i, none⟩), Value.int .i64 (b : Nat), Value.int .i64 (i : Nat), Value.bool false, u93, u94, u95, u96, u97, u98, v0, v1, v2, v3, v4, v5, v6, v7, v8, v9, v10, v11, v12, v13, v14, v15, u115, u116, u117, u118, u119, u120, u121, u122, u123, u124, u125, u126, u127, u128, u129, u130, u131, u132, u133, u134, u135, u136, u137, u138, u139, u140, u141, u142, u143, u144, u145, u146, u147, u148, u149, u150, u151, u152, u153, u154, u155, u156, u157, u158], defers := [{ target := .collected D2, args := #[] }] } ∧ Hid (Rg17 (wr.drew) ((wr.setCell ⟨g5, b, none⟩ (.int .i64 (av : Nat))).drew) (Value.pointer (some ⟨F, 0, none⟩)) (Value.pointer (some ⟨F, 0, none⟩)) (Value.pointer (some ⟨F, 5, none⟩)) (Value.slice (some ⟨g5, 0, none⟩) n n) (Value.int .i64 (b : Nat)) (Value.slice (some ⟨g7, 0, none⟩) n n) (Value.pointer (some ⟨F, 0, none⟩)) (Value.pointer (some ⟨F, 0, none⟩)) (Value.pointer (some ⟨F, 3, none⟩)) (Value.slice (some ⟨gu, 0, none⟩) n n) (Value.int .i64 (b : Nat)) (Value.pointer (some ⟨gu, b, none⟩)) (Value.int .i64 (c : Nat)) (Value.pointer (some ⟨g7, c, none⟩)) (Value.int .i64 (av : Nat)) (Value.pointer (some ⟨g5, b, none⟩)) d0 d1 d2 d3 d4 d5 d6 d7 d8 d9 d10 d11 d12 d13 d14 d15 d16 v0 v1 v2 v3 v4 v5 v6 v7 v8 v9 v10 v11 v12 v13 v14 v15 wx)) ?rstep ?rdone _ _ _ _ (Nat.le_of_eq (by kernel_rfl)) ?rinit
            case rstep =>
              rintro listed a wx ri ⟨d0, d1, d2, d3, d4, d5, d6, d7, d8, d9, d10, d11, d12, d13, d14, d15, d16, rfl, v0, v1, v2, v3, v4, v5, v6, v7, v8, v9, v10, v11, v12, v13, v14, v15, rfl, H⟩ hri
              obtain ⟨hi0, hi1, hi2⟩ := ready_mem hri
              clear hri
              have hi0 : ri < 17 := hi0
              have hcase : ri = 0 ∨ ri = 1 ∨ ri = 2 ∨ ri = 3 ∨ ri = 4 ∨ ri = 5 ∨ ri = 6 ∨ ri = 7 ∨ ri = 8 ∨ ri = 9 ∨ ri = 10 ∨ ri = 11 ∨ ri = 12 ∨ ri = 13 ∨ ri = 14 ∨ ri = 15 ∨ ri = 16 := by omega
              clear hi0
              rcases hcase with rfl | rfl | rfl | rfl | rfl | rfl | rfl | rfl | rfl | rfl | rfl | rfl | rfl | rfl | rfl | rfl | rfl
              all_goals (simp [Region.binds] at hi1 hi2)
              · obtain rfl : d0 = false := by simpa using hi1
                clear hi1
                have hL : d16 = false := by
                  rcases hq : d16 with _ | _
                  · rfl
                  · exact nomatch (H.out.oL hq).1
                obtain rfl := hL
                obtain rfl : wx = (wr.drew) := H.out.cw
                refine wpOp_step rfl (fun K' hK => ?_)
                go_simp
                refine hK _ _ ?_
                exact ⟨true, d1, d2, d3, d4, d5, d6, d7, d8, d9, d10, d11, d12, d13, d14, d15, false, rfl, _, _, _, _, _, _, _, _, _, _, _, _, _, _, _, _, rfl, ⟨H.out.cw, fun _ => rfl, H.out.c1, H.out.c2, H.out.c3, H.out.c4, H.out.c5, H.out.c6, H.out.c7, H.out.c8, H.out.c9, H.out.c10, H.out.c11, H.out.c12, H.out.c13, H.out.c14, H.out.c15, (fun hd => nomatch hd)⟩⟩
              · obtain rfl : d1 = false := by simpa using hi1
                have e0 : d0 = true := by simp only [hi2]
                clear hi1 hi2
                subst e0
                have hL : d16 = false := by
                  rcases hq : d16 with _ | _
                  · rfl
                  · exact nomatch (H.out.oL hq).2.1
                obtain rfl := hL
                obtain rfl : wx = (wr.drew) := H.out.cw
                obtain rfl := H.out.c0 rfl
                refine wpOp_step rfl (fun K' hK => ?_)
                go_simp
                refine hK _ _ ?_
                exact ⟨true, true, d2, d3, d4, d5, d6, d7, d8, d9, d10, d11, d12, d13, d14, d15, false, rfl, _, _, _, _, _, _, _, _, _, _, _, _, _, _, _, _, rfl, ⟨H.out.cw, H.out.c0, fun _ => rfl, H.out.c2, H.out.c3, H.out.c4, H.out.c5, H.out.c6, H.out.c7, H.out.c8, H.out.c9, H.out.c10, H.out.c11, H.out.c12, H.out.c13, H.out.c14, H.out.c15, (fun hd => nomatch hd)⟩⟩
              · obtain rfl : d2 = false := by simpa using hi1
                have e1 : d1 = true := by simp only [hi2]
                clear hi1 hi2
                subst e1
                have hL : d16 = false := by
                  rcases hq : d16 with _ | _
                  · rfl
                  · exact nomatch (H.out.oL hq).2.2.1
                obtain rfl := hL
                obtain rfl : wx = (wr.drew) := H.out.cw
                obtain rfl := H.out.c1 rfl
                refine wpOp_step rfl (fun K' hK => ?_)
                go_simp
                refine hK _ _ ?_
                exact ⟨d0, true, true, d3, d4, d5, d6, d7, d8, d9, d10, d11, d12, d13, d14, d15, false, rfl, _, _, _, _, _, _, _, _, _, _, _, _, _, _, _, _, rfl, ⟨H.out.cw, H.out.c0, H.out.c1, fun _ => rfl, H.out.c3, H.out.c4, H.out.c5, H.out.c6, H.out.c7, H.out.c8, H.out.c9, H.out.c10, H.out.c11, H.out.c12, H.out.c13, H.out.c14, H.out.c15, (fun hd => nomatch hd)⟩⟩
              · obtain rfl : d3 = false := by simpa using hi1
                have e2 : d2 = true := by simp only [hi2]
                clear hi1 hi2
                subst e2
                have hL : d16 = false := by
                  rcases hq : d16 with _ | _
                  · rfl
                  · exact nomatch (H.out.oL hq).2.2.2.1
                obtain rfl := hL
                obtain rfl : wx = (wr.drew) := H.out.cw
                obtain rfl := H.out.c2 rfl
                refine wpOp_step rfl (fun K' hK => ?_)
                go_simp
                refine hK _ _ ?_
                exact ⟨d0, d1, true, true, d4, d5, d6, d7, d8, d9, d10, d11, d12, d13, d14, d15, false, rfl, _, _, _, _, _, _, _, _, _, _, _, _, _, _, _, _, rfl, ⟨H.out.cw, H.out.c0, H.out.c1, H.out.c2, fun _ => rfl, H.out.c4, H.out.c5, H.out.c6, H.out.c7, H.out.c8, H.out.c9, H.out.c10, H.out.c11, H.out.c12, H.out.c13, H.out.c14, H.out.c15, (fun hd => nomatch hd)⟩⟩
              · obtain rfl : d4 = false := by simpa using hi1
                clear hi1
                have hL : d16 = false := by
                  rcases hq : d16 with _ | _
                  · rfl
                  · exact nomatch (H.out.oL hq).2.2.2.2.1
                obtain rfl := hL
                obtain rfl : wx = (wr.drew) := H.out.cw
                refine wpOp_step rfl (fun K' hK => ?_)
                go_simp
                refine hK _ _ ?_
                exact ⟨d0, d1, d2, d3, true, d5, d6, d7, d8, d9, d10, d11, d12, d13, d14, d15, false, rfl, _, _, _, _, _, _, _, _, _, _, _, _, _, _, _, _, rfl, ⟨H.out.cw, H.out.c0, H.out.c1, H.out.c2, H.out.c3, fun _ => rfl, H.out.c5, H.out.c6, H.out.c7, H.out.c8, H.out.c9, H.out.c10, H.out.c11, H.out.c12, H.out.c13, H.out.c14, H.out.c15, (fun hd => nomatch hd)⟩⟩
              · obtain rfl : d5 = false := by simpa using hi1
                clear hi1
                have hL : d16 = false := by
                  rcases hq : d16 with _ | _
                  · rfl
                  · exact nomatch (H.out.oL hq).2.2.2.2.2.1
                obtain rfl := hL
                obtain rfl : wx = (wr.drew) := H.out.cw
                refine wpOp_step rfl (fun K' hK => ?_)
                go_simp
                refine hK _ _ ?_
                exact ⟨d0, d1, d2, d3, d4, true, d6, d7, d8, d9, d10, d11, d12, d13, d14, d15, false, rfl, _, _, _, _, _, _, _, _, _, _, _, _, _, _, _, _, rfl, ⟨H.out.cw, H.out.c0, H.out.c1, H.out.c2, H.out.c3, H.out.c4, fun _ => rfl, H.out.c6, H.out.c7, H.out.c8, H.out.c9, H.out.c10, H.out.c11, H.out.c12, H.out.c13, H.out.c14, H.out.c15, (fun hd => nomatch hd)⟩⟩
              · obtain rfl : d6 = false := by simpa using hi1
                clear hi1
                have hL : d16 = false := by
                  rcases hq : d16 with _ | _
                  · rfl
                  · exact nomatch (H.out.oL hq).2.2.2.2.2.2.1
                obtain rfl := hL
                obtain rfl : wx = (wr.drew) := H.out.cw
                refine wpOp_step rfl (fun K' hK => ?_)
                go_simp
                refine hK _ _ ?_
                exact ⟨d0, d1, d2, d3, d4, d5, true, d7, d8, d9, d10, d11, d12, d13, d14, d15, false, rfl, _, _, _, _, _, _, _, _, _, _, _, _, _, _, _, _, rfl, ⟨H.out.cw, H.out.c0, H.out.c1, H.out.c2, H.out.c3, H.out.c4, H.out.c5, fun _ => rfl, H.out.c7, H.out.c8, H.out.c9, H.out.c10, H.out.c11, H.out.c12, H.out.c13, H.out.c14, H.out.c15, (fun hd => nomatch hd)⟩⟩
              · obtain rfl : d7 = false := by simpa using hi1
                have e6 : d6 = true := by simp only [hi2]
                clear hi1 hi2
                subst e6
                have hL : d16 = false := by
                  rcases hq : d16 with _ | _
                  · rfl
                  · exact nomatch (H.out.oL hq).2.2.2.2.2.2.2.1
                obtain rfl := hL
                obtain rfl : wx = (wr.drew) := H.out.cw
                obtain rfl := H.out.c6 rfl
                refine wpOp_step rfl (fun K' hK => ?_)
                go_simp
                refine hK _ _ ?_
                exact ⟨d0, d1, d2, d3, d4, d5, true, true, d8, d9, d10, d11, d12, d13, d14, d15, false, rfl, _, _, _, _, _, _, _, _, _, _, _, _, _, _, _, _, rfl, ⟨H.out.cw, H.out.c0, H.out.c1, H.out.c2, H.out.c3, H.out.c4, H.out.c5, H.out.c6, fun _ => rfl, H.out.c8, H.out.c9, H.out.c10, H.out.c11, H.out.c12, H.out.c13, H.out.c14, H.out.c15, (fun hd => nomatch hd)⟩⟩
              · obtain rfl : d8 = false := by simpa using hi1
                have e7 : d7 = true := by simp only [hi2]
                clear hi1 hi2
                subst e7
                have hL : d16 = false := by
                  rcases hq : d16 with _ | _
                  · rfl
                  · exact nomatch (H.out.oL hq).2.2.2.2.2.2.2.2.1
                obtain rfl := hL
                obtain rfl : wx = (wr.drew) := H.out.cw
                obtain rfl := H.out.c7 rfl
                refine wpOp_step rfl (fun K' hK => ?_)
                go_simp
                refine hK _ _ ?_
                exact ⟨d0, d1, d2, d3, d4, d5, d6, true, true, d9, d10, d11, d12, d13, d14, d15, false, rfl, _, _, _, _, _, _, _, _, _, _, _, _, _, _, _, _, rfl, ⟨H.out.cw, H.out.c0, H.out.c1, H.out.c2, H.out.c3, H.out.c4, H.out.c5, H.out.c6, H.out.c7, fun _ => rfl, H.out.c9, H.out.c10, H.out.c11, H.out.c12, H.out.c13, H.out.c14, H.out.c15, (fun hd => nomatch hd)⟩⟩
              · obtain rfl : d9 = false := by simpa using hi1
                have e8 : d8 = true := by simp only [hi2]
                clear hi1 hi2
                subst e8
                have hL : d16 = false := by
                  rcases hq : d16 with _ | _
                  · rfl
                  · exact nomatch (H.out.oL hq).2.2.2.2.2.2.2.2.2.1
                obtain rfl := hL
                obtain rfl : wx = (wr.drew) := H.out.cw
                obtain rfl := H.out.c8 rfl
                refine wpOp_step rfl (fun K' hK => ?_)
                go_simp
                refine hK _ _ ?_
                exact ⟨d0, d1, d2, d3, d4, d5, d6, d7, true, true, d10, d11, d12, d13, d14, d15, false, rfl, _, _, _, _, _, _, _, _, _, _, _, _, _, _, _, _, rfl, ⟨H.out.cw, H.out.c0, H.out.c1, H.out.c2, H.out.c3, H.out.c4, H.out.c5, H.out.c6, H.out.c7, H.out.c8, fun _ => rfl, H.out.c10, H.out.c11, H.out.c12, H.out.c13, H.out.c14, H.out.c15, (fun hd => nomatch hd)⟩⟩
              · obtain rfl : d10 = false := by simpa using hi1
                clear hi1
                have hL : d16 = false := by
                  rcases hq : d16 with _ | _
                  · rfl
                  · exact nomatch (H.out.oL hq).2.2.2.2.2.2.2.2.2.2.1
                obtain rfl := hL
                obtain rfl : wx = (wr.drew) := H.out.cw
                refine wpOp_step rfl (fun K' hK => ?_)
                go_simp
                refine hK _ _ ?_
                exact ⟨d0, d1, d2, d3, d4, d5, d6, d7, d8, d9, true, d11, d12, d13, d14, d15, false, rfl, _, _, _, _, _, _, _, _, _, _, _, _, _, _, _, _, rfl, ⟨H.out.cw, H.out.c0, H.out.c1, H.out.c2, H.out.c3, H.out.c4, H.out.c5, H.out.c6, H.out.c7, H.out.c8, H.out.c9, fun _ => rfl, H.out.c11, H.out.c12, H.out.c13, H.out.c14, H.out.c15, (fun hd => nomatch hd)⟩⟩
              · obtain rfl : d11 = false := by simpa using hi1
                have e9 : d9 = true := by simp only [hi2]
                have e10 : d10 = true := by simp only [hi2]
                clear hi1 hi2
                subst e9
                subst e10
                have hL : d16 = false := by
                  rcases hq : d16 with _ | _
                  · rfl
                  · exact nomatch (H.out.oL hq).2.2.2.2.2.2.2.2.2.2.2.1
                obtain rfl := hL
                obtain rfl : wx = (wr.drew) := H.out.cw
                obtain rfl := H.out.c9 rfl
                obtain rfl := H.out.c10 rfl
                refine wpOp_step rfl (fun K' hK => ?_)
                go_simp
                refine hK _ _ ?_
                exact ⟨d0, d1, d2, d3, d4, d5, d6, d7, d8, true, true, true, d12, d13, d14, d15, false, rfl, _, _, _, _, _, _, _, _, _, _, _, _, _, _, _, _, rfl, ⟨H.out.cw, H.out.c0, H.out.c1, H.out.c2, H.out.c3, H.out.c4, H.out.c5, H.out.c6, H.out.c7, H.out.c8, H.out.c9, H.out.c10, fun _ => rfl, H.out.c12, H.out.c13, H.out.c14, H.out.c15, (fun hd => nomatch hd)⟩⟩
              · obtain rfl : d12 = false := by simpa using hi1
                have e11 : d11 = true := by simp only [hi2]
                clear hi1 hi2
                subst e11
                have hL : d16 = false := by
                  rcases hq : d16 with _ | _
                  · rfl
                  · exact nomatch (H.out.oL hq).2.2.2.2.2.2.2.2.2.2.2.2.1
                obtain rfl := hL
                obtain rfl : wx = (wr.drew) := H.out.cw
                obtain rfl := H.out.c11 rfl
                refine wpOp_step rfl (fun K' hK => ?_)
                go_simp
                refine hK _ _ ?_
                exact ⟨d0, d1, d2, d3, d4, d5, d6, d7, d8, d9, d10, true, true, d13, d14, d15, false, rfl, _, _, _, _, _, _, _, _, _, _, _, _, _, _, _, _, rfl, ⟨H.out.cw, H.out.c0, H.out.c1, H.out.c2, H.out.c3, H.out.c4, H.out.c5, H.out.c6, H.out.c7, H.out.c8, H.out.c9, H.out.c10, H.out.c11, fun _ => rfl, H.out.c13, H.out.c14, H.out.c15, (fun hd => nomatch hd)⟩⟩
              · obtain rfl : d13 = false := by simpa using hi1
                have e5 : d5 = true := by simp only [hi2]
                have e12 : d12 = true := by simp only [hi2]
                clear hi1 hi2
                subst e5
                subst e12
                have hL : d16 = false := by
                  rcases hq : d16 with _ | _
                  · rfl
                  · exact nomatch (H.out.oL hq).2.2.2.2.2.2.2.2.2.2.2.2.2.1
                obtain rfl := hL
                obtain rfl : wx = (wr.drew) := H.out.cw
                obtain rfl := H.out.c5 rfl
                obtain rfl := H.out.c12 rfl
                refine wpOp_step rfl (fun K' hK => ?_)
                go_simp
                refine hK _ _ ?_
                exact ⟨d0, d1, d2, d3, d4, true, d6, d7, d8, d9, d10, d11, true, true, d14, d15, false, rfl, _, _, _, _, _, _, _, _, _, _, _, _, _, _, _, _, rfl, ⟨H.out.cw, H.out.c0, H.out.c1, H.out.c2, H.out.c3, H.out.c4, H.out.c5, H.out.c6, H.out.c7, H.out.c8, H.out.c9, H.out.c10, H.out.c11, H.out.c12, fun _ => rfl, H.out.c14, H.out.c15, (fun hd => nomatch hd)⟩⟩
              · obtain rfl : d14 = false := by simpa using hi1
                have e13 : d13 = true := by simp only [hi2]
                clear hi1 hi2
                subst e13
                have hL : d16 = false := by
                  rcases hq : d16 with _ | _
                  · rfl
                  · exact nomatch (H.out.oL hq).2.2.2.2.2.2.2.2.2.2.2.2.2.2.1
                obtain rfl := hL
                obtain rfl : wx = (wr.drew) := H.out.cw
                obtain rfl := H.out.c13 rfl
                refine wpOp_step rfl (fun K' hK => ?_)
                go_simp
                refine hK _ _ ?_
                exact ⟨d0, d1, d2, d3, d4, d5, d6, d7, d8, d9, d10, d11, d12, true, true, d15, false, rfl, _, _, _, _, _, _, _, _, _, _, _, _, _, _, _, _, rfl, ⟨H.out.cw, H.out.c0, H.out.c1, H.out.c2, H.out.c3, H.out.c4, H.out.c5, H.out.c6, H.out.c7, H.out.c8, H.out.c9, H.out.c10, H.out.c11, H.out.c12, H.out.c13, fun _ => rfl, H.out.c15, (fun hd => nomatch hd)⟩⟩
              · obtain rfl : d15 = false := by simpa using hi1
                have e3 : d3 = true := by simp only [hi2]
                have e4 : d4 = true := by simp only [hi2]
                have e0 : d0 = true := by simp only [hi2]
                have e1 : d1 = true := by simp only [hi2]
                have e2 : d2 = true := by simp only [hi2]
                have e5 : d5 = true := by simp only [hi2]
                have e6 : d6 = true := by simp only [hi2]
                have e7 : d7 = true := by simp only [hi2]
                have e8 : d8 = true := by simp only [hi2]
                have e9 : d9 = true := by simp only [hi2]
                have e10 : d10 = true := by simp only [hi2]
                have e11 : d11 = true := by simp only [hi2]
                have e12 : d12 = true := by simp only [hi2]
                have e13 : d13 = true := by simp only [hi2]
                have e14 : d14 = true := by simp only [hi2]
                clear hi1 hi2
                subst e3
                subst e4
                subst e0
                subst e1
                subst e2
                subst e5
                subst e6
                subst e7
                subst e8
                subst e9
                subst e10
                subst e11
                subst e12
                subst e13
                subst e14
                have hL : d16 = false := by
                  rcases hq : d16 with _ | _
                  · rfl
                  · exact nomatch (H.out.oL hq).2.2.2.2.2.2.2.2.2.2.2.2.2.2.2
                obtain rfl := hL
                obtain rfl : wx = (wr.drew) := H.out.cw
                obtain rfl := H.out.c3 rfl
                obtain rfl := H.out.c4 rfl
                refine wpOp_step rfl (fun K' hK => ?_)
                go_simp
                refine hK _ _ ?_
                exact ⟨true, true, true, true, true, true, true, true, true, true, true, true, true, true, true, true, false, rfl, _, _, _, _, _, _, _, _, _, _, _, _, _, _, _, _, rfl, ⟨H.out.cw, H.out.c0, H.out.c1, H.out.c2, H.out.c3, H.out.c4, H.out.c5, H.out.c6, H.out.c7, H.out.c8, H.out.c9, H.out.c10, H.out.c11, H.out.c12, H.out.c13, H.out.c14, fun _ => rfl, (fun hd => nomatch hd)⟩⟩
              · obtain rfl : d16 = false := by simpa using hi1
                have e15 : d15 = true := by simp only [hi2]
                have e14 : d14 = true := by simp only [hi2]
                have e0 : d0 = true := by simp only [hi2]
                have e1 : d1 = true := by simp only [hi2]
                have e2 : d2 = true := by simp only [hi2]
                have e3 : d3 = true := by simp only [hi2]
                have e4 : d4 = true := by simp only [hi2]
                have e5 : d5 = true := by simp only [hi2]
                have e6 : d6 = true := by simp only [hi2]
                have e7 : d7 = true := by simp only [hi2]
                have e8 : d8 = true := by simp only [hi2]
                have e9 : d9 = true := by simp only [hi2]
                have e10 : d10 = true := by simp only [hi2]
                have e11 : d11 = true := by simp only [hi2]
                have e12 : d12 = true := by simp only [hi2]
                have e13 : d13 = true := by simp only [hi2]
                clear hi1 hi2
                subst e15
                subst e14
                subst e0
                subst e1
                subst e2
                subst e3
                subst e4
                subst e5
                subst e6
                subst e7
                subst e8
                subst e9
                subst e10
                subst e11
                subst e12
                subst e13
                obtain rfl : wx = (wr.drew) := H.out.cw
                obtain rfl := H.out.c15 rfl
                obtain rfl := H.out.c14 rfl
                refine wpOp_step rfl (fun K' hK => ?_)
                go_simp
                skip
                refine hK _ _ ?_
                exact ⟨true, true, true, true, true, true, true, true, true, true, true, true, true, true, true, true, true, rfl, _, _, _, _, _, _, _, _, _, _, _, _, _, _, _, _, rfl, ⟨rfl, H.out.c0, H.out.c1, H.out.c2, H.out.c3, H.out.c4, H.out.c5, H.out.c6, H.out.c7, H.out.c8, H.out.c9, H.out.c10, H.out.c11, H.out.c12, H.out.c13, H.out.c14, H.out.c15, fun _ => ⟨rfl, rfl, rfl, rfl, rfl, rfl, rfl, rfl, rfl, rfl, rfl, rfl, rfl, rfl, rfl, rfl⟩⟩⟩
            case rinit =>
              exact ⟨false, false, false, false, false, false, false, false, false, false, false, false, false, false, false, false, false, rfl, _, _, _, _, _, _, _, _, _, _, _, _, _, _, _, _, rfl, ⟨rfl, (fun hd => nomatch hd), (fun hd => nomatch hd), (fun hd => nomatch hd), (fun hd => nomatch hd), (fun hd => nomatch hd), (fun hd => nomatch hd), (fun hd => nomatch hd), (fun hd => nomatch hd), (fun hd => nomatch hd), (fun hd => nomatch hd), (fun hd => nomatch hd), (fun hd => nomatch hd), (fun hd => nomatch hd), (fun hd => nomatch hd), (fun hd => nomatch hd), (fun hd => nomatch hd), (fun hd => nomatch hd)⟩⟩
            case rdone =>
              rintro listed a wx ⟨d0, d1, d2, d3, d4, d5, d6, d7, d8, d9, d10, d11, d12, d13, d14, d15, d16, rfl, v0, v1, v2, v3, v4, v5, v6, v7, v8, v9, v10, v11, v12, v13, v14, v15, rfl, H⟩ hr
              obtain rfl : d0 = true := by simpa using ready_none hr 0 (by decide) (by simp [Region.binds])
              obtain rfl : d1 = true := by simpa using ready_none hr 1 (by decide) (by simp [Region.binds])
              obtain rfl : d2 = true := by simpa using ready_none hr 2 (by decide) (by simp [Region.binds])
              obtain rfl : d3 = true := by simpa using ready_none hr 3 (by decide) (by simp [Region.binds])
              obtain rfl : d4 = true := by simpa using ready_none hr 4 (by decide) (by simp [Region.binds])
              obtain rfl : d5 = true := by simpa using ready_none hr 5 (by decide) (by simp [Region.binds])
              obtain rfl : d6 = true := by simpa using ready_none hr 6 (by decide) (by simp [Region.binds])
              obtain rfl : d7 = true := by simpa using ready_none hr 7 (by decide) (by simp [Region.binds])
              obtain rfl : d8 = true := by simpa using ready_none hr 8 (by decide) (by simp [Region.binds])
              obtain rfl : d9 = true := by simpa using ready_none hr 9 (by decide) (by simp [Region.binds])
              obtain rfl : d10 = true := by simpa using ready_none hr 10 (by decide) (by simp [Region.binds])
              obtain rfl : d11 = true := by simpa using ready_none hr 11 (by decide) (by simp [Region.binds])
              obtain rfl : d12 = true := by simpa using ready_none hr 12 (by decide) (by simp [Region.binds])
              obtain rfl : d13 = true := by simpa using ready_none hr 13 (by decide) (by simp [Region.binds])
              obtain rfl : d14 = true := by simpa using ready_none hr 14 (by decide) (by simp [Region.binds])
              obtain rfl : d15 = true := by simpa using ready_none hr 15 (by decide) (by simp [Region.binds])
              obtain rfl : d16 = true := by simpa using ready_none hr 16 (by decide) (by simp [Region.binds])
              obtain rfl := H.out.c0 rfl
              obtain rfl := H.out.c1 rfl
              obtain rfl := H.out.c2 rfl
              obtain rfl := H.out.c3 rfl
              obtain rfl := H.out.c4 rfl
              obtain rfl := H.out.c5 rfl
              obtain rfl := H.out.c6 rfl
              obtain rfl := H.out.c7 rfl
              obtain rfl := H.out.c8 rfl
              obtain rfl := H.out.c9 rfl
              obtain rfl := H.out.c10 rfl
              obtain rfl := H.out.c11 rfl
              obtain rfl := H.out.c12 rfl
              obtain rfl := H.out.c13 rfl
              obtain rfl := H.out.c14 rfl
              obtain rfl := H.out.c15 rfl
              obtain rfl : wx = ((wr.setCell ⟨g5, b, none⟩ (.int .i64 (av : Nat))).drew) := H.out.cw
              clear hr H
              obtain ⟨Wx, hWx⟩ : ∃ Wx, Wx = (wr.setCell ⟨g5, b, none⟩ (.int .i64 (av : Nat))).drew := ⟨_, rfl⟩
              rw [← hWx] at HPA ⊢
              clear hWx pb pf2 pf3 pf4 pf5 pf6 po pu k5 k5f k7
              obtain ⟨pb, pF, pU, _⟩ := HX.out Wx HPA.out.ag
              obtain ⟨_, _, _, pf3, _, _, pf6⟩ := cells7 pF
              rw [HVU.out] at pf3
              have pu := pU b c hbn HUB.out
              obtain ⟨k7, k7f⟩ := HPA.out.r7.get hcn
              rw [← HAVC.out] at k7
              obtain ⟨k6, _⟩ := HPA.out.r6.get hbn
              rw [hNw] at k6
              obtain ⟨nb, hnb⟩ : ∃ nb, nb = N b := ⟨_, rfl⟩
              rw [← hnb] at k6 hNb n3 n4
              have HNBE : Hid (nb = N b) := hnb
              clear hnb
              have hws2 : Hid (IntKind.i64.wrap ((av : Int) + (nb : Int)) = (av : Int) + (nb : Int)) := by unfold Hid; rw [wrap_64]; exact wrap64_two' (by omega)
              have hse : (av : Int) + (nb : Int) = ((av + nb : Nat) : Int) := by omega
              have HPB : Hid (PS wc g4 g5 g6 g7 n m D2 N (fset A b (av : Nat)) (updN fr c (av + nb)) tr (Wx.setCell ⟨g7, c, none⟩ (.int .i64 (IntKind.i64.wrap ((av : Int) + (nb : Int))))).drew) := by
                unfold Hid; rw [hws2.out, hse]; exact (HPA.out.setF hcn (av + nb)).same rfl rfl rfl rfl
              clear hse pU pF hNw
              go_upto_region 15 with fail
              refine wp_region_any (by kernel_rfl) ?_
              refine wpAny_inv (fun listed a wx => ∃ d0 d1 d2 d3 d4 d5 d6 d7 d8 d9 d10 d11 d12 d13 d14 d15 d16 d17 d18 d19 : Bool, listed = #[d0, d1, d2, d3, d4, d5, d6, d7, d8, d9, d10, d11, d12, d13, d14, d15, d16, d17, d18, d19] ∧ ∃ v0 v1 v2 v3 v4 v5 v6 v7 v8 v9 v10 v11 v12 v13 v14 v15 v16 v17 v18 : Value, a = { tmps := #[Value.pointer (some ⟨F, 0, none⟩), Value.pointer (some ⟨Bx, 0, none⟩), Value.int .i64 (n : Nat), undef, undef, Value.slice (some ⟨g7, 0, none⟩) n n, Value.int .i64 (i : Nat), Value.int .i64 (b : Nat), Value.pointer (some ⟨F, 0, none⟩), Value.pointer (some ⟨F, 0, none⟩), Value.pointer (some ⟨F, 0, none⟩), vA, Value.int .i64 (n : Nat), u13, u14, u15, u16, u17, u18, u19, u20, u21, u22, u23, u24, u25, u26, u27, u28, u29, u30, u31, u32, Value.pointer (some ⟨F, 0, none⟩), Value.pointer (some ⟨F, 0, none⟩), Value.pointer (some ⟨F, 2, none⟩), Value.slice (some ⟨go, oo, none⟩) m ko, Value.func (Fn.func 59) #[] #[Value.pointer (some ⟨B2, 0, none⟩)], undef, undef, undef, undef, undef, undef, undef, undef, undef, undef, undef, undef, undef, undef, undef, undef, undef, undef, undef, undef, undef, undef, undef, undef, undef, undef, undef, undef, undef, undef, undef, undef, undef, undef, undef, undef, undef, undef, undef, undef, undef, Value.int .i64 (n : Nat), Value.slice (some ⟨g7, 0, none⟩) n n, Value.pointer (some ⟨F, 0, none⟩), Value.pointer (some ⟨F, 0, none⟩), Value.pointer (some ⟨F, 2, none⟩), Value.slice (some ⟨go, oo, none⟩) m ko, Value.int .i64 (m : Nat), Value.int .i64 (i : Nat), Value.bool true, Value.int .i64 (i : Nat), Value.pointer (some ⟨go, oo + i, none⟩), Value.int .i64 (b : Nat), Value.int .i64 (i : Nat), Value.bool false, u93, u94, u95, u96, u97, u98, Value.pointer (some ⟨F, 0, none⟩), Value.pointer (some ⟨F, 0, none⟩), Value.pointer (some ⟨F, 5, none⟩), Value.slice (some ⟨g5, 0, none⟩) n n, Value.int .i64 (b : Nat), Value.slice (some ⟨g7, 0, none⟩) n n, Value.pointer (some ⟨F, 0, none⟩), Value.pointer (some ⟨F, 0, none⟩), Value.pointer (some ⟨F, 3, none⟩), Value.slice (some ⟨gu, 0, none⟩) n n, Value.int .i64 (b : Nat), Value.pointer (some ⟨gu, b, none⟩), Value.int .i64 (c : Nat), Value.pointer (some ⟨g7, c, none⟩), Value.int .i64 (av : Nat), Value.pointer (some ⟨g5, b, none⟩), v0, v1, v2, v3, v4, v5, v6, v7, v8, v9, v10, v11, v12, v13, v14, v15, v16, v17, v18, u134, u135, u136, u137, u138, u139, u140, u141, u142, u143, u144, u145, u146, u147, u148, u149, u150, u151, u152, u153, u154, u155, u156, u157, u158], defers := [{ target := .collected D2, args := #[] }] } ∧ Hid (Rg20 (Wx.drew) ((Wx.setCell ⟨g7, c, none⟩ (.int .i64 (IntKind.i64.wrap ((av : Int) + (nb : Int))))).drew) (Value.slice (some ⟨g7, 0, none⟩) n n) (Value.pointer (some ⟨F, 0, none⟩)) (Value.pointer (some ⟨F, 0, none⟩)) (Value.pointer (some ⟨F, 3, none⟩)) (Value.slice (some ⟨gu, 0, none⟩) n n) (Value.int .i64 (b : Nat)) (Value.pointer (some ⟨gu, b, none⟩)) (Value.int .i64 (c : Nat)) (Value.pointer (some ⟨g7, c, none⟩)) (Value.int .i64 (av : Nat)) (Value.pointer (some ⟨F, 0, none⟩)) (Value.pointer (some ⟨F, 0, none⟩)) (Value.pointer (some ⟨F, 6, none⟩)) (Value.slice (some ⟨g6, 0, none⟩) n n) (Value.int .i64 (b : Nat)) (Value.pointer (some ⟨g6, b, none⟩)) (Value.int .i64 (nb : Nat)) (Value.int .i64 (IntKind.i64.wrap ((av : Int) + (nb : Int)))) (Value.pointer (some ⟨g7, c, none⟩)) d0 d1 d2 d3 d4 d5 d6 d7 d8 d9 d10 d11 d12 d13 d14 d15 d16 d17 d18 d19 v0 v1 v2 v3 v4 v5 v6 v7 v8 v9 v10 v11 v12 v13 v14 v15 v16 v17 v18 wx)) ?rstep ?rdone _ _ _ _ (Nat.le_of_eq (by kernel_rfl)) ?rinit
              case rstep =>
                rintro listed a wx ri ⟨d0, d1, d2, d3, d4, d5, d6, d7, d8, d9, d10, d11, d12, d13, d14, d15, d16, d17, d18, d19, rfl, v0, v1, v2, v3, v4, v5, v6, v7, v8, v9, v10, v11, v12, v13, v14, v15, v16, v17, v18, rfl, H⟩ hri
                obtain ⟨hi0, hi1, hi2⟩ := ready_mem hri
                clear hri
                have hi0 : ri < 20 := hi0
                have hcase : ri = 0 ∨ ri = 1 ∨ ri = 2 ∨ ri = 3 ∨ ri = 4 ∨ ri = 5 ∨ ri = 6 ∨ ri = 7 ∨ ri = 8 ∨ ri = 9 ∨ ri = 10 ∨ ri = 11 ∨ ri = 12 ∨ ri = 13 ∨ ri = 14 ∨ ri = 15 ∨ ri = 16 ∨ ri = 17 ∨ ri = 18 ∨ ri = 19 := by omega
                clear hi0
                rcases hcase with rfl | rfl | rfl | rfl | rfl | rfl | rfl | rfl | rfl | rfl | rfl | rfl | rfl | rfl | rfl | rfl | rfl | rfl | rfl | rfl
                all_goals (simp [Region.binds] at hi1 hi2)
                · obtain rfl : d0 = false := by simpa using hi1
                  clear hi1
                  have hL : d19 = false := by
                    rcases hq : d19 with _ | _
                    · rfl
                    · exact nomatch (H.out.oL hq).1
                  obtain rfl := hL
                  obtain rfl : wx = (Wx.drew) := H.out.cw
                  refine wpOp_step rfl (fun K' hK => ?_)
                  go_simp
                  refine hK _ _ ?_
                  exact ⟨true, d1, d2, d3, d4, d5, d6, d7, d8, d9, d10, d11, d12, d13, d14, d15, d16, d17, d18, false, rfl, _, _, _, _, _, _, _, _, _, _, _, _, _, _, _, _, _, _, _, rfl, ⟨H.out.cw, fun _ => rfl, H.out.c1, H.out.c2, H.out.c3, H.out.c4, H.out.c5, H.out.c6, H.out.c7, H.out.c8, H.out.c9, H.out.c10, H.out.c11, H.out.c12, H.out.c13, H.out.c14, H.out.c15, H.out.c16, H.out.c17, H.out.c18, (fun hd => nomatch hd)⟩⟩
                · obtain rfl : d1 = false := by simpa using hi1
                  clear hi1
                  have hL : d19 = false := by
                    rcases hq : d19 with _ | _
                    · rfl
                    · exact nomatch (H.out.oL hq).2.1
                  obtain rfl := hL
                  obtain rfl : wx = (Wx.drew) := H.out.cw
                  refine wpOp_step rfl (fun K' hK => ?_)
                  go_simp
                  refine hK _ _ ?_
                  exact ⟨d0, true, d2, d3, d4, d5, d6, d7, d8, d9, d10, d11, d12, d13, d14, d15, d16, d17, d18, false, rfl, _, _, _, _, _, _, _, _, _, _, _, _, _, _, _, _, _, _, _, rfl, ⟨H.out.cw, H.out.c0, fun _ => rfl, H.out.c2, H.out.c3, H.out.c4, H.out.c5, H.out.c6, H.out.c7, H.out.c8, H.out.c9, H.out.c10, H.out.c11, H.out.c12, H.out.c13, H.out.c14, H.out.c15, H.out.c16, H.out.c17, H.out.c18, (fun hd => nomatch hd)⟩⟩
                · obtain rfl : d2 = false := by simpa using hi1
                  have e1 : d1 = true := by simp only [hi2]
                  clear hi1 hi2
                  subst e1
                  have hL : d19 = false := by
                    rcases hq : d19 with _ | _
                    · rfl
                    · exact nomatch (H.out.oL hq).2.2.1
                  obtain rfl := hL
                  obtain rfl : wx = (Wx.drew) := H.out.cw
                  obtain rfl := H.out.c1 rfl
                  refine wpOp_step rfl (fun K' hK => ?_)
                  go_simp
                  refine hK _ _ ?_
                  exact ⟨d0, true, true, d3, d4, d5, d6, d7, d8, d9, d10, d11, d12, d13, d14, d15, d16, d17, d18, false, rfl, _, _, _, _, _, _, _, _, _, _, _, _, _, _, _, _, _, _, _, rfl, ⟨H.out.cw, H.out.c0, H.out.c1, fun _ => rfl, H.out.c3, H.out.c4, H.out.c5, H.out.c6, H.out.c7, H.out.c8, H.out.c9, H.out.c10, H.out.c11, H.out.c12, H.out.c13, H.out.c14, H.out.c15, H.out.c16, H.out.c17, H.out.c18, (fun hd => nomatch hd)⟩⟩
                · obtain rfl : d3 = false := by simpa using hi1
                  have e2 : d2 = true := by simp only [hi2]
                  clear hi1 hi2
                  subst e2
                  have hL : d19 = false := by
                    rcases hq : d19 with _ | _
                    · rfl
                    · exact nomatch (H.out.oL hq).2.2.2.1
                  obtain rfl := hL
                  obtain rfl : wx = (Wx.drew) := H.out.cw
                  obtain rfl := H.out.c2 rfl
                  refine wpOp_step rfl (fun K' hK => ?_)
                  go_simp
                  refine hK _ _ ?_
                  exact ⟨d0, d1, true, true, d4, d5, d6, d7, d8, d9, d10, d11, d12, d13, d14, d15, d16, d17, d18, false, rfl, _, _, _, _, _, _, _, _, _, _, _, _, _, _, _, _, _, _, _, rfl, ⟨H.out.cw, H.out.c0, H.out.c1, H.out.c2, fun _ => rfl, H.out.c4, H.out.c5, H.out.c6, H.out.c7, H.out.c8, H.out.c9, H.out.c10, H.out.c11, H.out.c12, H.out.c13, H.out.c14, H.out.c15, H.out.c16, H.out.c17, H.out.c18, (fun hd => nomatch hd)⟩⟩
                · obtain rfl : d4 = false := by simpa using hi1
                  have e3 : d3 = true := by simp only [hi2]
                  clear hi1 hi2
                  subst e3
                  have hL : d19 = false := by
                    rcases hq : d19 with _ | _
                    · rfl
                    · exact nomatch (H.out.oL hq).2.2.2.2.1
                  obtain rfl := hL
                  obtain rfl : wx = (Wx.drew) := H.out.cw
                  obtain rfl := H.out.c3 rfl
                  refine wpOp_step rfl (fun K' hK => ?_)
                  go_simp
                  refine hK _ _ ?_
                  exact ⟨d0, d1, d2, true, true, d5, d6, d7, d8, d9, d10, d11, d12, d13, d14, d15, d16, d17, d18, false, rfl, _, _, _, _, _, _, _, _, _, _, _, _, _, _, _, _, _, _, _, rfl, ⟨H.out.cw, H.out.c0, H.out.c1, H.out.c2, H.out.c3, fun _ => rfl, H.out.c5, H.out.c6, H.out.c7, H.out.c8, H.out.c9, H.out.c10, H.out.c11, H.out.c12, H.out.c13, H.out.c14, H.out.c15, H.out.c16, H.out.c17, H.out.c18, (fun hd => nomatch hd)⟩⟩
                · obtain rfl : d5 = false := by simpa using hi1
                  clear hi1
                  have hL : d19 = false := by
                    rcases hq : d19 with _ | _
                    · rfl
                    · exact nomatch (H.out.oL hq).2.2.2.2.2.1
                  obtain rfl := hL
                  obtain rfl : wx = (Wx.drew) := H.out.cw
                  refine wpOp_step rfl (fun K' hK => ?_)
                  go_simp
                  refine hK _ _ ?_
                  exact ⟨d0, d1, d2, d3, d4, true, d6, d7, d8, d9, d10, d11, d12, d13, d14, d15, d16, d17, d18, false, rfl, _, _, _, _, _, _, _, _, _, _, _, _, _, _, _, _, _, _, _, rfl, ⟨H.out.cw, H.out.c0, H.out.c1, H.out.c2, H.out.c3, H.out.c4, fun _ => rfl, H.out.c6, H.out.c7, H.out.c8, H.out.c9, H.out.c10, H.out.c11, H.out.c12, H.out.c13, H.out.c14, H.out.c15, H.out.c16, H.out.c17, H.out.c18, (fun hd => nomatch hd)⟩⟩
                · obtain rfl : d6 = false := by simpa using hi1
                  have e4 : d4 = true := by simp only [hi2]
                  have e5 : d5 = true := by simp only [hi2]
                  clear hi1 hi2
                  subst e4
                  subst e5
                  have hL : d19 = false := by
                    rcases hq : d19 with _ | _
                    · rfl
                    · exact nomatch (H.out.oL hq).2.2.2.2.2.2.1
                  obtain rfl := hL
                  obtain rfl : wx = (Wx.drew) := H.out.cw
                  obtain rfl := H.out.c4 rfl
                  obtain rfl := H.out.c5 rfl
                  refine wpOp_step rfl (fun K' hK => ?_)
                  go_simp
                  refine hK _ _ ?_
                  exact ⟨d0, d1, d2, d3, true, true, true, d7, d8, d9, d10, d11, d12, d13, d14, d15, d16, d17, d18, false, rfl, _, _, _, _, _, _, _, _, _, _, _, _, _, _, _, _, _, _, _, rfl, ⟨H.out.cw, H.out.c0, H.out.c1, H.out.c2, H.out.c3, H.out.c4, H.out.c5, fun _ => rfl, H.out.c7, H.out.c8, H.out.c9, H.out.c10, H.out.c11, H.out.c12, H.out.c13, H.out.c14, H.out.c15, H.out.c16, H.out.c17, H.out.c18, (fun hd => nomatch hd)⟩⟩
                · obtain rfl : d7 = false := by simpa using hi1
                  have e6 : d6 = true := by simp only [hi2]
                  clear hi1 hi2
                  subst e6
                  have hL : d19 = false := by
                    rcases hq : d19 with _ | _
                    · rfl
                    · exact nomatch (H.out.oL hq).2.2.2.2.2.2.2.1
                  obtain rfl := hL
                  obtain rfl : wx = (Wx.drew) := H.out.cw
                  obtain rfl := H.out.c6 rfl
                  refine wpOp_step rfl (fun K' hK => ?_)
                  go_simp
                  refine hK _ _ ?_
                  exact ⟨d0, d1, d2, d3, d4, d5, true, true, d8, d9, d10, d11, d12, d13, d14, d15, d16, d17, d18, false, rfl, _, _, _, _, _, _, _, _, _, _, _, _, _, _, _, _, _, _, _, rfl, ⟨H.out.cw, H.out.c0, H.out.c1, H.out.c2, H.out.c3, H.out.c4, H.out.c5, H.out.c6, fun _ => rfl, H.out.c8, H.out.c9, H.out.c10, H.out.c11, H.out.c12, H.out.c13, H.out.c14, H.out.c15, H.out.c16, H.out.c17, H.out.c18, (fun hd => nomatch hd)⟩⟩
                · obtain rfl : d8 = false := by simpa using hi1
                  have e0 : d0 = true := by simp only [hi2]
                  have e7 : d7 = true := by simp only [hi2]
                  clear hi1 hi2
                  subst e0
                  subst e7
                  have hL : d19 = false := by
                    rcases hq : d19 with _ | _
                    · rfl
                    · exact nomatch (H.out.oL hq).2.2.2.2.2.2.2.2.1
                  obtain rfl := hL
                  obtain rfl : wx = (Wx.drew) := H.out.cw
                  obtain rfl := H.out.c0 rfl
                  obtain rfl := H.out.c7 rfl
                  refine wpOp_step rfl (fun K' hK => ?_)
                  go_simp
                  refine hK _ _ ?_
                  exact ⟨true, d1, d2, d3, d4, d5, d6, true, true, d9, d10, d11, d12, d13, d14, d15, d16, d17, d18, false, rfl, _, _, _, _, _, _, _, _, _, _, _, _, _, _, _, _, _, _, _, rfl, ⟨H.out.cw, H.out.c0, H.out.c1, H.out.c2, H.out.c3, H.out.c4, H.out.c5, H.out.c6, H.out.c7, fun _ => rfl, H.out.c9, H.out.c10, H.out.c11, H.out.c12, H.out.c13, H.out.c14, H.out.c15, H.out.c16, H.out.c17, H.out.c18, (fun hd => nomatch hd)⟩⟩
                · obtain rfl : d9 = false := by simpa using hi1
                  have e8 : d8 = true := by simp only [hi2]
                  clear hi1 hi2
                  subst e8
                  have hL : d19 = false := by
                    rcases hq : d19 with _ | _
                    · rfl
                    · exact nomatch (H.out.oL hq).2.2.2.2.2.2.2.2.2.1
                  obtain rfl := hL
                  obtain rfl : wx = (Wx.drew) := H.out.cw
                  obtain rfl := H.out.c8 rfl
                  refine wpOp_step rfl (fun K' hK => ?_)
                  go_simp
                  refine hK _ _ ?_
                  exact ⟨d0, d1, d2, d3, d4, d5, d6, d7, true, true, d10, d11, d12, d13, d14, d15, d16, d17, d18, false, rfl, _, _, _, _, _, _, _, _, _, _, _, _, _, _, _, _, _, _, _, rfl, ⟨H.out.cw, H.out.c0, H.out.c1, H.out.c2, H.out.c3, H.out.c4, H.out.c5, H.out.c6, H.out.c7, H.out.c8, fun _ => rfl, H.out.c10, H.out.c11, H.out.c12, H.out.c13, H.out.c14, H.out.c15, H.out.c16, H.out.c17, H.out.c18, (fun hd => nomatch hd)⟩⟩
                · obtain rfl : d10 = false := by simpa using hi1
                  clear hi1
                  have hL : d19 = false := by
                    rcases hq : d19 with _ | _
                    · rfl
                    · exact nomatch (H.out.oL hq).2.2.2.2.2.2.2.2.2.2.1
                  obtain rfl := hL
                  obtain rfl : wx = (Wx.drew) := H.out.cw
                  refine wpOp_step rfl (fun K' hK => ?_)
                  go_simp
                  refine hK _ _ ?_
                  exact ⟨d0, d1, d2, d3, d4, d5, d6, d7, d8, d9, true, d11, d12, d13, d14, d15, d16, d17, d18, false, rfl, _, _, _, _, _, _, _, _, _, _, _, _, _, _, _, _, _, _, _, rfl, ⟨H.out.cw, H.out.c0, H.out.c1, H.out.c2, H.out.c3, H.out.c4, H.out.c5, H.out.c6, H.out.c7, H.out.c8, H.out.c9, fun _ => rfl, H.out.c11, H.out.c12, H.out.c13, H.out.c14, H.out.c15, H.out.c16, H.out.c17, H.out.c18, (fun hd => nomatch hd)⟩⟩
                · obtain rfl : d11 = false := by simpa using hi1
                  have e10 : d10 = true := by simp only [hi2]
                  clear hi1 hi2
                  subst e10
                  have hL : d19 = false := by
                    rcases hq : d19 with _ | _
                    · rfl
                    · exact nomatch (H.out.oL hq).2.2.2.2.2.2.2.2.2.2.2.1
                  obtain rfl := hL
                  obtain rfl : wx = (Wx.drew) := H.out.cw
                  obtain rfl := H.out.c10 rfl
                  refine wpOp_step rfl (fun K' hK => ?_)
                  go_simp
                  refine hK _ _ ?_
                  exact ⟨d0, d1, d2, d3, d4, d5, d6, d7, d8, d9, true, true, d12, d13, d14, d15, d16, d17, d18, false, rfl, _, _, _, _, _, _, _, _, _, _, _, _, _, _, _, _, _, _, _, rfl, ⟨H.out.cw, H.out.c0, H.out.c1, H.out.c2, H.out.c3, H.out.c4, H.out.c5, H.out.c6, H.out.c7, H.out.c8, H.out.c9, H.out.c10, fun _ => rfl, H.out.c12, H.out.c13, H.out.c14, H.out.c15, H.out.c16, H.out.c17, H.out.c18, (fun hd => nomatch hd)⟩⟩
                · obtain rfl : d12 = false := by simpa using hi1
                  have e11 : d11 = true := by simp only [hi2]
                  clear hi1 hi2
                  subst e11
                  have hL : d19 = false := by
                    rcases hq : d19 with _ | _
                    · rfl
                    · exact nomatch (H.out.oL hq).2.2.2.2.2.2.2.2.2.2.2.2.1
                  obtain rfl := hL
                  obtain rfl : wx = (Wx.drew) := H.out.cw
                  obtain rfl := H.out.c11 rfl
                  refine wpOp_step rfl (fun K' hK => ?_)
                  go_simp
                  refine hK _ _ ?_
                  exact ⟨d0, d1, d2, d3, d4, d5, d6, d7, d8, d9, d10, true, true, d13, d14, d15, d16, d17, d18, false, rfl, _, _, _, _, _, _, _, _, _, _, _, _, _, _, _, _, _, _, _, rfl, ⟨H.out.cw, H.out.c0, H.out.c1, H.out.c2, H.out.c3, H.out.c4, H.out.c5, H.out.c6, H.out.c7, H.out.c8, H.out.c9, H.out.c10, H.out.c11, fun _ => rfl, H.out.c13, H.out.c14, H.out.c15, H.out.c16, H.out.c17, H.out.c18, (fun hd => nomatch hd)⟩⟩
                · obtain rfl : d13 = false := by simpa using hi1
                  have e12 : d12 = true := by simp only [hi2]
                  clear hi1 hi2
                  subst e12
                  have hL : d19 = false := by
                    rcases hq : d19 with _ | _
                    · rfl
                    · exact nomatch (H.out.oL hq).2.2.2.2.2.2.2.2.2.2.2.2.2.1
                  obtain rfl := hL
                  obtain rfl : wx = (Wx.drew) := H.out.cw
                  obtain rfl := H.out.c12 rfl
                  refine wpOp_step rfl (fun K' hK => ?_)
                  go_simp
                  refine hK _ _ ?_
                  exact ⟨d0, d1, d2, d3, d4, d5, d6, d7, d8, d9, d10, d11, true, true, d14, d15, d16, d17, d18, false, rfl, _, _, _, _, _, _, _, _, _, _, _, _, _, _, _, _, _, _, _, rfl, ⟨H.out.cw, H.out.c0, H.out.c1, H.out.c2, H.out.c3, H.out.c4, H.out.c5, H.out.c6, H.out.c7, H.out.c8, H.out.c9, H.out.c10, H.out.c11, H.out.c12, fun _ => rfl, H.out.c14, H.out.c15, H.out.c16, H.out.c17, H.out.c18, (fun hd => nomatch hd)⟩⟩
                · obtain rfl : d14 = false := by simpa using hi1
                  clear hi1
                  have hL : d19 = false := by
                    rcases hq : d19 with _ | _
                    · rfl
                    · exact nomatch (H.out.oL hq).2.2.2.2.2.2.2.2.2.2.2.2.2.2.1
                  obtain rfl := hL
                  obtain rfl : wx = (Wx.drew) := H.out.cw
                  refine wpOp_step rfl (fun K' hK => ?_)
                  go_simp
                  refine hK _ _ ?_
                  exact ⟨d0, d1, d2, d3, d4, d5, d6, d7, d8, d9, d10, d11, d12, d13, true, d15, d16, d17, d18, false, rfl, _, _, _, _, _, _, _, _, _, _, _, _, _, _, _, _, _, _, _, rfl, ⟨H.out.cw, H.out.c0, H.out.c1, H.out.c2, H.out.c3, H.out.c4, H.out.c5, H.out.c6, H.out.c7, H.out.c8, H.out.c9, H.out.c10, H.out.c11, H.out.c12, H.out.c13, fun _ => rfl, H.out.c15, H.out.c16, H.out.c17, H.out.c18, (fun hd => nomatch hd)⟩⟩
                · obtain rfl : d15 = false := by simpa using hi1
                  have e13 : d13 = true := by simp only [hi2]
                  have e14 : d14 = true := by simp only [hi2]
                  clear hi1 hi2
                  subst e13
                  subst e14
                  have hL : d19 = false := by
                    rcases hq : d19 with _ | _
                    · rfl
                    · exact nomatch (H.out.oL hq).2.2.2.2.2.2.2.2.2.2.2.2.2.2.2.1
                  obtain rfl := hL
                  obtain rfl : wx = (Wx.drew) := H.out.cw
                  obtain rfl := H.out.c13 rfl
                  obtain rfl := H.out.c14 rfl
                  refine wpOp_step rfl (fun K' hK => ?_)
                  go_simp
                  refine hK _ _ ?_
                  exact ⟨d0, d1, d2, d3, d4, d5, d6, d7, d8, d9, d10, d11, d12, true, true, true, d16, d17, d18, false, rfl, _, _, _, _, _, _, _, _, _, _, _, _, _, _, _, _, _, _, _, rfl, ⟨H.out.cw, H.out.c0, H.out.c1, H.out.c2, H.out.c3, H.out.c4, H.out.c5, H.out.c6, H.out.c7, H.out.c8, H.out.c9, H.out.c10, H.out.c11, H.out.c12, H.out.c13, H.out.c14, fun _ => rfl, H.out.c16, H.out.c17, H.out.c18, (fun hd => nomatch hd)⟩⟩
                · obtain rfl : d16 = false := by simpa using hi1
                  have e15 : d15 = true := by simp only [hi2]
                  clear hi1 hi2
                  subst e15
                  have hL : d19 = false := by
                    rcases hq : d19 with _ | _
                    · rfl
                    · exact nomatch (H.out.oL hq).2.2.2.2.2.2.2.2.2.2.2.2.2.2.2.2.1
                  obtain rfl := hL
                  obtain rfl : wx = (Wx.drew) := H.out.cw
                  obtain rfl := H.out.c15 rfl
                  refine wpOp_step rfl (fun K' hK => ?_)
                  go_simp
                  refine hK _ _ ?_
                  exact ⟨d0, d1, d2, d3, d4, d5, d6, d7, d8, d9, d10, d11, d12, d13, d14, true, true, d17, d18, false, rfl, _, _, _, _, _, _, _, _, _, _, _, _, _, _, _, _, _, _, _, rfl, ⟨H.out.cw, H.out.c0, H.out.c1, H.out.c2, H.out.c3, H.out.c4, H.out.c5, H.out.c6, H.out.c7, H.out.c8, H.out.c9, H.out.c10, H.out.c11, H.out.c12, H.out.c13, H.out.c14, H.out.c15, fun _ => rfl, H.out.c17, H.out.c18, (fun hd => nomatch hd)⟩⟩
                · obtain rfl : d17 = false := by simpa using hi1
                  have e9 : d9 = true := by simp only [hi2]
                  have e16 : d16 = true := by simp only [hi2]
                  clear hi1 hi2
                  subst e9
                  subst e16
                  have hL : d19 = false := by
                    rcases hq : d19 with _ | _
                    · rfl
                    · exact nomatch (H.out.oL hq).2.2.2.2.2.2.2.2.2.2.2.2.2.2.2.2.2.1
                  obtain rfl := hL
                  obtain rfl : wx = (Wx.drew) := H.out.cw
                  obtain rfl := H.out.c9 rfl
                  obtain rfl := H.out.c16 rfl
                  refine wpOp_step rfl (fun K' hK => ?_)
                  go_simp
                  refine hK _ _ ?_
                  exact ⟨d0, d1, d2, d3, d4, d5, d6, d7, d8, true, d10, d11, d12, d13, d14, d15, true, true, d18, false, rfl, _, _, _, _, _, _, _, _, _, _, _, _, _, _, _, _, _, _, _, rfl, ⟨H.out.cw, H.out.c0, H.out.c1, H.out.c2, H.out.c3, H.out.c4, H.out.c5, H.out.c6, H.out.c7, H.out.c8, H.out.c9, H.out.c10, H.out.c11, H.out.c12, H.out.c13, H.out.c14, H.out.c15, H.out.c16, fun _ => rfl, H.out.c18, (fun hd => nomatch hd)⟩⟩
                · obtain rfl : d18 = false := by simpa using hi1
                  have e0 : d0 = true := by simp only [hi2]
                  have e7 : d7 = true := by simp only [hi2]
                  have e1 : d1 = true := by simp only [hi2]
                  have e2 : d2 = true := by simp only [hi2]
                  have e3 : d3 = true := by simp only [hi2]
                  have e4 : d4 = true := by simp only [hi2]
                  have e5 : d5 = true := by simp only [hi2]
                  have e6 : d6 = true := by simp only [hi2]
                  have e8 : d8 = true := by simp only [hi2]
                  have e9 : d9 = true := by simp only [hi2]
                  have e10 : d10 = true := by simp only [hi2]
                  have e11 : d11 = true := by simp only [hi2]
                  have e12 : d12 = true := by simp only [hi2]
                  have e13 : d13 = true := by simp only [hi2]
                  have e14 : d14 = true := by simp only [hi2]
                  have e15 : d15 = true := by simp only [hi2]
                  have e16 : d16 = true := by simp only [hi2]
                  have e17 : d17 = true := by simp only [hi2]
                  clear hi1 hi2
                  subst e0
                  subst e7
                  subst e1
                  subst e2
                  subst e3
                  subst e4
                  subst e5
                  subst e6
                  subst e8
                  subst e9
                  subst e10
                  subst e11
                  subst e12
                  subst e13
                  subst e14
                  subst e15
                  subst e16
                  subst e17
                  have hL : d19 = false := by
                    rcases hq : d19 with _ | _
                    · rfl
                    · exact nomatch (H.out.oL hq).2.2.2.2.2.2.2.2.2.2.2.2.2.2.2.2.2.2
                  obtain rfl := hL
                  obtain rfl : wx = (Wx.drew) := H.out.cw
                  obtain rfl := H.out.c0 rfl
                  obtain rfl := H.out.c7 rfl
                  refine wpOp_step rfl (fun K' hK => ?_)
                  go_simp
                  refine hK _ _ ?_
                  exact ⟨true, true, true, true, true, true, true, true, true, true, true, true, true, true, true, true, true, true, true, false, rfl, _, _, _, _, _, _, _, _, _, _, _, _, _, _, _, _, _, _, _, rfl, ⟨H.out.cw, H.out.c0, H.out.c1, H.out.c2, H.out.c3, H.out.c4, H.out.c5, H.out.c6, H.out.c7, H.out.c8, H.out.c9, H.out.c10, H.out.c11, H.out.c12, H.out.c13, H.out.c14, H.out.c15, H.out.c16, H.out.c17, fun _ => rfl, (fun hd => nomatch hd)⟩⟩
                · obtain rfl : d19 = false := by simpa using hi1
                  have e18 : d18 = true := by simp only [hi2]
                  have e17 : d17 = true := by simp only [hi2]
                  have e0 : d0 = true := by simp only [hi2]
                  have e1 : d1 = true := by simp only [hi2]
                  have e2 : d2 = true := by simp only [hi2]
                  have e3 : d3 = true := by simp only [hi2]
                  have e4 : d4 = true := by simp only [hi2]
                  have e5 : d5 = true := by simp only [hi2]
                  have e6 : d6 = true := by simp only [hi2]
                  have e7 : d7 = true := by simp only [hi2]
                  have e8 : d8 = true := by simp only [hi2]
                  have e9 : d9 = true := by simp only [hi2]
                  have e10 : d10 = true := by simp only [hi2]
                  have e11 : d11 = true := by simp only [hi2]
                  have e12 : d12 = true := by simp only [hi2]
                  have e13 : d13 = true := by simp only [hi2]
                  have e14 : d14 = true := by simp only [hi2]
                  have e15 : d15 = true := by simp only [hi2]
                  have e16 : d16 = true := by simp only [hi2]
                  clear hi1 hi2
                  subst e18
                  subst e17
                  subst e0
                  subst e1
                  subst e2
                  subst e3
                  subst e4
                  subst e5
                  subst e6
                  subst e7
                  subst e8
                  subst e9
                  subst e10
                  subst e11
                  subst e12
                  subst e13
                  subst e14
                  subst e15
                  subst e16
                  obtain rfl : wx = (Wx.drew) := H.out.cw
                  obtain rfl := H.out.c18 rfl
                  obtain rfl := H.out.c17 rfl
                  refine wpOp_step rfl (fun K' hK => ?_)
                  go_simp
                  skip
                  refine hK _ _ ?_
                  exact ⟨true, true, true, true, true, true, true, true, true, true, true, true, true, true, true, true, true, true, true, true, rfl, _, _, _, _, _, _, _, _, _, _, _, _, _, _, _, _, _, _, _, rfl, ⟨rfl, H.out.c0, H.out.c1, H.out.c2, H.out.c3, H.out.c4, H.out.c5, H.out.c6, H.out.c7, H.out.c8, H.out.c9, H.out.c10, H.out.c11, H.out.c12, H.out.c13, H.out.c14, H.out.c15, H.out.c16, H.out.c17, H.out.c18, fun _ => ⟨rfl, rfl, rfl, rfl, rfl, rfl, rfl, rfl, rfl, rfl, rfl, rfl, rfl, rfl, rfl, rfl, rfl, rfl, rfl⟩⟩⟩
              case rinit =>
                exact ⟨false, false, false, false, false, false, false, false, false, false, false, false, false, false, false, false, false, false, false, false, rfl, _, _, _, _, _, _, _, _, _, _, _, _, _, _, _, _, _, _, _, rfl, ⟨rfl, (fun hd => nomatch hd), (fun hd => nomatch hd), (fun hd => nomatch hd), (fun hd => nomatch hd), (fun hd => nomatch hd), (fun hd => nomatch hd), (fun hd => nomatch hd), (fun hd => nomatch hd), (fun hd => nomatch hd), (fun hd => nomatch hd), (fun hd => nomatch hd), (fun hd => nomatch hd), (fun hd => nomatch hd), (fun hd => nomatch hd), (fun hd => nomatch hd), (fun hd => nomatch hd), (fun hd => nomatch hd), (fun hd => nomatch hd), (fun hd => nomatch hd), (fun hd => nomatch hd)⟩⟩
              case rdone =>
                rintro listed a wx ⟨d0, d1, d2, d3, d4, d5, d6, d7, d8, d9, d10, d11, d12, d13, d14, d15, d16, d17, d18, d19, rfl, v0, v1, v2, v3, v4, v5, v6, v7, v8, v9, v10, v11, v12, v13, v14, v15, v16, v17, v18, rfl, H⟩ hr
                obtain rfl : d0 = true := by simpa using ready_none hr 0 (by decide) (by simp [Region.binds])
                obtain rfl : d1 = true := by simpa using ready_none hr 1 (by decide) (by simp [Region.binds])
                obtain rfl : d2 = true := by simpa using ready_none hr 2 (by decide) (by simp [Region.binds])
                obtain rfl : d3 = true := by simpa using ready_none hr 3 (by decide) (by simp [Region.binds])
                obtain rfl : d4 = true := by simpa using ready_none hr 4 (by decide) (by simp [Region.binds])
                obtain rfl : d5 = true := by simpa using ready_none hr 5 (by decide) (by simp [Region.binds])
                obtain rfl : d6 = true := by simpa using ready_none hr 6 (by decide) (by simp [Region.binds])
                obtain rfl : d7 = true := by simpa using ready_none hr 7 (by decide) (by simp [Region.binds])
                obtain rfl : d8 = true := by simpa using ready_none hr 8 (by decide) (by simp [Region.binds])
                obtain rfl : d9 = true := by simpa using ready_none hr 9 (by decide) (by simp [Region.binds])
                obtain rfl : d10 = true := by simpa using ready_none hr 10 (by decide) (by simp [Region.binds])
                obtain rfl : d11 = true := by simpa using ready_none hr 11 (by decide) (by simp [Region.binds])
                obtain rfl : d12 = true := by simpa using ready_none hr 12 (by decide) (by simp [Region.binds])
                obtain rfl : d13 = true := by simpa using ready_none hr 13 (by decide) (by simp [Region.binds])
                obtain rfl : d14 = true := by simpa using ready_none hr 14 (by decide) (by simp [Region.binds])
                obtain rfl : d15 = true := by simpa using ready_none hr 15 (by decide) (by simp [Region.binds])
                obtain rfl : d16 = true := by simpa using ready_none hr 16 (by decide) (by simp [Region.binds])
                obtain rfl : d17 = true := by simpa using ready_none hr 17 (by decide) (by simp [Region.binds])
                obtain rfl : d18 = true := by simpa using ready_none hr 18 (by decide) (by simp [Region.binds])
                obtain rfl : d19 = true := by simpa using ready_none hr 19 (by decide) (by simp [Region.binds])
                obtain rfl := H.out.c0 rfl
                obtain rfl := H.out.c1 rfl
                obtain rfl := H.out.c2 rfl
                obtain rfl := H.out.c3 rfl
                obtain rfl := H.out.c4 rfl
                obtain rfl := H.out.c5 rfl
                obtain rfl := H.out.c6 rfl
                obtain rfl := H.out.c7 rfl
                obtain rfl := H.out.c8 rfl
                obtain rfl := H.out.c9 rfl
                obtain rfl := H.out.c10 rfl
                obtain rfl := H.out.c11 rfl
                obtain rfl := H.out.c12 rfl
                obtain rfl := H.out.c13 rfl
                obtain rfl := H.out.c14 rfl
                obtain rfl := H.out.c15 rfl
                obtain rfl := H.out.c16 rfl
                obtain rfl := H.out.c17 rfl
                obtain rfl := H.out.c18 rfl
                obtain rfl : wx = ((Wx.setCell ⟨g7, c, none⟩ (.int .i64 (IntKind.i64.wrap ((av : Int) + (nb : Int))))).drew) := H.out.cw
                clear hr H
                obtain ⟨Wa, hWa⟩ : ∃ Wa, Wa = (Wx.setCell ⟨g7, c, none⟩ (.int .i64 (IntKind.i64.wrap ((av : Int) + (nb : Int))))).drew := ⟨_, rfl⟩
                rw [← hWa] at HPB ⊢
                clear hWa HPA pu k7 k7f k6 hws2
                obtain ⟨fr1, hfr1⟩ : ∃ fr1, fr1 = updN fr c (av + nb) := ⟨_, rfl⟩
                obtain ⟨A1, hA1⟩ : ∃ A1, A1 = fset A b (av : Nat) := ⟨_, rfl⟩
                rw [← hfr1, ← hA1] at HPB
                have HP1 : Hid (PS wc g4 g5 g6 g7 n m D2 N A1 fr1 tr Wa) := HPB
                have HAV : Hid (A1 b = (av : Int)) := by unfold Hid; rw [hA1, fset_same]
                have HFN : Hid (NW o q (i + 1) (updN at' b av) (updN fr1 b (av + 1)) ∧ av < m ∧ ∀ x, x ≠ b → A1 x = A x) := by
                  refine ⟨?_, by omega, fun x hx => by rw [hA1, fset_other _ _ hx]⟩
                  have h5 := HFN5.out
                  rw [← HNBE.out] at h5
                  rw [hfr1]; exact h5
                clear hfr1 hA1 HPB HFN5
                have pf2 : True := trivial
                have pf4 : True := trivial
                have pf5 : True := trivial
                have k5 : True := trivial
                have k5f : True := trivial
                have hmn := HMN.out
                clear pb pf2 pf3 pf4 pf5 pf6 k5 k5f
                obtain ⟨pb, pF, _, _⟩ := HX.out Wa HP1.out.ag
                obtain ⟨_, _, _, _, pf4, pf5, _⟩ := cells7 pF
                obtain ⟨k5, _⟩ := HP1.out.r5.get hbn
                rw [HAV.out] at k5
                obtain ⟨k7, k7f⟩ := HP1.out.r7.get hbn
                have ham := HFN.out.2.1
                have hwa : Hid (wrap64 ((av : Int) + 1) = (av : Int) + 1) := wrap64_small (by omega)
                have hwe : (av : Int) + 1 = ((av + 1 : Nat) : Int) := by omega
                have HP2 : Hid (PS wc g4 g5 g6 g7 n m D2 N A1 (updN fr1 b (av + 1)) tr (Wa.setCell ⟨g7, b, none⟩ (.int .i64 ((av : Int) + 1)))) := by
                  unfold Hid; rw [hwe]; exact HP1.out.setF hbn (av + 1)
                clear hwe pF
                go_upto_region 17 with fail
                obtain ⟨Wb, hWb⟩ : ∃ Wb, Wb = Wa.setCell ⟨g7, b, none⟩ (.int .i64 ((av : Int) + 1)) := ⟨_, rfl⟩
                rw [← hWb] at HP2 ⊢
                clear hWb pb pf4 pf5 k5 k7 k7f hwa HP1
                obtain ⟨pb, pF, _, _⟩ := HX.out Wb HP2.out.ag
                obtain ⟨_, _, _, _, pf4, pf5, _⟩ := cells7 pF
                obtain ⟨k5, _⟩ := HP2.out.r5.get hbn
                rw [HAV.out] at k5
                obtain ⟨k4, k4f⟩ := HP2.out.r4.get ham
                have hamI : (av : Int) < (m : Int) := by omega
                have HP3 : Hid (PS wc g4 g5 g6 g7 n m D2 N A1 (updN fr1 b (av + 1)) (fset tr av b) (Wb.setCell ⟨g4, av, none⟩ (.int .i64 (b : Nat))).drew) := (HP2.out.setT ham b).same rfl rfl rfl rfl
                clear pF
                refine wp_region_any (by kernel_rfl) ?_
                refine wpAny_inv (fun listed a wx => ∃ d0 d1 d2 d3 d4 d5 d6 d7 d8 d9 d10 d11 d12 d13 : Bool, listed = #[d0, d1, d2, d3, d4, d5, d6, d7, d8, d9, d10, d11, d12, d13] ∧ ∃ v0 v1 v2 v3 v4 v5 v6 v7 v8 v9 v10 v11 v12 : Value, a = { tmps := #[Value.pointer (some ⟨F, 0, none⟩), Value.pointer (some ⟨Bx, 0, none⟩), Value.int .i64 (n : Nat), undef, undef, Value.slice (some ⟨g7, 0, none⟩) n n, Value.int .i64 (i : Nat), Value.int .i64 (b : Nat), Value.pointer (some ⟨F, 0, none⟩), Value.pointer (some ⟨F, 0, none⟩), Value.pointer (some ⟨F, 0, none⟩), vA, Value.int .i64 (n : Nat), u13, u14, u15, u16, u17, u18, u19, u20, u21, u22, u23, u24, u25, u26, u27, u28, u29, u30, u31, u32, Value.pointer (some ⟨F, 0, none⟩), Value.pointer (some ⟨F, 0, none⟩), Value.pointer (some ⟨F, 2, none⟩), Value.slice (some ⟨go, oo, none⟩) m ko, Value.func (Fn.func 59) #[] #[Value.pointer (some ⟨B2, 0, none⟩)], undef, undef, undef, undef, undef, undef, undef, undef, undef, undef, undef, undef, undef, undef, undef, undef, undef, undef, undef, undef, undef, undef, undef, undef, undef, undef, undef, undef, undef, undef, undef, undef, undef, undef, undef, undef, undef, undef, undef, undef, undef, Value.int .i64 (n : Nat), Value.slice (some ⟨g7, 0, none⟩) n n, Value.pointer (some ⟨F, 0, none⟩), Value.pointer (some ⟨F, 0, none⟩), Value.pointer (some ⟨F, 2, none⟩), Value.slice (some ⟨go, oo, none⟩) m ko, Value.int .i64 (m : Nat), Value.int .i64 (i : Nat), Value.bool true, Value.int .i64 (i : Nat), Value.pointer (some ⟨go, oo + i, none⟩), Value.int .i64 (b : Nat), Value.int .i64 (i : Nat), Value.bool false, u93, u94, u95, u96, u97, u98, Value.pointer (some ⟨F, 0, none⟩), Value.pointer (some ⟨F, 0, none⟩), Value.pointer (some ⟨F, 5, none⟩), Value.slice (some ⟨g5, 0, none⟩) n n, Value.int .i64 (b : Nat), Value.slice (some ⟨g7, 0, none⟩) n n, Value.pointer (some ⟨F, 0, none⟩), Value.pointer (some ⟨F, 0, none⟩), Value.pointer (some ⟨F, 3, none⟩), Value.slice (some ⟨gu, 0, none⟩) n n, Value.int .i64 (b : Nat), Value.pointer (some ⟨gu, b, none⟩), Value.int .i64 (c : Nat), Value.pointer (some ⟨g7, c, none⟩), Value.int .i64 (av : Nat), Value.pointer (some ⟨g5, b, none⟩), Value.slice (some ⟨g7, 0, none⟩) n n, Value.pointer (some ⟨F, 0, none⟩), Value.pointer (some ⟨F, 0, none⟩), Value.pointer (some ⟨F, 3, none⟩), Value.slice (some ⟨gu, 0, none⟩) n n, Value.int .i64 (b : Nat), Value.pointer (some ⟨gu, b, none⟩), Value.int .i64 (c : Nat), Value.pointer (some ⟨g7, c, none⟩), Value.int .i64 (av : Nat), Value.pointer (some ⟨F, 0, none⟩), Value.pointer (some ⟨F, 0, none⟩), Value.pointer (some ⟨F, 6, none⟩), Value.slice (some ⟨g6, 0, none⟩) n n, Value.int .i64 (b : Nat), Value.pointer (some ⟨g6, b, none⟩), Value.int .i64 (nb : Nat), Value.int .i64 (IntKind.i64.wrap ((av : Int) + (nb : Int))), Value.pointer (some ⟨g7, c, none⟩), Value.slice (some ⟨g7, 0, none⟩) n n, Value.int .i64 (b : Nat), Value.pointer (some ⟨F, 0, none⟩), Value.pointer (some ⟨F, 0, none⟩), Value.pointer (some ⟨F, 5, none⟩), Value.slice (some ⟨g5, 0, none⟩) n n, Value.int .i64 (b : Nat), Value.pointer (some ⟨g5, b, none⟩), Value.int .i64 (av : Nat), Value.int .i64 ((av : Int) + 1), Value.pointer (some ⟨g7, b, none⟩), v0, v1, v2, v3, v4, v5, v6, v7, v8, v9, v10, v11, v12, u158], defers := [{ target := .collected D2, args := #[] }] } ∧ Hid (Rg14 (Wb.drew) ((Wb.setCell ⟨g4, av, none⟩ (.int .i64 (b : Nat))).drew) (Value.pointer (some ⟨F, 0, none⟩)) (Value.pointer (some ⟨F, 0, none⟩)) (Value.pointer (some ⟨F, 4, none⟩)) (Value.slice (some ⟨g4, 0, none⟩) m m) (Value.pointer (some ⟨F, 0, none⟩)) (Value.pointer (some ⟨F, 0, none⟩)) (Value.pointer (some ⟨F, 5, none⟩)) (Value.slice (some ⟨g5, 0, none⟩) n n) (Value.int .i64 (b : Nat)) (Value.pointer (some ⟨g5, b, none⟩)) (Value.int .i64 (av : Nat)) (Value.int .i64 (b : Nat)) (Value.pointer (some ⟨g4, av, none⟩)) d0 d1 d2 d3 d4 d5 d6 d7 d8 d9 d10 d11 d12 d13 v0 v1 v2 v3 v4 v5 v6 v7 v8 v9 v10 v11 v12 wx)) ?rstep ?rdone _ _ _ _ (Nat.le_of_eq (by kernel_rfl)) ?rinit
                case rstep =>
                  rintro listed a wx ri ⟨d0, d1, d2, d3, d4, d5, d6, d7, d8, d9, d10, d11, d12, d13, rfl, v0, v1, v2, v3, v4, v5, v6, v7, v8, v9, v10, v11, v12, rfl, H⟩ hri
                  obtain ⟨hi0, hi1, hi2⟩ := ready_mem hri
                  clear hri
                  have hi0 : ri < 14 := hi0
                  have hcase : ri = 0 ∨ ri = 1 ∨ ri = 2 ∨ ri = 3 ∨ ri = 4 ∨ ri = 5 ∨ ri = 6 ∨ ri = 7 ∨ ri = 8 ∨ ri = 9 ∨ ri = 10 ∨ ri = 11 ∨ ri = 12 ∨ ri = 13 := by omega
                  clear hi0
                  rcases hcase with rfl | rfl | rfl | rfl | rfl | rfl | rfl | rfl | rfl | rfl | rfl | rfl | rfl | rfl
                  all_goals (simp [Region.binds] at hi1 hi2)
                  · obtain rfl : d0 = false := by simpa using hi1
                    clear hi1
                    have hL : d13 = false := by
                      rcases hq : d13 with _ | _
                      · rfl
                      · exact nomatch (H.out.oL hq).1
                    obtain rfl := hL
                    obtain rfl : wx = (Wb.drew) := H.out.cw
                    refine wpOp_step rfl (fun K' hK => ?_)
                    go_simp
                    refine hK _ _ ?_
                    exact ⟨true, d1, d2, d3, d4, d5, d6, d7, d8, d9, d10, d11, d12, false, rfl, _, _, _, _, _, _, _, _, _, _, _, _, _, rfl, ⟨H.out.cw, fun _ => rfl, H.out.c1, H.out.c2, H.out.c3, H.out.c4, H.out.c5, H.out.c6, H.out.c7, H.out.c8, H.out.c9, H.out.c10, H.out.c11, H.out.c12, (fun hd => nomatch hd)⟩⟩
                  · obtain rfl : d1 = false := by simpa using hi1
                    have e0 : d0 = true := by simp only [hi2]
                    clear hi1 hi2
                    subst e0
                    have hL : d13 = false := by
                      rcases hq : d13 with _ | _
                      · rfl
                      · exact nomatch (H.out.oL hq).2.1
                    obtain rfl := hL
                    obtain rfl : wx = (Wb.drew) := H.out.cw
                    obtain rfl := H.out.c0 rfl
                    refine wpOp_step rfl (fun K' hK => ?_)
                    go_simp
                    refine hK _ _ ?_
                    exact ⟨true, true, d2, d3, d4, d5, d6, d7, d8, d9, d10, d11, d12, false, rfl, _, _, _, _, _, _, _, _, _, _, _, _, _, rfl, ⟨H.out.cw, H.out.c0, fun _ => rfl, H.out.c2, H.out.c3, H.out.c4, H.out.c5, H.out.c6, H.out.c7, H.out.c8, H.out.c9, H.out.c10, H.out.c11, H.out.c12, (fun hd => nomatch hd)⟩⟩
                  · obtain rfl : d2 = false := by simpa using hi1
                    have e1 : d1 = true := by simp only [hi2]
                    clear hi1 hi2
                    subst e1
                    have hL : d13 = false := by
                      rcases hq : d13 with _ | _
                      · rfl
                      · exact nomatch (H.out.oL hq).2.2.1
                    obtain rfl := hL
                    obtain rfl : wx = (Wb.drew) := H.out.cw
                    obtain rfl := H.out.c1 rfl
                    refine wpOp_step rfl (fun K' hK => ?_)
                    go_simp
                    refine hK _ _ ?_
                    exact ⟨d0, true, true, d3, d4, d5, d6, d7, d8, d9, d10, d11, d12, false, rfl, _, _, _, _, _, _, _, _, _, _, _, _, _, rfl, ⟨H.out.cw, H.out.c0, H.out.c1, fun _ => rfl, H.out.c3, H.out.c4, H.out.c5, H.out.c6, H.out.c7, H.out.c8, H.out.c9, H.out.c10, H.out.c11, H.out.c12, (fun hd => nomatch hd)⟩⟩
                  · obtain rfl : d3 = false := by simpa using hi1
                    have e2 : d2 = true := by simp only [hi2]
                    clear hi1 hi2
                    subst e2
                    have hL : d13 = false := by
                      rcases hq : d13 with _ | _
                      · rfl
                      · exact nomatch (H.out.oL hq).2.2.2.1
                    obtain rfl := hL
                    obtain rfl : wx = (Wb.drew) := H.out.cw
                    obtain rfl := H.out.c2 rfl
                    refine wpOp_step rfl (fun K' hK => ?_)
                    go_simp
                    refine hK _ _ ?_
                    exact ⟨d0, d1, true, true, d4, d5, d6, d7, d8, d9, d10, d11, d12, false, rfl, _, _, _, _, _, _, _, _, _, _, _, _, _, rfl, ⟨H.out.cw, H.out.c0, H.out.c1, H.out.c2, fun _ => rfl, H.out.c4, H.out.c5, H.out.c6, H.out.c7, H.out.c8, H.out.c9, H.out.c10, H.out.c11, H.out.c12, (fun hd => nomatch hd)⟩⟩
                  · obtain rfl : d4 = false := by simpa using hi1
                    clear hi1
                    have hL : d13 = false := by
                      rcases hq : d13 with _ | _
                      · rfl
                      · exact nomatch (H.out.oL hq).2.2.2.2.1
                    obtain rfl := hL
                    obtain rfl : wx = (Wb.drew) := H.out.cw
                    refine wpOp_step rfl (fun K' hK => ?_)
                    go_simp
                    refine hK _ _ ?_
                    exact ⟨d0, d1, d2, d3, true, d5, d6, d7, d8, d9, d10, d11, d12, false, rfl, _, _, _, _, _, _, _, _, _, _, _, _, _, rfl, ⟨H.out.cw, H.out.c0, H.out.c1, H.out.c2, H.out.c3, fun _ => rfl, H.out.c5, H.out.c6, H.out.c7, H.out.c8, H.out.c9, H.out.c10, H.out.c11, H.out.c12, (fun hd => nomatch hd)⟩⟩
                  · obtain rfl : d5 = false := by simpa using hi1
                    have e4 : d4 = true := by simp only [hi2]
                    clear hi1 hi2
                    subst e4
                    have hL : d13 = false := by
                      rcases hq : d13 with _ | _
                      · rfl
                      · exact nomatch (H.out.oL hq).2.2.2.2.2.1
                    obtain rfl := hL
                    obtain rfl : wx = (Wb.drew) := H.out.cw
                    obtain rfl := H.out.c4 rfl
                    refine wpOp_step rfl (fun K' hK => ?_)
                    go_simp
                    refine hK _ _ ?_
                    exact ⟨d0, d1, d2, d3, true, true, d6, d7, d8, d9, d10, d11, d12, false, rfl, _, _, _, _, _, _, _, _, _, _, _, _, _, rfl, ⟨H.out.cw, H.out.c0, H.out.c1, H.out.c2, H.out.c3, H.out.c4, fun _ => rfl, H.out.c6, H.out.c7, H.out.c8, H.out.c9, H.out.c10, H.out.c11, H.out.c12, (fun hd => nomatch hd)⟩⟩
                  · obtain rfl : d6 = false := by simpa using hi1
                    have e5 : d5 = true := by simp only [hi2]
                    clear hi1 hi2
                    subst e5
                    have hL : d13 = false := by
                      rcases hq : d13 with _ | _
                      · rfl
                      · exact nomatch (H.out.oL hq).2.2.2.2.2.2.1
                    obtain rfl := hL
                    obtain rfl : wx = (Wb.drew) := H.out.cw
                    obtain rfl := H.out.c5 rfl
                    refine wpOp_step rfl (fun K' hK => ?_)
                    go_simp
                    refine hK _ _ ?_
                    exact ⟨d0, d1, d2, d3, d4, true, true, d7, d8, d9, d10, d11, d12, false, rfl, _, _, _, _, _, _, _, _, _, _, _, _, _, rfl, ⟨H.out.cw, H.out.c0, H.out.c1, H.out.c2, H.out.c3, H.out.c4, H.out.c5, fun _ => rfl, H.out.c7, H.out.c8, H.out.c9, H.out.c10, H.out.c11, H.out.c12, (fun hd => nomatch hd)⟩⟩
                  · obtain rfl : d7 = false := by simpa using hi1
                    have e6 : d6 = true := by simp only [hi2]
                    clear hi1 hi2
                    subst e6
                    have hL : d13 = false := by
                      rcases hq : d13 with _ | _
                      · rfl
                      · exact nomatch (H.out.oL hq).2.2.2.2.2.2.2.1
                    obtain rfl := hL
                    obtain rfl : wx = (Wb.drew) := H.out.cw
                    obtain rfl := H.out.c6 rfl
                    refine wpOp_step rfl (fun K' hK => ?_)
                    go_simp
                    refine hK _ _ ?_
                    exact ⟨d0, d1, d2, d3, d4, d5, true, true, d8, d9, d10, d11, d12, false, rfl, _, _, _, _, _, _, _, _, _, _, _, _, _, rfl, ⟨H.out.cw, H.out.c0, H.out.c1, H.out.c2, H.out.c3, H.out.c4, H.out.c5, H.out.c6, fun _ => rfl, H.out.c8, H.out.c9, H.out.c10, H.out.c11, H.out.c12, (fun hd => nomatch hd)⟩⟩
                  · obtain rfl : d8 = false := by simpa using hi1
                    clear hi1
                    have hL : d13 = false := by
                      rcases hq : d13 with _ | _
                      · rfl
                      · exact nomatch (H.out.oL hq).2.2.2.2.2.2.2.2.1
                    obtain rfl := hL
                    obtain rfl : wx = (Wb.drew) := H.out.cw
                    refine wpOp_step rfl (fun K' hK => ?_)
                    go_simp
                    refine hK _ _ ?_
                    exact ⟨d0, d1, d2, d3, d4, d5, d6, d7, true, d9, d10, d11, d12, false, rfl, _, _, _, _, _, _, _, _, _, _, _, _, _, rfl, ⟨H.out.cw, H.out.c0, H.out.c1, H.out.c2, H.out.c3, H.out.c4, H.out.c5, H.out.c6, H.out.c7, fun _ => rfl, H.out.c9, H.out.c10, H.out.c11, H.out.c12, (fun hd => nomatch hd)⟩⟩
                  · obtain rfl : d9 = false := by simpa using hi1
                    have e7 : d7 = true := by simp only [hi2]
                    have e8 : d8 = true := by simp only [hi2]
                    clear hi1 hi2
                    subst e7
                    subst e8
                    have hL : d13 = false := by
                      rcases hq : d13 with _ | _
                      · rfl
                      · exact nomatch (H.out.oL hq).2.2.2.2.2.2.2.2.2.1
                    obtain rfl := hL
                    obtain rfl : wx = (Wb.drew) := H.out.cw
                    obtain rfl := H.out.c7 rfl
                    obtain rfl := H.out.c8 rfl
                    refine wpOp_step rfl (fun K' hK => ?_)
                    go_simp
                    refine hK _ _ ?_
                    exact ⟨d0, d1, d2, d3, d4, d5, d6, true, true, true, d10, d11, d12, false, rfl, _, _, _, _, _, _, _, _, _, _, _, _, _, rfl, ⟨H.out.cw, H.out.c0, H.out.c1, H.out.c2, H.out.c3, H.out.c4, H.out.c5, H.out.c6, H.out.c7, H.out.c8, fun _ => rfl, H.out.c10, H.out.c11, H.out.c12, (fun hd => nomatch hd)⟩⟩
                  · obtain rfl : d10 = false := by simpa using hi1
                    have e9 : d9 = true := by simp only [hi2]
                    clear hi1 hi2
                    subst e9
                    have hL : d13 = false := by
                      rcases hq : d13 with _ | _
                      · rfl
                      · exact nomatch (H.out.oL hq).2.2.2.2.2.2.2.2.2.2.1
                    obtain rfl := hL
                    obtain rfl : wx = (Wb.drew) := H.out.cw
                    obtain rfl := H.out.c9 rfl
                    refine wpOp_step rfl (fun K' hK => ?_)
                    go_simp
                    refine hK _ _ ?_
                    exact ⟨d0, d1, d2, d3, d4, d5, d6, d7, d8, true, true, d11, d12, false, rfl, _, _, _, _, _, _, _, _, _, _, _, _, _, rfl, ⟨H.out.cw, H.out.c0, H.out.c1, H.out.c2, H.out.c3, H.out.c4, H.out.c5, H.out.c6, H.out.c7, H.out.c8, H.out.c9, fun _ => rfl, H.out.c11, H.out.c12, (fun hd => nomatch hd)⟩⟩
                  · obtain rfl : d11 = false := by simpa using hi1
                    clear hi1
                    have hL : d13 = false := by
                      rcases hq : d13 with _ | _
                      · rfl
                      · exact nomatch (H.out.oL hq).2.2.2.2.2.2.2.2.2.2.2.1
                    obtain rfl := hL
                    obtain rfl : wx = (Wb.drew) := H.out.cw
                    refine wpOp_step rfl (fun K' hK => ?_)
                    go_simp
                    refine hK _ _ ?_
                    exact ⟨d0, d1, d2, d3, d4, d5, d6, d7, d8, d9, d10, true, d12, false, rfl, _, _, _, _, _, _, _, _, _, _, _, _, _, rfl, ⟨H.out.cw, H.out.c0, H.out.c1, H.out.c2, H.out.c3, H.out.c4, H.out.c5, H.out.c6, H.out.c7, H.out.c8, H.out.c9, H.out.c10, fun _ => rfl, H.out.c12, (fun hd => nomatch hd)⟩⟩
                  · obtain rfl : d12 = false := by simpa using hi1
                    have e3 : d3 = true := by simp only [hi2]
                    have e10 : d10 = true := by simp only [hi2]
                    have e0 : d0 = true := by simp only [hi2]
                    have e1 : d1 = true := by simp only [hi2]
                    have e2 : d2 = true := by simp only [hi2]
                    have e4 : d4 = true := by simp only [hi2]
                    have e5 : d5 = true := by simp only [hi2]
                    have e6 : d6 = true := by simp only [hi2]
                    have e7 : d7 = true := by simp only [hi2]
                    have e8 : d8 = true := by simp only [hi2]
                    have e9 : d9 = true := by simp only [hi2]
                    have e11 : d11 = true := by simp only [hi2]
                    clear hi1 hi2
                    subst e3
                    subst e10
                    subst e0
                    subst e1
                    subst e2
                    subst e4
                    subst e5
                    subst e6
                    subst e7
                    subst e8
                    subst e9
                    subst e11
                    have hL : d13 = false := by
                      rcases hq : d13 with _ | _
                      · rfl
                      · exact nomatch (H.out.oL hq).2.2.2.2.2.2.2.2.2.2.2.2
                    obtain rfl := hL
                    obtain rfl : wx = (Wb.drew) := H.out.cw
                    obtain rfl := H.out.c3 rfl
                    obtain rfl := H.out.c10 rfl
                    refine wpOp_step rfl (fun K' hK => ?_)
                    go_simp
                    refine hK _ _ ?_
                    exact ⟨true, true, true, true, true, true, true, true, true, true, true, true, true, false, rfl, _, _, _, _, _, _, _, _, _, _, _, _, _, rfl, ⟨H.out.cw, H.out.c0, H.out.c1, H.out.c2, H.out.c3, H.out.c4, H.out.c5, H.out.c6, H.out.c7, H.out.c8, H.out.c9, H.out.c10, H.out.c11, fun _ => rfl, (fun hd => nomatch hd)⟩⟩
                  · obtain rfl : d13 = false := by simpa using hi1
                    have e12 : d12 = true := by simp only [hi2]
                    have e11 : d11 = true := by simp only [hi2]
                    have e0 : d0 = true := by simp only [hi2]
                    have e1 : d1 = true := by simp only [hi2]
                    have e2 : d2 = true := by simp only [hi2]
                    have e3 : d3 = true := by simp only [hi2]
                    have e4 : d4 = true := by simp only [hi2]
                    have e5 : d5 = true := by simp only [hi2]
                    have e6 : d6 = true := by simp only [hi2]
                    have e7 : d7 = true := by simp only [hi2]
                    have e8 : d8 = true := by simp only [hi2]
                    have e9 : d9 = true := by simp only [hi2]
                    have e10 : d10 = true := by simp only [hi2]
                    clear hi1 hi2
                    subst e12
                    subst e11
                    subst e0
                    subst e1
                    subst e2
                    subst e3
                    subst e4
                    subst e5
                    subst e6
                    subst e7
                    subst e8
                    subst e9
                    subst e10
                    obtain rfl : wx = (Wb.drew) := H.out.cw
                    obtain rfl := H.out.c12 rfl
                    obtain rfl := H.out.c11 rfl
                    refine wpOp_step rfl (fun K' hK => ?_)
                    go_simp
                    skip
                    refine hK _ _ ?_
                    exact ⟨true, true, true, true, true, true, true, true, true, true, true, true, true, true, rfl, _, _, _, _, _, _, _, _, _, _, _, _, _, rfl, ⟨rfl, H.out.c0, H.out.c1, H.out.c2, H.out.c3, H.out.c4, H.out.c5, H.out.c6, H.out.c7, H.out.c8, H.out.c9, H.out.c10, H.out.c11, H.out.c12, fun _ => ⟨rfl, rfl, rfl, rfl, rfl, rfl, rfl, rfl, rfl, rfl, rfl, rfl, rfl⟩⟩⟩
                case rinit =>
                  exact ⟨false, false, false, false, false, false, false, false, false, false, false, false, false, false, rfl, _, _, _, _, _, _, _, _, _, _, _, _, _, rfl, ⟨rfl, (fun hd => nomatch hd), (fun hd => nomatch hd), (fun hd => nomatch hd), (fun hd => nomatch hd), (fun hd => nomatch hd), (fun hd => nomatch hd), (fun hd => nomatch hd), (fun hd => nomatch hd), (fun hd => nomatch hd), (fun hd => nomatch hd), (fun hd => nomatch hd), (fun hd => nomatch hd), (fun hd => nomatch hd), (fun hd => nomatch hd)⟩⟩
                case rdone =>
                  rintro listed a wx ⟨d0, d1, d2, d3, d4, d5, d6, d7, d8, d9, d10, d11, d12, d13, rfl, v0, v1, v2, v3, v4, v5, v6, v7, v8, v9, v10, v11, v12, rfl, H⟩ hr
                  obtain rfl : d0 = true := by simpa using ready_none hr 0 (by decide) (by simp [Region.binds])
                  obtain rfl : d1 = true := by simpa using ready_none hr 1 (by decide) (by simp [Region.binds])
                  obtain rfl : d2 = true := by simpa using ready_none hr 2 (by decide) (by simp [Region.binds])
                  obtain rfl : d3 = true := by simpa using ready_none hr 3 (by decide) (by simp [Region.binds])
                  obtain rfl : d4 = true := by simpa using ready_none hr 4 (by decide) (by simp [Region.binds])
                  obtain rfl : d5 = true := by simpa using ready_none hr 5 (by decide) (by simp [Region.binds])
                  obtain rfl : d6 = true := by simpa using ready_none hr 6 (by decide) (by simp [Region.binds])
                  obtain rfl : d7 = true := by simpa using ready_none hr 7 (by decide) (by simp [Region.binds])
                  obtain rfl : d8 = true := by simpa using ready_none hr 8 (by decide) (by simp [Region.binds])
                  obtain rfl : d9 = true := by simpa using ready_none hr 9 (by decide) (by simp [Region.binds])
                  obtain rfl : d10 = true := by simpa using ready_none hr 10 (by decide) (by simp [Region.binds])
                  obtain rfl : d11 = true := by simpa using ready_none hr 11 (by decide) (by simp [Region.binds])
                  obtain rfl : d12 = true := by simpa using ready_none hr 12 (by decide) (by simp [Region.binds])
                  obtain rfl : d13 = true := by simpa using ready_none hr 13 (by decide) (by simp [Region.binds])
                  obtain rfl := H.out.c0 rfl
                  obtain rfl := H.out.c1 rfl
                  obtain rfl := H.out.c2 rfl
                  obtain rfl := H.out.c3 rfl
                  obtain rfl := H.out.c4 rfl
                  obtain rfl := H.out.c5 rfl
                  obtain rfl := H.out.c6 rfl
                  obtain rfl := H.out.c7 rfl
                  obtain rfl := H.out.c8 rfl
                  obtain rfl := H.out.c9 rfl
                  obtain rfl := H.out.c10 rfl
                  obtain rfl := H.out.c11 rfl
                  obtain rfl := H.out.c12 rfl
                  obtain rfl : wx = ((Wb.setCell ⟨g4, av, none⟩ (.int .i64 (b : Nat))).drew) := H.out.cw
                  clear hr H
                  obtain ⟨Wc, hWc⟩ : ∃ Wc, Wc = (Wb.setCell ⟨g4, av, none⟩ (.int .i64 (b : Nat))).drew := ⟨_, rfl⟩
                  rw [← hWc] at HP3 ⊢
                  clear hWc pb pf4 pf5 k5 k4 k4f HP2
                  have HR : Hid (NW o q (i + 1) (updN at' b av) (updN fr1 b (av + 1)) ∧ (∀ x, x ∈ o.take (i + 1) → A1 x = (updN at' b av x : Nat)) ∧ ∀ x, x ∉ o.take (i + 1) → A1 x = -1) := by
                    refine ⟨HFN.out.1, fun x hx => ?_, fun x hx => (HFN.out.2.2 x fun e => hx ((mem_take_succ HGET.out x).2 (.inr e))).trans (HFW2.out.2.2 x fun h => hx ((mem_take_succ HGET.out x).2 (.inl h)))⟩
                    by_cases e : x = b
                    · subst e; rw [updN_same]; exact HAV.out
                    · rw [updN_other _ _ e, HFN.out.2.2 x e]
                      refine HFW2.out.2.1 x ?_
                      rcases (mem_take_succ HGET.out x).1 hx with h | h
                      · exact h
                      · exact absurd h e
                  go_wp2_with fail
                  go_roundg gj
                  case measure => omega
                  case rel => exact ⟨i + 1, _, _, _, _, by go_num, by omega, HR, HP3⟩
    case stop =>
      rintro D2 c pre W _ _ h _
      exact h.elim

end Go.Proofs.YthlngmknifpbjaaDoor
