/-
  Package posternref, OnceFault: its two arrays; plain.
-/
import Derived.Test.YthlngmknifpbjaaDoorSsM
import Derived.Test.YthlngmknifpbjaaDoorJSsE
import Derived.Test.YthlngmknifpbjaaDoorSaC
import Derived.Test.YthlngmknifpbjaaDoorJSbS0
import Derived.Test.YthlngmknifpbjaaDoorJIbH
import Derived.Test.YthlngmknifpbjaaDoorSoPc
namespace Go.Proofs.YthlngmknifpbjaaDoor
section
open Go.RowKit
set_option linter.unusedSimpArgs false
set_option linter.unusedVariables false

/-- plain grows: i blocks are in it -/
structure QN (w wr : World) (P i : Nat) (c : Cod) (po co : Obj) (v : Value) (vs : List Value) : Prop where
  bel : Below w.heap.size w wr
  hp : wr.heap[P]? = some po
  hc : wr.heap[P + 1]? = some co
  hq : wr.heap[P + 2]? = some (.cells #[.string ⟨c.name.toArray⟩, .int .i64 c.params, .int .i64 c.results, .int .i64 c.vars, .int .i64 c.slots, v] 28)
  own : wr.ownsRow (P + 3) 32 1 v i vs
  each : ∀ (j : Nat) (u : Value) (b : List Ins), vs[j]? = some u → c.blocks[j]? = some b → Blk w.heap.size w u (dropP b)
  sz : P + 3 ≤ wr.heap.size

variable {w wr W2 w1 : World} {P i : Nat} {c : Cod} {po co : Obj} {v u' : Value} {vs : List Value}
theorem QN.len (h : QN w wr P i c po co v vs) : vs.length = i := by have := h.own.1; omega
theorem QN.push {g cap : Nat} {b : List Ins} (h : QN w wr P i c po co v vs) (hP : P = w.heap.size) (hb : c.blocks[i]? = some b) (hu : Blk w.heap.size w u' (dropP b)) (hW : Below wr.heap.size wr W2)
    (hown : w1.ownsRow (P + 3) 32 1 (.slice (some ⟨g, 0, none⟩) (i + 1) cap) (i + 1) (vs ++ [u'])) (hg : W2.grownBy w1 v.ownBlock) :
    QN w (w1.setCell ⟨P + 2, 5, none⟩ (.slice (some ⟨g, 0, none⟩) (i + 1) cap)) P (i + 1) c po co (.slice (some ⟨g, 0, none⟩) (i + 1) cap) (vs ++ [u']) := by
  have hs := hW.size
  have hz := h.sz
  have hsg := hg.size
  have hv : ∀ k, v.ownBlock = some k → P + 3 ≤ k := fun k e => (own_lt h.own e).1
  have hgP := (own_lt hown (g := g) rfl).1
  have hk : ∀ k, k < wr.heap.size → k < P + 3 → w1.heap[k]? = wr.heap[k]? := fun k h1 h2 => (hg.block k (by omega) (fun e => by have := hv k e.symm; omega)).trans (hW.block k h1)
  have hbw := h.bel
  have hbs := hbw.size
  refine ⟨⟨hg.os.trans (hW.os.trans hbw.os), hg.tape.trans (hW.tape.trans hbw.tape), hg.output.trans (hW.output.trans hbw.output), by simp [World.setCell]; omega, fun k hk2 => ?_⟩, ?_, ?_, ?_, ?_, ?_, by simp [World.setCell]; omega⟩
  · exact (Below.heap_setCell _ _ _ _ (by show k ≠ P + 2; omega)).trans ((hk k (by omega) (by omega)).trans (hbw.block k hk2))
  · exact (Below.heap_setCell _ _ _ _ (by show P ≠ P + 2; omega)).trans ((hk P (by omega) (by omega)).trans h.hp)
  · exact (Below.heap_setCell _ _ _ _ (by show P + 1 ≠ P + 2; omega)).trans ((hk (P + 1) (by omega) (by omega)).trans h.hc)
  · have h2 := (hk (P + 2) (by omega) (by omega)).trans h.hq
    have h3 := heap_setCell_same (o := 5) h2 (.slice (some ⟨g, 0, none⟩) (i + 1) cap)
    simpa using h3
  · exact own_same hown fun g' hg' => Below.heap_setCell _ _ _ _ (by have := (own_lt hown hg').1; show g' ≠ P + 2; omega)
  · intro j u b' hj hb'
    have hl := h.len
    rcases Nat.lt_or_ge j i with hlt | hge
    · rw [List.getElem?_append_left (by omega)] at hj
      exact h.each j u b' hj hb'
    · rw [List.getElem?_append_right (by omega)] at hj
      have hj0 : j - vs.length = 0 := by
        rcases Nat.eq_zero_or_pos (j - vs.length) with h0 | h0
        · exact h0
        · rw [List.getElem?_eq_none (by simp; omega)] at hj; cases hj
      rw [hj0] at hj
      have e1 : u' = u := by simpa using hj
      have e2 : j = i := by omega
      rw [e2, hb] at hb'
      cases hb'
      rw [← e1]; exact hu

theorem QN.blks (h : QN w wr P i c po co v vs) (hn : i = c.blocks.length) : Blks wr.heap.size wr v (c.blocks.map dropP) := by
  have hl := h.len
  obtain ⟨a, k, rfl⟩ : ∃ a k, v = .slice a i k := own_slice h.own
  have hcp := own_cap h.own
  refine ⟨by simp; omega, a, k, by simp [hn], fun h0 => ?_⟩
  have hn0 : 0 < i := by rw [hn]; simpa using h0
  obtain ⟨g, cap, he, _, hg, _, _, _, hat⟩ := own_at h.own hn0
  cases he
  refine ⟨g, 0, rfl, hg, fun j y hy => ?_⟩
  rw [List.getElem?_map] at hy
  obtain ⟨b, hb, rfl⟩ := Option.map_eq_some_iff.1 hy
  have hi : j < i := by rw [hn]; exact (List.getElem?_eq_some_iff.1 hb).1
  obtain ⟨u, hu⟩ : ∃ u, vs[j]? = some u := ⟨_, List.getElem?_eq_getElem (by omega)⟩
  refine ⟨[u], rfl, ⟨u, rfl, (Blk.below (h.each j u b hu hb) h.bel).up h.bel.size⟩, fun q hq => ?_⟩
  have hq0 : q = 0 := by omega
  subst hq0
  have := hat j u hu
  simpa using this

theorem aheadL_rows (c : Cod) : aheadL c.blocks = (List.range c.blocks.length).map fun t => rowL (c.blocks.map leadsL) t c.blocks.length := by
  unfold aheadL aheadF
  congr 1
  funext t
  rw [rowL_leads]
end

section
open Go.RowKit
set_option linter.unusedSimpArgs false
set_option linter.unusedVariables false

/-- blockOf (its row at G, its box behind it) and placeOf (at G + 2) -/
structure AR (G : Nat) (w3 wr : World) (nv : Nat) (bk pl : Nat → Int) : Prop where
  bel : Below G w3 wr
  rb : RowI wr G G nv bk
  bb : wr.heap[G + 1]? = some (.cells #[.slice (some ⟨G, 0, none⟩) nv nv] 23)
  rp : RowI wr G (G + 2) nv pl
  bp : wr.heap[G + 3]? = some (.cells #[.slice (some ⟨G + 2, 0, none⟩) nv nv] 23)

variable {G nv : Nat} {w3 wr wr' : World} {bk pl : Nat → Int}
theorem AR.keep (h : AR G w3 wr nv bk pl) (hk : Below wr.heap.size wr wr') (hG : G ≤ wr.heap.size) : AR G w3 wr' nv bk pl :=
  ⟨h.bel.trans (hk.mono hG), h.rb.keep (hk.block G h.rb.lt.2), (hk.block _ (lt_of_block h.bb)).trans h.bb, h.rp.keep (hk.block _ h.rp.lt.2), (hk.block _ (lt_of_block h.bp)).trans h.bp⟩
theorem AR.setB (h : AR G w3 wr nv bk pl) {i : Nat} (hi : i < nv) (x : Int) : AR G w3 (wr.setCell ⟨G, i, none⟩ (.int .i64 x)) nv (fset bk i x) pl :=
  ⟨below_set h.bel (Nat.le_refl _) _, h.rb.set hi x, (Below.heap_setCell _ _ _ _ (by show G + 1 ≠ G; omega)).trans h.bb, h.rp.off (by omega) _, (Below.heap_setCell _ _ _ _ (by show G + 3 ≠ G; omega)).trans h.bp⟩
theorem AR.setP (h : AR G w3 wr nv bk pl) {i : Nat} (hi : i < nv) (x : Int) : AR G w3 (wr.setCell ⟨G + 2, i, none⟩ (.int .i64 x)) nv bk (fset pl i x) :=
  ⟨below_set h.bel (by omega) _, h.rb.off (by omega) _, (Below.heap_setCell _ _ _ _ (by show G + 1 ≠ G + 2; omega)).trans h.bb, h.rp.set hi x, (Below.heap_setCell _ _ _ _ (by show G + 3 ≠ G + 2; omega)).trans h.bp⟩
theorem AR.drew (h : AR G w3 wr nv bk pl) : AR G w3 wr.drew nv bk pl :=
  ⟨h.bel.drew, h.rb.keep rfl, h.bb, h.rp.keep rfl, h.bp⟩
theorem AR.drewN (h : AR G w3 wr nv bk pl) (n : Nat) : AR G w3 (wr.drewN n) nv bk pl :=
  ⟨below_drewN h.bel n, h.rb.keep rfl, h.bb, h.rp.keep rfl, h.bp⟩
theorem AR.box (h : AR G w3 wr nv bk pl) : wr.cell? ⟨G + 1, 0, none⟩ = some (.slice (some ⟨G, 0, none⟩) nv nv) ∧ wr.cell? ⟨G + 3, 0, none⟩ = some (.slice (some ⟨G + 2, 0, none⟩) nv nv) :=
  ⟨by simp [World.cell?, h.bb], by simp [World.cell?, h.bp]⟩
theorem alloc_sz4 (w : World) (o : Obj) : (w.alloc o).heap.size = w.heap.size + 1 := by simp
theorem AR.make {w w1 w2 w3' w4 : World} (hn : nv ≤ 3000) (h1 : w1 = w.alloc (.cells (numsL (fnL nv (fun _ => 0))).toArray 3)) (h2 : w2 = w1.alloc (.cells #[.slice (some ⟨w.heap.size, 0, none⟩) nv nv] 23))
    (h3 : w3' = w2.alloc (.cells (numsL (fnL nv (fun _ => 0))).toArray 3)) (h4 : w4 = w3'.alloc (.cells #[.slice (some ⟨w.heap.size + 2, 0, none⟩) nv nv] 23)) : AR w.heap.size w w4 nv (fun _ => 0) (fun _ => 0) := by
  have s1 : w1.heap.size = w.heap.size + 1 := by rw [h1, alloc_sz4]
  have s2 : w2.heap.size = w.heap.size + 2 := by rw [h2, alloc_sz4, s1]
  have s3 : w3'.heap.size = w.heap.size + 3 := by rw [h3, alloc_sz4, s2]
  have b1 : Below w.heap.size w w1 := by rw [h1]; exact below_alloc _ _
  have b2 : Below w1.heap.size w1 w2 := by rw [h2]; exact below_alloc _ _
  have b3 : Below w2.heap.size w2 w3' := by rw [h3]; exact below_alloc _ _
  have b4 : Below w3'.heap.size w3' w4 := by rw [h4]; exact below_alloc _ _
  have k1 : w1.heap[w.heap.size]? = some (.cells (numsL (fnL nv (fun _ => 0))).toArray 3) := by rw [h1]; exact heap_alloc_new _ _
  have k2 : w2.heap[w.heap.size + 1]? = some (.cells #[.slice (some ⟨w.heap.size, 0, none⟩) nv nv] 23) := by rw [h2, ← s1]; exact heap_alloc_new _ _
  have k3 : w3'.heap[w.heap.size + 2]? = some (.cells (numsL (fnL nv (fun _ => 0))).toArray 3) := by rw [h3, ← s2]; exact heap_alloc_new _ _
  have k4 : w4.heap[w.heap.size + 3]? = some (.cells #[.slice (some ⟨w.heap.size + 2, 0, none⟩) nv nv] 23) := by rw [h4, ← s3]; exact heap_alloc_new _ _
  have ml : nv ≤ maxLen := by unfold maxLen; omega
  refine ⟨below_after (below_after (below_after b1 b2) b3) b4, rowI_of_block ?_ (Nat.le_refl _) ml, ?_, rowI_of_block ?_ (by omega) ml, k4⟩
  · exact (b4.block _ (by omega)).trans ((b3.block _ (by omega)).trans ((b2.block _ (by omega)).trans k1))
  · exact (b4.block _ (by omega)).trans ((b3.block _ (by omega)).trans k2)
  · exact (b4.block _ (by omega)).trans k3

theorem ar_of {c : Cod} {AH : List (List Int)} (h : FineP c) (hp : phiA c.vars AH c.blocks = 0) : ∀ bl ∈ c.blocks, ∀ x ∈ bl, ∀ d ∈ x.ar, 0 ≤ d ∧ d < c.vars := by
  intro bl hbl x hx d hd
  obtain ⟨b, hb⟩ := List.getElem?_of_mem hbl
  obtain ⟨k, hk⟩ := List.getElem?_of_mem hx
  rcases Nat.lt_or_ge k (phiN bl) with hl | hl
  · exact belowB_mem (phi_of hp hb hl hk).2.2.2.1 hd
  · exact belowB_mem (h.ins b bl k x hb hl hk).2.2 hd
/-- what is answered when it is known where variables are set -/
noncomputable def endS (L AH : List (List Int)) (bs : List (List Ins)) : Option SetM → Int
  | none => 7
  | some S => if usesY L AH bs S then 0 else 12
theorem KC.keep {w w' : World} {ob op oi ab gb gp nv B : Nat} {bk pl : Nat → Int} {va : Value} {AB : List (List Int)} (h : KC w ob op oi ab gb gp nv bk pl va B AB) (k : Below w.heap.size w w') (hB : B ≤ w.heap.size) : KC w' ob op oi ab gb gp nv bk pl va B AB :=
  ⟨(k.cell (World.block_lt_of_cell? w _ h.cb)).trans h.cb, (k.cell (World.block_lt_of_cell? w _ h.cp)).trans h.cp, (k.cell (World.block_lt_of_cell? w _ h.ci)).trans h.ci, (k.cell (World.block_lt_of_cell? w _ h.ca)).trans h.ca,
    h.rb.keep (k.block gb h.rb.lt.2), h.rp.keep (k.block gp h.rp.lt.2), Rws.below h.rA (k.mono hB)⟩
open Classical in
/-- is what a block asks known? -/
noncomputable def okB (L AH : List (List Int)) (bs : List (List Ins)) (S : SetM) (b : Nat) : Bool :=
  !decide (Rch (preL L) b) || (List.range (bs.getD b []).length).all fun k =>
    match (bs.getD b [])[k]? with
    | some x => (List.range x.ar.length).all (askY L AH bs S x b (k : Int))
    | none => true
theorem usesY_all (L AH : List (List Int)) (bs : List (List Ins)) (S : SetM) : usesY L AH bs S = (List.range bs.length).all (okB L AH bs S) := rfl
open Classical in
theorem abD_iff (L : List (List Int)) (k i : Nat) : abD L k i = true ↔ Rch (preL L) k ∧ Rch (preL L) i ∧ Dom (preL L) k i := by unfold abD; exact decide_eq_true_iff
open Classical in
theorem askY_eq {L AH : List (List Int)} {bs : List (List Ins)} {S : SetM} {x : Ins} {hb fb i : Nat} {ha fa a : Int} (h : x.ar[i]? = some a) (hf : fromM AH bs x hb ha i = (fb, fa)) : askY L AH bs S x hb ha i = (!decide (Rch (preL L) fb) || hasY L S a fb fa) := by
  unfold askY
  rw [h]
  simp only
  rw [hf]
theorem askY_dead {L AH : List (List Int)} {bs : List (List Ins)} {S : SetM} {x : Ins} {hb fb i : Nat} {ha fa a : Int} (h : x.ar[i]? = some a) (hf : fromM AH bs x hb ha i = (fb, fa)) (hr : ¬ Rch (preL L) fb) : askY L AH bs S x hb ha i = true := by
  rw [askY_eq h hf]; simp [hr]
theorem askY_live {L AH : List (List Int)} {bs : List (List Ins)} {S : SetM} {x : Ins} {hb fb i : Nat} {ha fa a : Int} (h : x.ar[i]? = some a) (hf : fromM AH bs x hb ha i = (fb, fa)) (hr : Rch (preL L) fb) : askY L AH bs S x hb ha i = hasY L S a fb fa := by
  rw [askY_eq h hf]; simp [hr]
open Classical in
theorem okB_dead {L AH : List (List Int)} {bs : List (List Ins)} {S : SetM} {b : Nat} (h : ¬ Rch (preL L) b) : okB L AH bs S b = true := by
  unfold okB; simp [h]
open Classical in
theorem okB_live {L AH : List (List Int)} {bs : List (List Ins)} {S : SetM} {b : Nat} {bl : List Ins} (hb : bs[b]? = some bl) (h : ∀ (k : Nat) (x : Ins), bl[k]? = some x → ∀ i, i < x.ar.length → askY L AH bs S x b (k : Int) i = true) : okB L AH bs S b = true := by
  unfold okB
  rw [Bool.or_eq_true]
  right
  rw [List.all_eq_true]
  intro k hk
  have e : bs.getD b [] = bl := by rw [List.getD_eq_getElem?_getD, hb]; rfl
  rw [e] at hk ⊢
  rcases hx : bl[k]? with _ | x
  · rfl
  · simp only
    rw [List.all_eq_true]
    intro i hi
    exact h k x hx i (List.mem_range.1 hi)
open Classical in
theorem okB_bad {L AH : List (List Int)} {bs : List (List Ins)} {S : SetM} {b k i : Nat} {bl : List Ins} {x : Ins} (hr : Rch (preL L) b) (hb : bs[b]? = some bl) (hx : bl[k]? = some x) (hi : i < x.ar.length) (h : askY L AH bs S x b (k : Int) i = false) : okB L AH bs S b = false := by
  unfold okB
  have e : bs.getD b [] = bl := by rw [List.getD_eq_getElem?_getD, hb]; rfl
  rw [e]
  rw [Bool.or_eq_false_iff]
  refine ⟨by simp [hr], ?_⟩
  rw [List.all_eq_false]
  refine ⟨k, List.mem_range.2 (List.getElem?_eq_some_iff.1 hx).1, ?_⟩
  rw [hx]
  simp only
  rw [Bool.not_eq_true, List.all_eq_false]
  exact ⟨i, List.mem_range.2 hi, by rw [h]; simp⟩
theorem setP_nat {p : Int} {i : Nat} (h0 : 0 ≤ p) (h : (i : Int) = p) : setP ((i : Nat) : Int) = setP p := by rw [h]
end

end Go.Proofs.YthlngmknifpbjaaDoor
