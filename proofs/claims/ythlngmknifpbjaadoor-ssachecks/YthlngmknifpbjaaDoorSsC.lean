/-
  Package ssa: flowOf, and what it answers besides. (gen_SsC.py writes this text out of SbQ.)
-/
import Derived.Test.YthlngmknifpbjaaDoorSbQ0
import Derived.Test.YthlngmknifpbjaaDoorSsB
namespace Go.Proofs.YthlngmknifpbjaaDoor
open Go.RowKit
set_option linter.unusedSimpArgs false
set_option linter.unusedVariables false

theorem set_size (w : World) (a : Addr) (v : Value) : (w.setCell a v).heap.size = w.heap.size := by simp [World.setCell]
def put7 (w : World) (R : Nat) (a0 a1 a2 a3 a4 a5 a6 : Value) : World := ((((((w.setCell ⟨R, 0, none⟩ a0).setCell ⟨R, 1, none⟩ a1).setCell ⟨R, 2, none⟩ a2).setCell ⟨R, 3, none⟩ a3).setCell ⟨R, 4, none⟩ a4).setCell ⟨R, 5, none⟩ a5).setCell ⟨R, 6, none⟩ a6
theorem set_off (w : World) (R i k : Nat) (v : Value) (h : k ≠ R) : (w.setCell ⟨R, i, none⟩ v).heap[k]? = w.heap[k]? := Below.heap_setCell _ _ _ _ h
theorem put7_off (w : World) (R : Nat) (a0 a1 a2 a3 a4 a5 a6 : Value) {k : Nat} (h : k ≠ R) : (put7 w R a0 a1 a2 a3 a4 a5 a6).heap[k]? = w.heap[k]? :=
  (set_off _ R 6 k a6 h).trans ((set_off _ R 5 k a5 h).trans ((set_off _ R 4 k a4 h).trans ((set_off _ R 3 k a3 h).trans ((set_off _ R 2 k a2 h).trans ((set_off _ R 1 k a1 h).trans (set_off w R 0 k a0 h))))))
theorem set_rest (w : World) (a : Addr) (v : Value) : (w.setCell a v).heap.size = w.heap.size ∧ (w.setCell a v).os = w.os ∧ (w.setCell a v).tape = w.tape ∧ (w.setCell a v).output = w.output := ⟨set_size w a v, rfl, rfl, rfl⟩
theorem rest_trans {a b c : World} (h : b.heap.size = a.heap.size ∧ b.os = a.os ∧ b.tape = a.tape ∧ b.output = a.output) (k : c.heap.size = b.heap.size ∧ c.os = b.os ∧ c.tape = b.tape ∧ c.output = b.output) : c.heap.size = a.heap.size ∧ c.os = a.os ∧ c.tape = a.tape ∧ c.output = a.output := ⟨k.1.trans h.1, k.2.1.trans h.2.1, k.2.2.1.trans h.2.2.1, k.2.2.2.trans h.2.2.2⟩
theorem put7_size (w : World) (R : Nat) (a0 a1 a2 a3 a4 a5 a6 : Value) : (put7 w R a0 a1 a2 a3 a4 a5 a6).heap.size = w.heap.size ∧ (put7 w R a0 a1 a2 a3 a4 a5 a6).os = w.os ∧ (put7 w R a0 a1 a2 a3 a4 a5 a6).tape = w.tape ∧ (put7 w R a0 a1 a2 a3 a4 a5 a6).output = w.output :=
  rest_trans (rest_trans (rest_trans (rest_trans (rest_trans (rest_trans (set_rest w _ a0) (set_rest _ _ a1)) (set_rest _ _ a2)) (set_rest _ _ a3)) (set_rest _ _ a4)) (set_rest _ _ a5)) (set_rest _ _ a6)
theorem put7_here {w : World} {R : Nat} {z0 z1 z2 z3 z4 z5 z6 : Value} (h : w.heap[R]? = some (fobj z0 z1 z2 z3 z4 z5 z6)) (a0 a1 a2 a3 a4 a5 a6 : Value) : (put7 w R a0 a1 a2 a3 a4 a5 a6).heap[R]? = some (fobj a0 a1 a2 a3 a4 a5 a6) := by
  have b0 := heap_setCell_same (o := 0) h a0
  have b1 := heap_setCell_same (o := 1) b0 a1
  have b2 := heap_setCell_same (o := 2) b1 a2
  have b3 := heap_setCell_same (o := 3) b2 a3
  have b4 := heap_setCell_same (o := 4) b3 a4
  have b5 := heap_setCell_same (o := 5) b4 a5
  have b6 := heap_setCell_same (o := 6) b5 a6
  unfold put7
  rw [b6]
  simp [fobj]
theorem rowL_pre {L : List (List Int)} {t : Nat} (h : t < L.length) : rowL L t L.length = natsL (preL L t) := by
  unfold rowL natsL preL
  rw [if_pos h]
theorem natsL_len (o : List Nat) : (natsL o).length = o.length := by simp [natsL]
theorem UpOf.tree2 {L : List (List Int)} {o : List Nat} {u : Nat → Option Nat} (h : UpOf L o u) (ho : Ordered L o) {b : Nat} (hb : b ∈ o) (h0 : b ≠ 0) : u b = some ((u b).getD 0) := by
  rcases h.kn b ((ho.mem b).1 hb) with e | ⟨c, e⟩
  · exact absurd e h0
  · rw [e]; rfl
theorem UpOf.tree {L : List (List Int)} {o : List Nat} {u : Nat → Option Nat} (h : UpOf L o u) (ho : Ordered L o) : TR o (fun b => (u b).getD 0) :=
  ⟨ho.nodup, ho.head, fun b hb h0 => by
    have e := h.tree2 ho hb h0
    have h1 := h.st.up b _ e
    exact ⟨(ho.mem _).2 h1.2.1, h1.2.2.2⟩⟩

theorem make_rows (n : Nat) (hn : n * 24 ≤ 140737488351232) (W : World) : (Instr.makeSlice 34 (.int .i64 (n : Nat)) (.int .i64 (n : Nat))).run Tryd.prog W = .ok (.slice (some ⟨W.heap.size, 0, none⟩) n n) (W.alloc (.cells (List.replicate n (.slice none 0 0)).toArray 23)) := by
  obtain ⟨i1, hi1, hy0, hy1, hyb⟩ := infoParts infoInts
  have h := run_make (P := Tryd.prog) W 34 23 i1 _ (by kernel_rfl) hi1 hy0 .i64 .i64 (n : Nat) (n : Nat) (by omega) (Int.le_refl _) (by rw [hyb]; omega) (by omega)
  rw [h, hy1]
  have h1 : (madeCells #[Value.slice none 0 0] n).toList = List.replicate n (.slice none 0 0) := toList_madeCells_one _ _
  rw [← h1, Int.toNat_natCast, Nat.mul_one, Array.toArray_toList]
  rfl

theorem Grid.base {w : World} {B B' n : Nat} {v : Value} {vs : List Value} {f : Nat → List Int} (h : Grid w B n v vs f) (hb : B' ≤ B) : Grid w B' n v vs f :=
  ⟨own_base' h.row hb, fun i u hi hu => own_base' (h.each i u hi hu) hb, h.apart, h.away⟩
/-- none of a grid's rows lies there -/
def GOff (v : Value) (vs : List Value) (n g : Nat) : Prop := v.ownBlock ≠ some g ∧ ∀ i u, i < n → vs[i]? = some u → u.ownBlock ≠ some g
theorem Grid.off {w w' : World} {B n F : Nat} {v : Value} {vs : List Value} {f : Nat → List Int} (h : Grid w B n v vs f) (ho : GOff v vs n F) (hk : ∀ k, k ≠ F → w'.heap[k]? = w.heap[k]?) : Grid w' B n v vs f :=
  ⟨own_same h.row fun g hg => hk g fun e => ho.1 (e ▸ hg), fun i u hi hu => own_same (h.each i u hi hu) fun g hg => hk g fun e => ho.2 i u hi hu (e ▸ hg), h.apart, h.away⟩
theorem Grid.offBig {w : World} {B n F : Nat} {v : Value} {vs : List Value} {f : Nat → List Int} (h : Grid w B n v vs f) (hF : F < B ∨ w.heap.size ≤ F) : GOff v vs n F :=
  ⟨fun e => by have := own_lt h.row e; omega, fun i u hi hu e => by have := own_lt (h.each i u hi hu) e; omega⟩

structure U3 (w0 : World) (S n : Nat) (aL : Option Addr) (kL : Nat) (L : List (List Int)) (OG : Obj) (d0 d1 d2 d3 d4 d5 d6 d7 d8 d9 : Bool) (v8 v9 v10 v11 v12 v13 v14 v15 v3 : Value) (w : World) : Prop where
  bel : Below S w0 w
  c0 : d0 = true → v8 = .slice aL n kL
  c1 : d1 = true → ∃ vs, Grid w S n v9 vs (fun t => rowL L t n) ∧ (d8 = true → ∀ g, blkOf v3 = some g → GOff v9 vs n g) ∧ (d4 = true → ∀ g, blkOf v12 = some g → GOff v9 vs n g)
  c2 : d2 = true → v10 = .slice aL n kL
  c3 : d3 = true → v11 = .int .i64 (n : Nat)
  c4 : SlB S OG n n d4 v12 w
  c5 : d5 = true → v13 = .slice aL n kL
  c6 : d6 = true → ∃ o, w.ownsRow S 3 1 v14 o.length (numsL (natsL o)) ∧ (0 < n → Ordered L o) ∧ (n = 0 → o = []) ∧ (d8 = true → ∀ g, blkOf v3 = some g → v14.ownBlock ≠ some g) ∧ (d4 = true → ∀ g, blkOf v12 = some g → v14.ownBlock ≠ some g)
  c7 : d7 = true → v15 = .agg #[v9, v12, v14, .slice none 0 0, .slice none 0 0, .slice none 0 0, .slice none 0 0]
  c8 : d9 = false → PtB S (fobj (.slice none 0 0) (.slice none 0 0) (.slice none 0 0) (.slice none 0 0) (.slice none 0 0) (.slice none 0 0) (.slice none 0 0)) d8 v3 w
  c9 : d9 = true → PtB S (fobj v9 v12 v14 (.slice none 0 0) (.slice none 0 0) (.slice none 0 0) (.slice none 0 0)) d8 v3 w
  x48 : Dis d4 d8 v12 v3
  o7 : d7 = true → d1 = true ∧ d4 = true ∧ d6 = true
  o9 : d9 = true → d7 = true ∧ d8 = true

theorem U3.keep {w0 : World} {S n : Nat} {aL : Option Addr} {kL : Nat} {L : List (List Int)} {OG : Obj} {d0 d1 d2 d3 d4 d5 d6 d7 d8 d9 : Bool} {v8 v9 v10 v11 v12 v13 v14 v15 v3 : Value} {w w' : World} (h : U3 w0 S n aL kL L OG d0 d1 d2 d3 d4 d5 d6 d7 d8 d9 v8 v9 v10 v11 v12 v13 v14 v15 v3 w) (hS : S ≤ w.heap.size) (k : Below w.heap.size w w') : U3 w0 S n aL kL L OG d0 d1 d2 d3 d4 d5 d6 d7 d8 d9 v8 v9 v10 v11 v12 v13 v14 v15 v3 w' :=
  ⟨h.bel.trans (k.mono hS), h.c0, fun hd => by obtain ⟨vs, h1, h2⟩ := h.c1 hd; exact ⟨vs, h1.keep k, h2⟩, h.c2, h.c3, h.c4.keep k, h.c5, fun hd => by obtain ⟨o, h1, h2⟩ := h.c6 hd; exact ⟨o, own_same h1 fun g hg => k.block g (own_lt h1 hg).2, h2⟩, h.c7, fun hd => (h.c8 hd).keep k, fun hd => (h.c9 hd).keep k, h.x48, h.o7, h.o9⟩

/-- the rows of next as they grow -/
structure NX (wc : World) (S T n gx : Nat) (cnt : Nat) (vsx : List Value) (f : Nat → List Int) (X : World) : Prop where
  grid : Grid X S n (.slice (some ⟨gx, 0, none⟩) n n) vsx f
  hi : ∀ i u g, i < n → vsx[i]? = some u → u.ownBlock = some g → T ≤ g
  keep : ∀ k, k < T → k ≠ gx → X.heap[k]? = wc.heap[k]?
  os : X.os = wc.os
  tape : X.tape = wc.tape
  output : X.output = wc.output
  size : T ≤ X.heap.size
  cnt : ∀ i, i < n → (f i).length ≤ cnt
  gT : gx < T
/-- a number comes to row k -/
theorem NX.push {wc : World} {S T n gx cnt k : Nat} {vsx : List Value} {f : Nat → List Int} {X X1 w1 : World} {u u' : Value} {x : Int} (h : NX wc S T n gx cnt vsx f X) (hST : S ≤ T) (hk : k < n) (hu : vsx[k]? = some u) (h1 : Below X.heap.size X X1) (hg : X1.grownBy w1 u.ownBlock) (hat : u'.ownBlock = u.ownBlock ∨ u'.ownBlock = some X1.heap.size)
    (ho : w1.ownsRow S 3 1 u' ((f k).length + 1) (numsL (f k) ++ [numV x])) : NX wc S T n gx (cnt + 1) (vsx.set k u') (upd f k (f k ++ [x])) (w1.setCell ⟨gx, k, none⟩ u') := by
  have hg1 := (h.grid.keep h1).push hk hu hg hat ho
  refine ⟨hg1.1, fun i y g hi hy hyg => ?_, fun j hj hn => ?_, ?_, ?_, ?_, ?_, fun i hi => ?_, h.gT⟩
  · by_cases e : i = k
    · subst e
      rw [List.getElem?_set_self (by have := h.grid.len; omega)] at hy
      cases hy
      rcases hat with e2 | e2
      · exact h.hi i u g hi hu (e2 ▸ hyg)
      · rw [e2] at hyg
        have := h1.size
        have := h.size
        have : X1.heap.size = g := by simpa using hyg
        omega
    · rw [List.getElem?_set_ne (fun e' => e e'.symm)] at hy
      exact h.hi i y g hi hy hyg
  · refine (Below.heap_setCell _ _ _ _ hn).trans ((hg.block j ?_ ?_).trans ((h1.block j ?_).trans (h.keep j hj hn)))
    · have := h1.size; have := h.size; omega
    · intro e; have := h.hi k u j hk hu e.symm; omega
    · have := h.size; omega
  · exact hg.os.trans (h1.os.trans h.os)
  · exact hg.tape.trans (h1.tape.trans h.tape)
  · exact hg.output.trans (h1.output.trans h.output)
  · have h2 := hg.size; have h3 := h1.size; have h4 := h.size
    have h5 : (w1.setCell ⟨gx, k, none⟩ u').heap.size = w1.heap.size := by simp [World.setCell]
    omega
  · unfold upd
    by_cases e : i = k
    · rw [if_pos e, List.length_append, List.length_singleton]; have := h.cnt k hk; omega
    · rw [if_neg e]; have := h.cnt i hi; omega


structure R8 (wr : World) (S n F gx la k t : Nat) (av : Option Addr) (cv : Nat) (fo : Obj) (fk : List Int) (FIN : World → Prop) (d0 d1 d2 d3 d4 d5 d6 d7 d8 d9 d10 d11 d12 : Bool) (v30 v31 v32 v33 v34 v35 v36 v37 v38 v39 v40 v41 : Value) (w : World) : Prop where
  w1 : d9 = false → w = wr.drew
  w2 : d9 = true → d10 = false → w = (wr.alloc (.cells #[.int .i64 (t : Nat)] 3)).drew
  w3 : d10 = true → d12 = false → ∃ g cp, v40 = .slice (some ⟨g, 0, none⟩) (la + 1) cp ∧ w.ownsRow S 3 1 (.slice (some ⟨g, 0, none⟩) (la + 1) cp) (la + 1) (numsL fk ++ [numV (t : Nat)]) ∧ (wr.alloc (.cells #[.int .i64 (t : Nat)] 3)).drew.grownBy w (Value.slice av la cv).ownBlock ∧ ((Value.slice av la cv).ownBlock = some g ∨ g = wr.heap.size + 1)
  w4 : d12 = true → FIN w
  cF : d12 = false → w.heap[F]? = some fo ∧ w.heap[gx]? = wr.heap[gx]?
  c0 : d0 = true → v30 = Value.pointer (some ⟨F, 1, none⟩)
  c1 : d1 = true → v31 = Value.slice (some ⟨gx, 0, none⟩) n n
  c2 : d2 = true → v32 = Value.int .i64 (k : Nat)
  c3 : d3 = true → v33 = Value.pointer (some ⟨F, 1, none⟩)
  c4 : d4 = true → v34 = Value.slice (some ⟨gx, 0, none⟩) n n
  c5 : d5 = true → v35 = Value.int .i64 (k : Nat)
  c6 : d6 = true → v36 = Value.pointer (some ⟨gx, k, none⟩)
  c7 : d7 = true → v37 = Value.slice av la cv
  c8 : d8 = true → v38 = Value.int .i64 (t : Nat)
  c9 : d9 = true → v39 = Value.slice (some ⟨wr.heap.size, 0, none⟩) 1 1
  c11 : d11 = true → v41 = Value.pointer (some ⟨gx, k, none⟩)
  o10 : d10 = true → d9 = true ∧ d7 = true
  o12 : d12 = true → d10 = true ∧ d11 = true
  o9 : d9 = true → d8 = true
  oA : d12 = true → d0 = true ∧ d1 = true ∧ d2 = true ∧ d3 = true ∧ d4 = true ∧ d5 = true ∧ d6 = true

theorem Grid.fr {w w' : World} {B n F : Nat} {v : Value} {vs : List Value} {f : Nat → List Int} (h : Grid w B n v vs f) (ho : GOff v vs n F) (hf : FrF F w w') : Grid w' B n v vs f :=
  ⟨own_same h.row fun g hg => hf.block g (own_lt h.row hg).2 fun e => ho.1 (e ▸ hg), fun i u hi hu => own_same (h.each i u hi hu) fun g hg => hf.block g (own_lt (h.each i u hi hu) hg).2 fun e => ho.2 i u hi hu (e ▸ hg), h.apart, h.away⟩

/-- what flowOf answers besides: what stands ahead of each block, and where the blocks stand -/
structure Flowed (L : List (List Int)) (o : List Nat) (u : Nat → Option Nat) (n m : Nat) (v9 v14 : Value) (g5 g6 s : Nat) (w' : World) : Prop where
  own : w'.ownsRow s 3 1 v14 m (numsL (natsL o))
  grid : ∃ vs, Grid w' s n v9 vs (fun t => rowL L t n)
  ne : g5 ≠ g6
  l5 : s ≤ g5
  l6 : s ≤ g6
  rows : ∃ (A : Nat → Int) (at' fr : Nat → Nat), NW o (fun b => (u b).getD 0) m at' fr ∧ (∀ b, b ∈ o → A b = (at' b : Int)) ∧ (∀ b, b ∉ o → A b = -1) ∧ RowI w' 0 g5 n A ∧ RowI w' 0 g6 n (fun b => wrap64 ((manyL (fun b => (u b).getD 0) o b : Nat) : Int))

set_option maxHeartbeats 40000000 in
set_option maxRecDepth 100000 in
theorem flowOf_any (L : List (List Int)) (aL : Option Addr) (kL n B : Nat) (w : World) (hB : B ≤ w.heap.size) (hN : n = L.length) (hb : Rws B w (.slice aL n kL) L) (hn : n ≤ 1048576) :
    Calls Tryd.prog 16 #[.slice aL n kL] w fun e w' => ∃ (a9 : Option Addr) (k9 gx : Nat) (a14 : Option Addr) (k14 gu g4 g5 g6 m : Nat) (o : List Nat) (u : Nat → Option Nat), e = .returned (.agg #[.slice a9 n k9, .slice (some ⟨gx, 0, none⟩) n n, .slice a14 m k14, .slice (some ⟨gu, 0, none⟩) n n, .slice (some ⟨g4, 0, none⟩) m m, .slice (some ⟨g5, 0, none⟩) n n, .slice (some ⟨g6, 0, none⟩) n n]) ∧ m = o.length ∧
      Nums w'.heap.size w' (.slice a14 m k14) (natsL o) ∧ RowI w' 0 gu n (upI u) ∧ (0 < n → Ordered L o ∧ UpOf L o u) ∧ (n = 0 → o = []) ∧ Below w.heap.size w w' ∧ Flowed L o u n m (.slice a9 n k9) (.slice a14 m k14) g5 g6 w.heap.size w' := by
  have hsz : n * 24 ≤ 140737488351232 := by omega
  have HN : Hid (n = L.length) := hN
  obtain ⟨OG, hOG⟩ : ∃ OG, OG = (.cells (List.replicate n (.slice none 0 0)).toArray 23 : Obj) := ⟨_, rfl⟩
  have hmk := make_rows n hsz
  rw [← hOG] at hmk
  have HOG : Hid (OG = _) := hOG
  obtain ⟨w0, hw0⟩ : ∃ w0, w0 = w.alloc (fobj (.slice none 0 0) (.slice none 0 0) (.slice none 0 0) (.slice none 0 0) (.slice none 0 0) (.slice none 0 0) (.slice none 0 0)) := ⟨_, rfl⟩
  obtain ⟨R, hR⟩ : ∃ R, R = w.heap.size := ⟨_, rfl⟩
  obtain ⟨S, hS⟩ : ∃ S, S = w0.heap.size := ⟨_, rfl⟩
  have hs0 : w0.heap.size = w.heap.size + 1 := by rw [hw0]; simp
  have HSR : Hid (S = R + 1) := by unfold Hid; omega
  have HBS : Hid (B ≤ S) := by unfold Hid; omega
  have HSE : Hid (S = w0.heap.size) := hS
  have HRE : Hid (R = w.heap.size) := hR
  have HB0 : Hid (Below w.heap.size w w0) := by rw [hw0]; exact below_alloc _ _
  have HR0 : Hid (w0.heap[R]? = some (fobj (.slice none 0 0) (.slice none 0 0) (.slice none 0 0) (.slice none 0 0) (.slice none 0 0) (.slice none 0 0) (.slice none 0 0))) := by unfold Hid; rw [hw0, hR]; exact heap_alloc_new w _
  have HBL : Hid (Rws B w0 (.slice aL n kL) L) := hb.below (HB0.out.mono hB)
  have HW0 : Hid (w0 = w.alloc (fobj (.slice none 0 0) (.slice none 0 0) (.slice none 0 0) (.slice none 0 0) (.slice none 0 0) (.slice none 0 0) (.slice none 0 0))) := hw0
  clear hOG hw0 hR hS hs0 hb hB hN
  go_enter Tryd.func16, Tryd.ntmps16
  go_upto_region 1 with fail
  rw [show (Obj.cells #[Value.slice none 0 0, Value.slice none 0 0, Value.slice none 0 0, Value.slice none 0 0, Value.slice none 0 0, Value.slice none 0 0, Value.slice none 0 0] 43) = (fobj (.slice none 0 0) (.slice none 0 0) (.slice none 0 0) (.slice none 0 0) (.slice none 0 0) (.slice none 0 0) (.slice none 0 0)) from rfl, ← HW0.out, ← HRE.out]
  go_cut [3] from 8 to 15 (fun s3 wx => ∃ (F gx k9 k14 : Nat) (a9 a14 : Option Addr) (vs : List Value) (o : List Nat), s3 = .pointer (some ⟨F, 0, none⟩) ∧ Hid (wx.heap[F]? = some (fobj (.slice a9 n k9) (.slice (some ⟨gx, 0, none⟩) n n) (.slice a14 o.length k14) (.slice none 0 0) (.slice none 0 0) (.slice none 0 0) (.slice none 0 0)) ∧
    wx.heap[gx]? = some OG ∧ S ≤ gx ∧ S ≤ F ∧ gx ≠ F ∧ Below S w0 wx ∧ Grid wx S n (.slice a9 n k9) vs (fun t => rowL L t n) ∧ GOff (.slice a9 n k9) vs n F ∧ GOff (.slice a9 n k9) vs n gx ∧ wx.ownsRow S 3 1 (.slice a14 o.length k14) o.length (numsL (natsL o)) ∧ (Value.slice a14 o.length k14).ownBlock ≠ some F ∧ (Value.slice a14 o.length k14).ownBlock ≠ some gx ∧ (0 < n → Ordered L o) ∧ (n = 0 → o = [])))
  case first =>
    refine wp_region_any (by kernel_rfl) ?_
    refine wpAny_inv (fun listed a wx => ∃ d0 d1 d2 d3 d4 d5 d6 d7 d8 d9 : Bool, listed = #[d0, d1, d2, d3, d4, d5, d6, d7, d8, d9] ∧ ∃ v8 v9 v10 v11 v12 v13 v14 v15 v3 : Value, a = { tmps := #[Value.slice aL n kL, undef, Value.pointer (some ⟨R, 0, none⟩), v3, undef, undef, undef, undef, v8, v9, v10, v11, v12, v13, v14, v15, undef, undef, undef, undef, undef, undef, undef, undef, undef, undef, undef, undef, undef, undef, undef, undef, undef, undef, undef, undef, undef, undef, undef, undef, undef, undef, undef, undef, undef, undef, undef, undef, undef, undef, undef, undef], defers := [] } ∧ Hid (U3 w0 S n aL kL L OG d0 d1 d2 d3 d4 d5 d6 d7 d8 d9 v8 v9 v10 v11 v12 v13 v14 v15 v3 wx)) ?_ ?_ _ _ _ _ (Nat.le_of_eq (by kernel_rfl)) ?_
    · rintro listed a wx i ⟨d0, d1, d2, d3, d4, d5, d6, d7, d8, d9, rfl, v8, v9, v10, v11, v12, v13, v14, v15, v3, rfl, H⟩ hi
      obtain ⟨hi0, hi1, hi2⟩ := ready_mem hi
      clear hi
      have hi0 : i < 10 := hi0
      have hcase : i = 0 ∨ i = 1 ∨ i = 2 ∨ i = 3 ∨ i = 4 ∨ i = 5 ∨ i = 6 ∨ i = 7 ∨ i = 8 ∨ i = 9 := by omega
      clear hi0
      rcases hcase with rfl | rfl | rfl | rfl | rfl | rfl | rfl | rfl | rfl | rfl
      all_goals (simp [Region.binds] at hi1 hi2)
      · obtain rfl : d0 = false := by simpa using hi1
        clear hi1
        have hS : S ≤ wx.heap.size := Nat.le_trans (Nat.le_of_eq HSE.out) H.out.bel.size
        refine wpOp_step rfl (fun K' hK => ?_)
        go_simp
        refine hK _ _ ?_
        have h := H.out
        exact ⟨true, d1, d2, d3, d4, d5, d6, d7, d8, d9, rfl, _, _, _, _, _, _, _, _, _, rfl, ⟨h.bel, fun _ => rfl, h.c1, h.c2, h.c3, h.c4, h.c5, h.c6, h.c7, h.c8, h.c9, h.x48, h.o7, h.o9⟩⟩
      · obtain rfl : d1 = false := by simpa using hi1
        have e0 : d0 = true := by first | exact hi2 | exact hi2.1 | exact hi2.2.1 | exact hi2.2.2.1 | exact hi2.2.2.2.1 | exact hi2.2.2.2.2.1 | exact hi2.2.2.2.2.2.1 | exact hi2.2.2.2.2.2.2.1 | exact hi2.2.2.2.2.2.2.2.1 | exact hi2.2.2.2.2.2.2.2.2.1 | exact hi2.2.2.2.2.2.2.2.2.2.1 | exact hi2.2.2.2.2.2.2.2.2.2.2.1 | exact hi2.2.2.2.2.2.2.2.2.2.2.2.1 | exact hi2.2 | exact hi2.2.2 | exact hi2.2.2.2 | exact hi2.2.2.2.2 | exact hi2.2.2.2.2.2 | exact hi2.2.2.2.2.2.2 | exact hi2.2.2.2.2.2.2.2 | exact hi2.2.2.2.2.2.2.2.2 | exact hi2.2.2.2.2.2.2.2.2.2 | exact hi2.2.2.2.2.2.2.2.2.2.2 | exact hi2.2.2.2.2.2.2.2.2.2.2.2
        clear hi1 hi2
        subst e0
        have hS : S ≤ wx.heap.size := Nat.le_trans (Nat.le_of_eq HSE.out) H.out.bel.size
        have h9 : d9 = false := by
          rcases hq : d9 with _ | _
          · rfl
          · exact nomatch (H.out.o7 (H.out.o9 hq).1).1
        subst h9
        have h7 : d7 = false := by
          rcases hq : d7 with _ | _
          · rfl
          · exact nomatch (H.out.o7 hq).1
        subst h7
        obtain rfl := H.out.c0 rfl
        have HCA := aheadOf_grid L (.slice aL n kL) B wx (Nat.le_trans HBS.out hS) (HBL.out.below (H.out.bel.mono HBS.out)) (by rw [← HN.out]; exact hsz)
        rw [← HN.out] at HCA
        refine wpOp_step rfl (fun K' hK => ?_)
        go_simp
        go_wp2_with (go_at_call 28; refine Calls.mono HCA ?_; rintro e w1 ⟨vn, rfl, ⟨vsn, hgr⟩, hk⟩)
        have h := H.out.keep hS hk
        exact ⟨true, true, d2, d3, d4, d5, d6, false, d8, false, rfl, _, _, _, _, _, _, _, _, _, rfl, ⟨h.bel, h.c0, fun _ => ⟨vsn, hgr.base hS, fun hd g hg => hgr.offBig (.inl (by obtain ⟨gF, e, hgF, _⟩ := H.out.c8 rfl hd; rw [e] at hg; have := lt_of_block hgF; have e2 : gF = g := (by simpa [blkOf] using hg); omega)), fun hd g hg => hgr.offBig (.inl (by obtain ⟨gF, e, hgF, _⟩ := H.out.c4 hd; rw [e] at hg; have := lt_of_block hgF; have e2 : gF = g := (by simpa [blkOf] using hg); omega))⟩, h.c2, h.c3, h.c4, h.c5, h.c6, (fun hd => nomatch hd), h.c8, (fun hd => nomatch hd), h.x48, (fun hd => nomatch hd), (fun hd => nomatch hd)⟩⟩
      · obtain rfl : d2 = false := by simpa using hi1
        clear hi1
        have hS : S ≤ wx.heap.size := Nat.le_trans (Nat.le_of_eq HSE.out) H.out.bel.size
        refine wpOp_step rfl (fun K' hK => ?_)
        go_simp
        refine hK _ _ ?_
        have h := H.out
        exact ⟨d0, d1, true, d3, d4, d5, d6, d7, d8, d9, rfl, _, _, _, _, _, _, _, _, _, rfl, ⟨h.bel, h.c0, h.c1, fun _ => rfl, h.c3, h.c4, h.c5, h.c6, h.c7, h.c8, h.c9, h.x48, h.o7, h.o9⟩⟩
      · obtain rfl : d3 = false := by simpa using hi1
        have e2 : d2 = true := by first | exact hi2 | exact hi2.1 | exact hi2.2.1 | exact hi2.2.2.1 | exact hi2.2.2.2.1 | exact hi2.2.2.2.2.1 | exact hi2.2.2.2.2.2.1 | exact hi2.2.2.2.2.2.2.1 | exact hi2.2.2.2.2.2.2.2.1 | exact hi2.2.2.2.2.2.2.2.2.1 | exact hi2.2.2.2.2.2.2.2.2.2.1 | exact hi2.2.2.2.2.2.2.2.2.2.2.1 | exact hi2.2.2.2.2.2.2.2.2.2.2.2.1 | exact hi2.2 | exact hi2.2.2 | exact hi2.2.2.2 | exact hi2.2.2.2.2 | exact hi2.2.2.2.2.2 | exact hi2.2.2.2.2.2.2 | exact hi2.2.2.2.2.2.2.2 | exact hi2.2.2.2.2.2.2.2.2 | exact hi2.2.2.2.2.2.2.2.2.2 | exact hi2.2.2.2.2.2.2.2.2.2.2 | exact hi2.2.2.2.2.2.2.2.2.2.2.2
        clear hi1 hi2
        subst e2
        have hS : S ≤ wx.heap.size := Nat.le_trans (Nat.le_of_eq HSE.out) H.out.bel.size
        obtain rfl := H.out.c2 rfl
        refine wpOp_step rfl (fun K' hK => ?_)
        go_simp
        refine hK _ _ ?_
        have h := H.out
        exact ⟨d0, d1, true, true, d4, d5, d6, d7, d8, d9, rfl, _, _, _, _, _, _, _, _, _, rfl, ⟨h.bel, h.c0, h.c1, h.c2, fun _ => rfl, h.c4, h.c5, h.c6, h.c7, h.c8, h.c9, h.x48, h.o7, h.o9⟩⟩
      · obtain rfl : d4 = false := by simpa using hi1
        have e3 : d3 = true := by first | exact hi2 | exact hi2.1 | exact hi2.2.1 | exact hi2.2.2.1 | exact hi2.2.2.2.1 | exact hi2.2.2.2.2.1 | exact hi2.2.2.2.2.2.1 | exact hi2.2.2.2.2.2.2.1 | exact hi2.2.2.2.2.2.2.2.1 | exact hi2.2.2.2.2.2.2.2.2.1 | exact hi2.2.2.2.2.2.2.2.2.2.1 | exact hi2.2.2.2.2.2.2.2.2.2.2.1 | exact hi2.2.2.2.2.2.2.2.2.2.2.2.1 | exact hi2.2 | exact hi2.2.2 | exact hi2.2.2.2 | exact hi2.2.2.2.2 | exact hi2.2.2.2.2.2 | exact hi2.2.2.2.2.2.2 | exact hi2.2.2.2.2.2.2.2 | exact hi2.2.2.2.2.2.2.2.2 | exact hi2.2.2.2.2.2.2.2.2.2 | exact hi2.2.2.2.2.2.2.2.2.2.2 | exact hi2.2.2.2.2.2.2.2.2.2.2.2
        clear hi1 hi2
        subst e3
        have hS : S ≤ wx.heap.size := Nat.le_trans (Nat.le_of_eq HSE.out) H.out.bel.size
        have h9 : d9 = false := by
          rcases hq : d9 with _ | _
          · rfl
          · exact nomatch (H.out.o7 (H.out.o9 hq).1).2.1
        subst h9
        have h7 : d7 = false := by
          rcases hq : d7 with _ | _
          · rfl
          · exact nomatch (H.out.o7 hq).2.1
        subst h7
        obtain rfl := H.out.c3 rfl
        refine wpOp_step rfl (fun K' hK => ?_)
        go_simp
        refine hK _ _ ?_
        have hnew := heap_alloc_new wx OG
        have h := H.out.keep hS (below_alloc wx OG)
        exact ⟨d0, d1, d2, true, true, d5, d6, false, d8, false, rfl, _, _, _, _, _, _, _, _, _, rfl, ⟨h.bel, h.c0, fun hd => by obtain ⟨vsn, hgr, h1, _⟩ := H.out.c1 hd; exact ⟨vsn, hgr.keep (below_alloc wx _), h1, fun _ g hg => hgr.offBig (.inr (by have e2 : wx.heap.size = g := (by simpa [blkOf] using hg); omega))⟩, h.c2, h.c3, SlB.new hnew hS, h.c5, fun hd => by obtain ⟨on, how, ho1, ho2, h3, _⟩ := H.out.c6 hd; exact ⟨on, own_same how fun g hg => (below_alloc wx _).block g (own_lt how hg).2, ho1, ho2, h3, fun _ g hg e => by have e2 : wx.heap.size = g := (by simpa [blkOf] using hg); have := (own_lt how e).2; omega⟩, (fun hd => nomatch hd), h.c8, (fun hd => nomatch hd), (PtB.apart (H.out.c8 rfl) rfl (Nat.le_refl _)).symm, (fun hd => nomatch hd), (fun hd => nomatch hd)⟩⟩
      · obtain rfl : d5 = false := by simpa using hi1
        clear hi1
        have hS : S ≤ wx.heap.size := Nat.le_trans (Nat.le_of_eq HSE.out) H.out.bel.size
        refine wpOp_step rfl (fun K' hK => ?_)
        go_simp
        refine hK _ _ ?_
        have h := H.out
        exact ⟨d0, d1, d2, d3, d4, true, d6, d7, d8, d9, rfl, _, _, _, _, _, _, _, _, _, rfl, ⟨h.bel, h.c0, h.c1, h.c2, h.c3, h.c4, fun _ => rfl, h.c6, h.c7, h.c8, h.c9, h.x48, h.o7, h.o9⟩⟩
      · obtain rfl : d6 = false := by simpa using hi1
        have e5 : d5 = true := by first | exact hi2 | exact hi2.1 | exact hi2.2.1 | exact hi2.2.2.1 | exact hi2.2.2.2.1 | exact hi2.2.2.2.2.1 | exact hi2.2.2.2.2.2.1 | exact hi2.2.2.2.2.2.2.1 | exact hi2.2.2.2.2.2.2.2.1 | exact hi2.2.2.2.2.2.2.2.2.1 | exact hi2.2.2.2.2.2.2.2.2.2.1 | exact hi2.2.2.2.2.2.2.2.2.2.2.1 | exact hi2.2.2.2.2.2.2.2.2.2.2.2.1 | exact hi2.2 | exact hi2.2.2 | exact hi2.2.2.2 | exact hi2.2.2.2.2 | exact hi2.2.2.2.2.2 | exact hi2.2.2.2.2.2.2 | exact hi2.2.2.2.2.2.2.2 | exact hi2.2.2.2.2.2.2.2.2 | exact hi2.2.2.2.2.2.2.2.2.2 | exact hi2.2.2.2.2.2.2.2.2.2.2 | exact hi2.2.2.2.2.2.2.2.2.2.2.2
        have e1 : d1 = true := by first | exact hi2 | exact hi2.1 | exact hi2.2.1 | exact hi2.2.2.1 | exact hi2.2.2.2.1 | exact hi2.2.2.2.2.1 | exact hi2.2.2.2.2.2.1 | exact hi2.2.2.2.2.2.2.1 | exact hi2.2.2.2.2.2.2.2.1 | exact hi2.2.2.2.2.2.2.2.2.1 | exact hi2.2.2.2.2.2.2.2.2.2.1 | exact hi2.2.2.2.2.2.2.2.2.2.2.1 | exact hi2.2.2.2.2.2.2.2.2.2.2.2.1 | exact hi2.2 | exact hi2.2.2 | exact hi2.2.2.2 | exact hi2.2.2.2.2 | exact hi2.2.2.2.2.2 | exact hi2.2.2.2.2.2.2 | exact hi2.2.2.2.2.2.2.2 | exact hi2.2.2.2.2.2.2.2.2 | exact hi2.2.2.2.2.2.2.2.2.2 | exact hi2.2.2.2.2.2.2.2.2.2.2 | exact hi2.2.2.2.2.2.2.2.2.2.2.2
        clear hi1 hi2
        subst e5
        subst e1
        have hS : S ≤ wx.heap.size := Nat.le_trans (Nat.le_of_eq HSE.out) H.out.bel.size
        have h9 : d9 = false := by
          rcases hq : d9 with _ | _
          · rfl
          · exact nomatch (H.out.o7 (H.out.o9 hq).1).2.2
        subst h9
        have h7 : d7 = false := by
          rcases hq : d7 with _ | _
          · rfl
          · exact nomatch (H.out.o7 hq).2.2
        subst h7
        obtain rfl := H.out.c5 rfl
        have HCO := orderOf_any L (.slice aL n kL) B wx (Nat.le_trans HBS.out hS) (HBL.out.below (H.out.bel.mono HBS.out)) (by rw [← HN.out]; exact hsz) rev_own
        rw [← HN.out] at HCO
        refine wpOp_step rfl (fun K' hK => ?_)
        go_simp
        go_wp2_with (go_at_call 29; refine Calls.mono HCO ?_; rintro e w1 ⟨vn, on, rfl, how, ho1, ho2, hk⟩)
        have h := H.out.keep hS hk
        exact ⟨d0, true, d2, d3, d4, true, true, false, d8, false, rfl, _, _, _, _, _, _, _, _, _, rfl, ⟨h.bel, h.c0, h.c1, h.c2, h.c3, h.c4, h.c5, fun _ => ⟨on, own_base' how hS, ho1, ho2, fun hd g hg e => by obtain ⟨gF, e1, hgF, _⟩ := H.out.c8 rfl hd; rw [e1] at hg; have := lt_of_block hgF; have e2 : gF = g := (by simpa [blkOf] using hg); have := (own_lt how e).1; omega, fun hd g hg e => by obtain ⟨gF, e1, hgF, _⟩ := H.out.c4 hd; rw [e1] at hg; have := lt_of_block hgF; have e2 : gF = g := (by simpa [blkOf] using hg); have := (own_lt how e).1; omega⟩, (fun hd => nomatch hd), h.c8, (fun hd => nomatch hd), h.x48, (fun hd => nomatch hd), (fun hd => nomatch hd)⟩⟩
      · obtain rfl : d7 = false := by simpa using hi1
        have e1 : d1 = true := by first | exact hi2 | exact hi2.1 | exact hi2.2.1 | exact hi2.2.2.1 | exact hi2.2.2.2.1 | exact hi2.2.2.2.2.1 | exact hi2.2.2.2.2.2.1 | exact hi2.2.2.2.2.2.2.1 | exact hi2.2.2.2.2.2.2.2.1 | exact hi2.2.2.2.2.2.2.2.2.1 | exact hi2.2.2.2.2.2.2.2.2.2.1 | exact hi2.2.2.2.2.2.2.2.2.2.2.1 | exact hi2.2.2.2.2.2.2.2.2.2.2.2.1 | exact hi2.2 | exact hi2.2.2 | exact hi2.2.2.2 | exact hi2.2.2.2.2 | exact hi2.2.2.2.2.2 | exact hi2.2.2.2.2.2.2 | exact hi2.2.2.2.2.2.2.2 | exact hi2.2.2.2.2.2.2.2.2 | exact hi2.2.2.2.2.2.2.2.2.2 | exact hi2.2.2.2.2.2.2.2.2.2.2 | exact hi2.2.2.2.2.2.2.2.2.2.2.2
        have e4 : d4 = true := by first | exact hi2 | exact hi2.1 | exact hi2.2.1 | exact hi2.2.2.1 | exact hi2.2.2.2.1 | exact hi2.2.2.2.2.1 | exact hi2.2.2.2.2.2.1 | exact hi2.2.2.2.2.2.2.1 | exact hi2.2.2.2.2.2.2.2.1 | exact hi2.2.2.2.2.2.2.2.2.1 | exact hi2.2.2.2.2.2.2.2.2.2.1 | exact hi2.2.2.2.2.2.2.2.2.2.2.1 | exact hi2.2.2.2.2.2.2.2.2.2.2.2.1 | exact hi2.2 | exact hi2.2.2 | exact hi2.2.2.2 | exact hi2.2.2.2.2 | exact hi2.2.2.2.2.2 | exact hi2.2.2.2.2.2.2 | exact hi2.2.2.2.2.2.2.2 | exact hi2.2.2.2.2.2.2.2.2 | exact hi2.2.2.2.2.2.2.2.2.2 | exact hi2.2.2.2.2.2.2.2.2.2.2 | exact hi2.2.2.2.2.2.2.2.2.2.2.2
        have e6 : d6 = true := by first | exact hi2 | exact hi2.1 | exact hi2.2.1 | exact hi2.2.2.1 | exact hi2.2.2.2.1 | exact hi2.2.2.2.2.1 | exact hi2.2.2.2.2.2.1 | exact hi2.2.2.2.2.2.2.1 | exact hi2.2.2.2.2.2.2.2.1 | exact hi2.2.2.2.2.2.2.2.2.1 | exact hi2.2.2.2.2.2.2.2.2.2.1 | exact hi2.2.2.2.2.2.2.2.2.2.2.1 | exact hi2.2.2.2.2.2.2.2.2.2.2.2.1 | exact hi2.2 | exact hi2.2.2 | exact hi2.2.2.2 | exact hi2.2.2.2.2 | exact hi2.2.2.2.2.2 | exact hi2.2.2.2.2.2.2 | exact hi2.2.2.2.2.2.2.2 | exact hi2.2.2.2.2.2.2.2.2 | exact hi2.2.2.2.2.2.2.2.2.2 | exact hi2.2.2.2.2.2.2.2.2.2.2 | exact hi2.2.2.2.2.2.2.2.2.2.2.2
        clear hi1 hi2
        subst e1
        subst e4
        subst e6
        have hS : S ≤ wx.heap.size := Nat.le_trans (Nat.le_of_eq HSE.out) H.out.bel.size
        have h9 : d9 = false := by
          rcases hq : d9 with _ | _
          · rfl
          · exact nomatch (H.out.o9 hq).1
        subst h9
        obtain ⟨vsn, hgr, _⟩ := H.out.c1 rfl
        obtain ⟨on, how, _⟩ := H.out.c6 rfl
        obtain ⟨a9, k9, rfl⟩ := own_slice hgr.row
        obtain ⟨a14, k14, rfl⟩ := own_slice how
        obtain ⟨g12, rfl, _, _⟩ := H.out.c4 rfl
        clear hgr how
        refine wpOp_step rfl (fun K' hK => ?_)
        go_simp
        refine hK _ _ ?_
        have h := H.out
        exact ⟨d0, true, d2, d3, true, d5, true, true, d8, false, rfl, _, _, _, _, _, _, _, _, _, rfl, ⟨h.bel, h.c0, h.c1, h.c2, h.c3, h.c4, h.c5, h.c6, fun _ => rfl, h.c8, (fun hd => nomatch hd), h.x48, fun _ => ⟨rfl, rfl, rfl⟩, (fun hd => nomatch hd)⟩⟩
      · obtain rfl : d8 = false := by simpa using hi1
        clear hi1
        have hS : S ≤ wx.heap.size := Nat.le_trans (Nat.le_of_eq HSE.out) H.out.bel.size
        have h9 : d9 = false := by
          rcases hq : d9 with _ | _
          · rfl
          · exact nomatch (H.out.o9 hq).2
        subst h9
        refine wpOp_step rfl (fun K' hK => ?_)
        go_simp
        refine hK _ _ ?_
        have hnew := heap_alloc_new wx (fobj (.slice none 0 0) (.slice none 0 0) (.slice none 0 0) (.slice none 0 0) (.slice none 0 0) (.slice none 0 0) (.slice none 0 0))
        have h := H.out.keep hS (below_alloc wx (fobj (.slice none 0 0) (.slice none 0 0) (.slice none 0 0) (.slice none 0 0) (.slice none 0 0) (.slice none 0 0) (.slice none 0 0)))
        exact ⟨d0, d1, d2, d3, d4, d5, d6, d7, true, false, rfl, _, _, _, _, _, _, _, _, _, rfl, ⟨h.bel, h.c0, fun hd => by obtain ⟨vsn, hgr, _, h4⟩ := H.out.c1 hd; exact ⟨vsn, hgr.keep (below_alloc wx _), fun _ g hg => hgr.offBig (.inr (by have e2 : wx.heap.size = g := (by simpa [blkOf] using hg); omega)), h4⟩, h.c2, h.c3, h.c4, h.c5, fun hd => by obtain ⟨on, how, ho1, ho2, _, h4⟩ := H.out.c6 hd; exact ⟨on, own_same how fun g hg => (below_alloc wx _).block g (own_lt how hg).2, ho1, ho2, fun _ g hg e => by have e2 : wx.heap.size = g := (by simpa [blkOf] using hg); have := (own_lt how e).2; omega, h4⟩, h.c7, fun _ => PtB.new hnew hS, (fun hd => nomatch hd), SlB.apart H.out.c4 rfl (Nat.le_refl _), h.o7, (fun hd => nomatch hd)⟩⟩
      · obtain rfl : d9 = false := by simpa using hi1
        have e8 : d8 = true := by first | exact hi2 | exact hi2.1 | exact hi2.2.1 | exact hi2.2.2.1 | exact hi2.2.2.2.1 | exact hi2.2.2.2.2.1 | exact hi2.2.2.2.2.2.1 | exact hi2.2.2.2.2.2.2.1 | exact hi2.2.2.2.2.2.2.2.1 | exact hi2.2.2.2.2.2.2.2.2.1 | exact hi2.2.2.2.2.2.2.2.2.2.1 | exact hi2.2.2.2.2.2.2.2.2.2.2.1 | exact hi2.2.2.2.2.2.2.2.2.2.2.2.1 | exact hi2.2 | exact hi2.2.2 | exact hi2.2.2.2 | exact hi2.2.2.2.2 | exact hi2.2.2.2.2.2 | exact hi2.2.2.2.2.2.2 | exact hi2.2.2.2.2.2.2.2 | exact hi2.2.2.2.2.2.2.2.2 | exact hi2.2.2.2.2.2.2.2.2.2 | exact hi2.2.2.2.2.2.2.2.2.2.2 | exact hi2.2.2.2.2.2.2.2.2.2.2.2
        have e7 : d7 = true := by first | exact hi2 | exact hi2.1 | exact hi2.2.1 | exact hi2.2.2.1 | exact hi2.2.2.2.1 | exact hi2.2.2.2.2.1 | exact hi2.2.2.2.2.2.1 | exact hi2.2.2.2.2.2.2.1 | exact hi2.2.2.2.2.2.2.2.1 | exact hi2.2.2.2.2.2.2.2.2.1 | exact hi2.2.2.2.2.2.2.2.2.2.1 | exact hi2.2.2.2.2.2.2.2.2.2.2.1 | exact hi2.2.2.2.2.2.2.2.2.2.2.2.1 | exact hi2.2 | exact hi2.2.2 | exact hi2.2.2.2 | exact hi2.2.2.2.2 | exact hi2.2.2.2.2.2 | exact hi2.2.2.2.2.2.2 | exact hi2.2.2.2.2.2.2.2 | exact hi2.2.2.2.2.2.2.2.2 | exact hi2.2.2.2.2.2.2.2.2.2 | exact hi2.2.2.2.2.2.2.2.2.2.2 | exact hi2.2.2.2.2.2.2.2.2.2.2.2
        have e6 : d6 = true := by first | exact hi2 | exact hi2.1 | exact hi2.2.1 | exact hi2.2.2.1 | exact hi2.2.2.2.1 | exact hi2.2.2.2.2.1 | exact hi2.2.2.2.2.2.1 | exact hi2.2.2.2.2.2.2.1 | exact hi2.2.2.2.2.2.2.2.1 | exact hi2.2.2.2.2.2.2.2.2.1 | exact hi2.2.2.2.2.2.2.2.2.2.1 | exact hi2.2.2.2.2.2.2.2.2.2.2.1 | exact hi2.2.2.2.2.2.2.2.2.2.2.2.1 | exact hi2.2 | exact hi2.2.2 | exact hi2.2.2.2 | exact hi2.2.2.2.2 | exact hi2.2.2.2.2.2 | exact hi2.2.2.2.2.2.2 | exact hi2.2.2.2.2.2.2.2 | exact hi2.2.2.2.2.2.2.2.2 | exact hi2.2.2.2.2.2.2.2.2.2 | exact hi2.2.2.2.2.2.2.2.2.2.2 | exact hi2.2.2.2.2.2.2.2.2.2.2.2
        have e0 : d0 = true := by first | exact hi2 | exact hi2.1 | exact hi2.2.1 | exact hi2.2.2.1 | exact hi2.2.2.2.1 | exact hi2.2.2.2.2.1 | exact hi2.2.2.2.2.2.1 | exact hi2.2.2.2.2.2.2.1 | exact hi2.2.2.2.2.2.2.2.1 | exact hi2.2.2.2.2.2.2.2.2.1 | exact hi2.2.2.2.2.2.2.2.2.2.1 | exact hi2.2.2.2.2.2.2.2.2.2.2.1 | exact hi2.2.2.2.2.2.2.2.2.2.2.2.1 | exact hi2.2 | exact hi2.2.2 | exact hi2.2.2.2 | exact hi2.2.2.2.2 | exact hi2.2.2.2.2.2 | exact hi2.2.2.2.2.2.2 | exact hi2.2.2.2.2.2.2.2 | exact hi2.2.2.2.2.2.2.2.2 | exact hi2.2.2.2.2.2.2.2.2.2 | exact hi2.2.2.2.2.2.2.2.2.2.2 | exact hi2.2.2.2.2.2.2.2.2.2.2.2
        have e1 : d1 = true := by first | exact hi2 | exact hi2.1 | exact hi2.2.1 | exact hi2.2.2.1 | exact hi2.2.2.2.1 | exact hi2.2.2.2.2.1 | exact hi2.2.2.2.2.2.1 | exact hi2.2.2.2.2.2.2.1 | exact hi2.2.2.2.2.2.2.2.1 | exact hi2.2.2.2.2.2.2.2.2.1 | exact hi2.2.2.2.2.2.2.2.2.2.1 | exact hi2.2.2.2.2.2.2.2.2.2.2.1 | exact hi2.2.2.2.2.2.2.2.2.2.2.2.1 | exact hi2.2 | exact hi2.2.2 | exact hi2.2.2.2 | exact hi2.2.2.2.2 | exact hi2.2.2.2.2.2 | exact hi2.2.2.2.2.2.2 | exact hi2.2.2.2.2.2.2.2 | exact hi2.2.2.2.2.2.2.2.2 | exact hi2.2.2.2.2.2.2.2.2.2 | exact hi2.2.2.2.2.2.2.2.2.2.2 | exact hi2.2.2.2.2.2.2.2.2.2.2.2
        have e2 : d2 = true := by first | exact hi2 | exact hi2.1 | exact hi2.2.1 | exact hi2.2.2.1 | exact hi2.2.2.2.1 | exact hi2.2.2.2.2.1 | exact hi2.2.2.2.2.2.1 | exact hi2.2.2.2.2.2.2.1 | exact hi2.2.2.2.2.2.2.2.1 | exact hi2.2.2.2.2.2.2.2.2.1 | exact hi2.2.2.2.2.2.2.2.2.2.1 | exact hi2.2.2.2.2.2.2.2.2.2.2.1 | exact hi2.2.2.2.2.2.2.2.2.2.2.2.1 | exact hi2.2 | exact hi2.2.2 | exact hi2.2.2.2 | exact hi2.2.2.2.2 | exact hi2.2.2.2.2.2 | exact hi2.2.2.2.2.2.2 | exact hi2.2.2.2.2.2.2.2 | exact hi2.2.2.2.2.2.2.2.2 | exact hi2.2.2.2.2.2.2.2.2.2 | exact hi2.2.2.2.2.2.2.2.2.2.2 | exact hi2.2.2.2.2.2.2.2.2.2.2.2
        have e3 : d3 = true := by first | exact hi2 | exact hi2.1 | exact hi2.2.1 | exact hi2.2.2.1 | exact hi2.2.2.2.1 | exact hi2.2.2.2.2.1 | exact hi2.2.2.2.2.2.1 | exact hi2.2.2.2.2.2.2.1 | exact hi2.2.2.2.2.2.2.2.1 | exact hi2.2.2.2.2.2.2.2.2.1 | exact hi2.2.2.2.2.2.2.2.2.2.1 | exact hi2.2.2.2.2.2.2.2.2.2.2.1 | exact hi2.2.2.2.2.2.2.2.2.2.2.2.1 | exact hi2.2 | exact hi2.2.2 | exact hi2.2.2.2 | exact hi2.2.2.2.2 | exact hi2.2.2.2.2.2 | exact hi2.2.2.2.2.2.2 | exact hi2.2.2.2.2.2.2.2 | exact hi2.2.2.2.2.2.2.2.2 | exact hi2.2.2.2.2.2.2.2.2.2 | exact hi2.2.2.2.2.2.2.2.2.2.2 | exact hi2.2.2.2.2.2.2.2.2.2.2.2
        have e4 : d4 = true := by first | exact hi2 | exact hi2.1 | exact hi2.2.1 | exact hi2.2.2.1 | exact hi2.2.2.2.1 | exact hi2.2.2.2.2.1 | exact hi2.2.2.2.2.2.1 | exact hi2.2.2.2.2.2.2.1 | exact hi2.2.2.2.2.2.2.2.1 | exact hi2.2.2.2.2.2.2.2.2.1 | exact hi2.2.2.2.2.2.2.2.2.2.1 | exact hi2.2.2.2.2.2.2.2.2.2.2.1 | exact hi2.2.2.2.2.2.2.2.2.2.2.2.1 | exact hi2.2 | exact hi2.2.2 | exact hi2.2.2.2 | exact hi2.2.2.2.2 | exact hi2.2.2.2.2.2 | exact hi2.2.2.2.2.2.2 | exact hi2.2.2.2.2.2.2.2 | exact hi2.2.2.2.2.2.2.2.2 | exact hi2.2.2.2.2.2.2.2.2.2 | exact hi2.2.2.2.2.2.2.2.2.2.2 | exact hi2.2.2.2.2.2.2.2.2.2.2.2
        have e5 : d5 = true := by first | exact hi2 | exact hi2.1 | exact hi2.2.1 | exact hi2.2.2.1 | exact hi2.2.2.2.1 | exact hi2.2.2.2.2.1 | exact hi2.2.2.2.2.2.1 | exact hi2.2.2.2.2.2.2.1 | exact hi2.2.2.2.2.2.2.2.1 | exact hi2.2.2.2.2.2.2.2.2.1 | exact hi2.2.2.2.2.2.2.2.2.2.1 | exact hi2.2.2.2.2.2.2.2.2.2.2.1 | exact hi2.2.2.2.2.2.2.2.2.2.2.2.1 | exact hi2.2 | exact hi2.2.2 | exact hi2.2.2.2 | exact hi2.2.2.2.2 | exact hi2.2.2.2.2.2 | exact hi2.2.2.2.2.2.2 | exact hi2.2.2.2.2.2.2.2 | exact hi2.2.2.2.2.2.2.2.2 | exact hi2.2.2.2.2.2.2.2.2.2 | exact hi2.2.2.2.2.2.2.2.2.2.2 | exact hi2.2.2.2.2.2.2.2.2.2.2.2
        clear hi1 hi2
        subst e8
        subst e7
        subst e6
        subst e0
        subst e1
        subst e2
        subst e3
        subst e4
        subst e5
        have hS : S ≤ wx.heap.size := Nat.le_trans (Nat.le_of_eq HSE.out) H.out.bel.size
        obtain rfl := H.out.c7 rfl
        obtain ⟨gF, rfl, hgF, hsF⟩ := H.out.c8 rfl rfl
        obtain ⟨vsn, hgr, hgo⟩ := H.out.c1 rfl
        obtain ⟨on, how, ho1, ho2, ho3⟩ := H.out.c6 rfl
        obtain ⟨a9, k9, rfl⟩ := own_slice hgr.row
        obtain ⟨a14, k14, rfl⟩ := own_slice how
        obtain ⟨g12, rfl, h12, s12⟩ := H.out.c4 rfl
        have HG : Hid (_) := hgF
        obtain ⟨q0, q1, q2, q3, q4, q5, q6⟩ := cells7 HG.out
        have z0 := thawAny HG.out 0
        have z1 := thawAny HG.out 1
        have z2 := thawAny HG.out 2
        have z3 := thawAny HG.out 3
        have z4 := thawAny HG.out 4
        have z5 := thawAny HG.out 5
        have z6 := thawAny HG.out 6
        have HK := And.intro hgr (And.intro hgo (And.intro how (And.intro ho1 (And.intro ho2 ho3))))
        have HKK : Hid (_) := HK
        clear hgF hgr hgo how ho1 ho2 ho3 h12 HK
        refine wpOp_step rfl (fun K' hK => ?_)
        go_simp
        refine hK _ _ ?_
        have hk : ∀ k, k ≠ gF → (((((((wx.setCell ⟨gF, 0, none⟩ (.slice a9 n k9)).setCell ⟨gF, 1, none⟩ (.slice (some ⟨g12, 0, none⟩) n n)).setCell ⟨gF, 2, none⟩ (.slice a14 on.length k14)).setCell ⟨gF, 3, none⟩ (.slice none 0 0)).setCell ⟨gF, 4, none⟩ (.slice none 0 0)).setCell ⟨gF, 5, none⟩ (.slice none 0 0)).setCell ⟨gF, 6, none⟩ (.slice none 0 0)).heap[k]? = wx.heap[k]? := fun k hk => ((Below.heap_setCell _ _ _ _ hk).trans ((Below.heap_setCell _ _ _ _ hk).trans ((Below.heap_setCell _ _ _ _ hk).trans ((Below.heap_setCell _ _ _ _ hk).trans ((Below.heap_setCell _ _ _ _ hk).trans ((Below.heap_setCell _ _ _ _ hk).trans (Below.heap_setCell _ _ _ _ hk)))))))
        have a0 := heap_setCell_same (o := 0) HG.out (.slice a9 n k9)
        have a1 := heap_setCell_same (o := 1) a0 (.slice (some ⟨g12, 0, none⟩) n n)
        have a2 := heap_setCell_same (o := 2) a1 (.slice a14 on.length k14)
        have a3 := heap_setCell_same (o := 3) a2 (.slice none 0 0)
        have a4 := heap_setCell_same (o := 4) a3 (.slice none 0 0)
        have a5 := heap_setCell_same (o := 5) a4 (.slice none 0 0)
        have a6 := heap_setCell_same (o := 6) a5 (.slice none 0 0)
        simp at a6
        exact ⟨true, true, true, true, true, true, true, true, true, true, rfl, _, _, _, _, _, _, _, _, _, rfl, ⟨(below_set (below_set (below_set (below_set (below_set (below_set (below_set H.out.bel hsF _) hsF _) hsF _) hsF _) hsF _) hsF _) hsF _), H.out.c0, fun _ => ⟨vsn, HKK.out.1.off (HKK.out.2.1.1 rfl gF rfl) hk, HKK.out.2.1⟩, H.out.c2, H.out.c3, H.out.c4.off hk H.out.x48, H.out.c5, fun _ => ⟨on, own_same HKK.out.2.2.1 fun g hg => hk g fun e => HKK.out.2.2.2.2.2.1 rfl gF rfl (e ▸ hg), HKK.out.2.2.2.1, HKK.out.2.2.2.2.1, HKK.out.2.2.2.2.2⟩, H.out.c7, (fun hd => nomatch hd), fun _ => PtB.new a6 hsF, H.out.x48, H.out.o7, fun _ => ⟨rfl, rfl⟩⟩⟩
    · rintro listed a wx ⟨d0, d1, d2, d3, d4, d5, d6, d7, d8, d9, rfl, v8, v9, v10, v11, v12, v13, v14, v15, v3, rfl, H⟩ hr
      obtain rfl : d0 = true := by simpa using ready_none hr 0 (by decide) (by simp [Region.binds])
      obtain rfl : d2 = true := by simpa using ready_none hr 2 (by decide) (by simp [Region.binds])
      obtain rfl : d5 = true := by simpa using ready_none hr 5 (by decide) (by simp [Region.binds])
      obtain rfl : d1 = true := by simpa using ready_none hr 1 (by decide) (by simp [Region.binds])
      obtain rfl : d3 = true := by simpa using ready_none hr 3 (by decide) (by simp [Region.binds])
      obtain rfl : d4 = true := by simpa using ready_none hr 4 (by decide) (by simp [Region.binds])
      obtain rfl : d6 = true := by simpa using ready_none hr 6 (by decide) (by simp [Region.binds])
      obtain rfl : d7 = true := by simpa using ready_none hr 7 (by decide) (by simp [Region.binds])
      obtain rfl : d8 = true := by simpa using ready_none hr 8 (by decide) (by simp [Region.binds])
      obtain rfl : d9 = true := by simpa using ready_none hr 9 (by decide) (by simp [Region.binds])
      obtain ⟨vsn, hgr, hgo⟩ := H.out.c1 rfl
      obtain ⟨on, how, ho1, ho2, ho3⟩ := H.out.c6 rfl
      obtain ⟨a9, k9, rfl⟩ := own_slice hgr.row
      obtain ⟨a14, k14, rfl⟩ := own_slice how
      obtain ⟨gx, rfl, h12, s12⟩ := H.out.c4 rfl
      obtain ⟨F, rfl, hF, sF⟩ := H.out.c9 rfl rfl
      have x1 := H.out.x48 rfl rfl
      simp only [blkOf, ne_eq, Option.some.injEq] at x1
      have HF9 : Hid (_) := And.intro hF (And.intro h12 (And.intro s12 (And.intro sF (And.intro x1 (And.intro H.out.bel (And.intro hgr (And.intro (hgo.1 rfl F rfl) (And.intro (hgo.2 rfl gx rfl) (And.intro how (And.intro (ho3.1 rfl F rfl) (And.intro (ho3.2 rfl gx rfl) (And.intro ho1 ho2))))))))))))
      clear hgr hgo how ho1 ho2 ho3 h12 hF x1 hr
      go_wp2_with fail
      go_meet
      first | (case rel => exact ⟨F, gx, k9, k14, a9, a14, vsn, on, rfl, HF9⟩) | exact ⟨F, gx, k9, k14, a9, a14, vsn, on, rfl, HF9⟩
    · exact ⟨false, false, false, false, false, false, false, false, false, false, rfl, _, _, _, _, _, _, _, _, _, rfl, ⟨(show Below S w0 _ from ⟨rfl, rfl, rfl, Nat.le_refl _, fun _ _ => rfl⟩), (fun hd => nomatch hd), (fun hd => nomatch hd), (fun hd => nomatch hd), (fun hd => nomatch hd), SlB.no _ _, (fun hd => nomatch hd), (fun hd => nomatch hd), (fun hd => nomatch hd), fun _ => PtB.no _ _, fun _ => PtB.no _ _, Dis.no, (fun hd => nomatch hd), (fun hd => nomatch hd)⟩⟩
  case rest =>
    obtain ⟨F, gx, k9, k14, a9, a14, vs9, o, rfl, HF⟩ := hcut
    obtain ⟨T, hT⟩ : ∃ T, T = wc.heap.size := ⟨_, rfl⟩
    obtain ⟨z1, z2, z3, z4, z5, z6, z7, z8, z9, z10, z11, z12, z13, z14⟩ := HF.out
    obtain ⟨fo, hfo⟩ : ∃ fo, fo = fobj (.slice a9 n k9) (.slice (some ⟨gx, 0, none⟩) n n) (.slice a14 o.length k14) (.slice none 0 0) (.slice none 0 0) (.slice none 0 0) (.slice none 0 0) := ⟨_, rfl⟩
    have HFOE : Hid (fo = _) := hfo
    have HAGF : Hid (∀ X : World, (∀ k, k < T → k ≠ gx → X.heap[k]? = wc.heap[k]?) → X.heap[F]? = some fo) := fun X hX => by rw [hfo]; exact (hX F (by rw [hT]; exact lt_of_block z1) (fun e => z5 e.symm)).trans z1
    have HG9 : Hid (∀ X : World, (∀ k, k < T → k ≠ gx → X.heap[k]? = wc.heap[k]?) → Grid X S n (.slice a9 n k9) vs9 (fun t => rowL L t n)) := fun X hX =>
      ⟨own_same z7.row fun g hg => hX g (by have := (own_lt z7.row hg).2; omega) (fun e => z9.1 (e ▸ hg)), fun i u hi hu => own_same (z7.each i u hi hu) fun g hg => hX g (by have := (own_lt (z7.each i u hi hu) hg).2; omega) (fun e => z9.2 i u hi hu (e ▸ hg)), z7.apart, z7.away⟩
    have HN0 : Hid (NX wc S T n gx 0 (List.replicate n (.slice none 0 0)) (fun _ => []) wc) := by
      have ho : wc.ownsRow S 23 1 (.slice (some ⟨gx, 0, none⟩) n n) n (List.replicate n (.slice none 0 0)) := ⟨by simp, .inr ⟨gx, n, _, rfl, z3, z2.trans (by rw [HOG.out]), Nat.le_refl _, by unfold maxLen; omega, by simp, by simp⟩⟩
      refine ⟨Grid.made (by rw [show (madeCells (Value.slice none 0 0).cells (n * 1)).toList = List.replicate n (.slice none 0 0) from by rw [Nat.mul_one]; exact toList_madeCells_one _ _]; exact ho), fun i u g _ hu hg => ?_, fun _ _ _ => rfl, rfl, rfl, rfl, Nat.le_of_eq hT, fun _ _ => Nat.le_refl _, by rw [hT]; exact lt_of_block z2⟩
      rw [(List.mem_replicate.1 (List.mem_of_getElem? hu)).2] at hg
      cases hg
    have HOR9 : Hid (∀ X : World, (∀ k, k < T → k ≠ gx → X.heap[k]? = wc.heap[k]?) → X.ownsRow S 3 1 (.slice a14 o.length k14) o.length (numsL (natsL o))) := fun X hX => own_same z10 fun g hg => hX g (by rw [hT]; exact (own_lt z10 hg).2) (fun e => z12 (e ▸ hg))
    have HGO9 : Hid (GOff (.slice a9 n k9) vs9 n F) := z8
    have HO11 : Hid ((Value.slice a14 o.length k14).ownBlock ≠ some F) := z11
    have HO13 : Hid (0 < n → Ordered L o) := z13
    have HO14 : Hid (n = 0 → o = []) := z14
    have HZ6 : Hid (S ≤ gx ∧ S ≤ F ∧ gx ≠ F ∧ Below S w0 wc) := ⟨z3, z4, z5, z6⟩
    have HST : Hid (S ≤ T) := by unfold Hid; have := z6.size; have := HSE.out; omega
    have HTE : Hid (T = wc.heap.size) := hT
    have HLN : Hid (∀ t, (rowL L t n).length ≤ n) := fun t => rowL_len L t n
    have HFT0 : Hid (F < T) := by unfold Hid; rw [hT]; exact lt_of_block z1
    have p0 := (cells7 z1).1
    clear z1 z2 z3 z4 z5 z6 z7 z8 z9 z10 z11 z12 z13 z14 hT hmk hfo
    go_wp2_with fail
    clear p0
    go_loopg [19] n (fun g s19 wr => ∃ (t : Nat) (vsx : List Value) (f : Nat → List Int) (cnt : Nat), s19 = .int .i64 (t : Nat) ∧ t + g = n ∧ Hid (cnt ≤ t * n) ∧ Hid (NX wc S T n gx cnt vsx f wr))
    case atStart => exact ⟨0, _, _, 0, rfl, by omega, Nat.zero_le _, HN0⟩
    case round =>
      clear HN0
      obtain ⟨t, vsx, f, cnt, rfl, ht', HCNT, HNX⟩ := hrel
      cases gk with
      | zero =>
        have hlt : ¬ (t : Int) < (n : Int) := by omega
        have HKP : Hid (∀ k, k < T → k ≠ gx → wr.heap[k]? = wc.heap[k]?) := HNX.out.keep
        have HFW : Hid (wr.heap[F]? = some fo) := HAGF.out wr HNX.out.keep
        have HNF : Hid (NX wc S T n gx cnt vsx f wr) := HNX
        have HA : Hid (Rws wr.heap.size wr (.slice a9 n k9) ((List.range n).map fun b => natsL (preL L b))) := by
          have h1 := (HG9.out wr HNX.out.keep).rws (fun i hi y hy => by have := rowL_mem hy; unfold I64; omega)
          have h2 : ((List.range n).map fun t => rowL L t n) = ((List.range n).map fun b => natsL (preL L b)) := List.map_congr_left fun b hb => by
            have hb : b < n := List.mem_range.1 hb
            rw [HN.out] at hb ⊢
            exact rowL_pre hb
          rw [h2] at h1
          exact h1
        have HOW : Hid (wr.ownsRow S 3 1 (.slice a14 o.length k14) o.length (numsL (natsL o))) := HOR9.out wr HNX.out.keep
        have HOI : Hid (∀ y, y ∈ natsL o → I64 y) := fun y hy => by
          obtain ⟨b, hb, rfl⟩ := List.mem_map.1 hy
          have hbn : b < n := by
            by_cases h : 0 < n
            · have := (HO13.out h).lt b hb; have := HN.out; omega
            · rw [HO14.out (by omega)] at hb; cases hb
          unfold I64; omega
        have HNU : Hid (Nums wr.heap.size wr (.slice a14 o.length k14) (natsL o)) := nums_of_own (by rw [natsL_len]; exact HOW.out) HOI.out
        have HKO : Hid (o.length ≤ k14) := (own_cap HOW.out).1
        have HFT : Hid (F < wr.heap.size) := lt_of_block HFW.out
        have hcF := HFW.out
        rw [HFOE.out] at hcF
        obtain ⟨c0, _, c2, _⟩ := cells7 hcF
        obtain ⟨m, hm⟩ : ∃ m, m = o.length := ⟨_, rfl⟩
        have HM : Hid (m = o.length) := hm
        rw [← hm] at c2
        have HCU : Hid (Calls Tryd.prog 30 #[.slice a9 n k9, .slice a14 m k14] wr fun e w' => ∃ g, e = .returned (.slice (some ⟨g, 0, none⟩) n n) ∧ Below wr.heap.size wr w' ∧ ∃ u, RowI w' wr.heap.size g n (upI u) ∧ (0 < n → UpOf L o u)) :=
          uppers_any L o wr.heap.size n k9 k14 m a9 a14 wr (Nat.le_refl _) HN.out HM.out hn HA.out (by rw [HM.out]; exact HNU.out) (by rw [HM.out]; exact HKO.out) HO13.out HO14.out
        clear hm hcF HNX
        go_wp2_with fail
        refine Calls.mono HCU.out ?_
        rintro e w5 ⟨gu, rfl, hb5, u, hru, hup⟩
        have HB5 : Hid (Below wr.heap.size wr w5) := hb5
        have HRU : Hid (RowI w5 wr.heap.size gu n (upI u)) := hru
        have HUP : Hid (0 < n → UpOf L o u) := hup
        have HF5 : Hid (w5.heap[F]? = some fo) := (hb5.block F HFT.out).trans HFW.out
        have c3 : w5.cell? ⟨F, 3, none⟩ = some (.slice none 0 0) := by have h := HF5.out; rw [HFOE.out] at h; exact (cells7 h).2.2.2.1
        have c3f : w5.frozen? ⟨F, 3, none⟩ = false := by have h := HF5.out; rw [HFOE.out] at h; exact thawAny h 3
        obtain ⟨w6, hw6⟩ : ∃ w6, w6 = w5.setCell ⟨F, 3, none⟩ (.slice (some ⟨gu, 0, none⟩) n n) := ⟨_, rfl⟩
        have HW6 : Hid (w6 = w5.setCell ⟨F, 3, none⟩ (.slice (some ⟨gu, 0, none⟩) n n)) := hw6
        have HF6 : Hid (w6.heap[F]? = some (fobj (.slice a9 n k9) (.slice (some ⟨gx, 0, none⟩) n n) (.slice a14 m k14) (.slice (some ⟨gu, 0, none⟩) n n) (.slice none 0 0) (.slice none 0 0) (.slice none 0 0))) := by
          have h := HF5.out
          rw [HFOE.out, ← HM.out] at h
          have h2 := heap_setCell_same (o := 3) h (.slice (some ⟨gu, 0, none⟩) n n)
          rw [← hw6] at h2
          unfold Hid
          simpa [fobj] using h2
        have HK6 : Hid (∀ k, k ≠ F → w6.heap[k]? = w5.heap[k]?) := fun k hk => by rw [hw6]; exact Below.heap_setCell _ _ _ _ hk
        have HS6 : Hid (w6.heap.size = w5.heap.size ∧ w6.os = w5.os ∧ w6.tape = w5.tape ∧ w6.output = w5.output) := by unfold Hid; rw [hw6]; exact ⟨by simp [World.setCell], rfl, rfl, rfl⟩
        have HGU : Hid (wr.heap.size ≤ gu ∧ gu < w5.heap.size) := hru.lt
        have HU6 : Hid (RowI w6 0 gu n (upI u)) := (hru.base (Nat.zero_le _)).keep (HK6.out gu (by have := HGU.out; have := HFT.out; omega))
        have HW56 : Hid (∀ k, k < wr.heap.size → k ≠ F → w6.heap[k]? = wr.heap[k]?) := fun k hk hn => (HK6.out k hn).trans (HB5.out.block k hk)
        have HOW6 : Hid (w6.ownsRow S 3 1 (.slice a14 o.length k14) o.length (numsL (natsL o))) := own_same HOW.out fun g hg => HW56.out g (own_lt HOW.out hg).2 (fun e => HO11.out (e ▸ hg))
        have HNU6 : Hid (Nums w6.heap.size w6 (.slice a14 m k14) (natsL o)) := by unfold Hid; rw [HM.out]; exact nums_of_own (by rw [natsL_len]; exact HOW6.out) HOI.out
        have HCP : Hid (Calls Tryd.prog 31 #[.pointer (some ⟨F, 0, none⟩)] w6 fun e w' => e = .returned (.tuple #[]) ∧ ∃ g4 g5 g6 : Nat, Planted o (fun b => (u b).getD 0) m n F g5 g6 (fobj (.slice a9 n k9) (.slice (some ⟨gx, 0, none⟩) n n) (.slice a14 m k14) (.slice (some ⟨gu, 0, none⟩) n n) (.slice (some ⟨g4, 0, none⟩) m m) (.slice (some ⟨g5, 0, none⟩) n n) (.slice (some ⟨g6, 0, none⟩) n n)) w6 w') := by
          have h0 : ∀ b, b ∈ o → 0 < n ∧ b < n := fun b hb => by
            by_cases h : 0 < n
            · have := (HO13.out h).lt b hb; have := HN.out; exact ⟨h, by omega⟩
            · rw [HO14.out (by omega)] at hb; cases hb
          refine plant_any o u (fun b => (u b).getD 0) w6.heap.size n m k9 k14 F gu a9 a14 _ w6 (Nat.le_refl _) HM.out hn (fun b hb => (h0 b hb).2) ?_ (fun hm0 => ?_) (fun b hb hb0 => ?_) HF6.out HNU6.out (fun go oo e eF => ?_) HU6.out (by have := HGU.out; have := HFT.out; omega)
          · by_cases h : 0 < n
            · exact (HO13.out h).nodup
            · rw [HO14.out (by omega)]; exact List.nodup_nil
          · have hn0 : 0 < n := by
              obtain ⟨b, hb⟩ := List.exists_mem_of_length_pos (l := o) (by have := HM.out; omega)
              exact (h0 b hb).1
            exact (HUP.out hn0).tree (HO13.out hn0)
          · exact (HUP.out (h0 b hb).1).tree2 (HO13.out (h0 b hb).1) hb hb0
          · subst eF
            have h1 := HO11.out
            rw [e] at h1
            have hoo : oo = 0 := by
              have h2 := HOW.out
              rw [e] at h2
              rcases h2.2 with ⟨h3, _⟩ | ⟨_, _, _, h3, _⟩
              · cases h3
              · cases h3; rfl
            rw [hoo] at h1
            exact h1 rfl
        clear hb5 hru hup hw6
        go_wp2_with fail
        rw [← HW6.out]
        refine Calls.mono HCP.out ?_
        rintro e w7 ⟨rfl, g4, g5, g6, hPL⟩
        have hF7 := hPL.obj
        have hfr7 := hPL.fr
        have HPL : Hid (_) := hPL
        clear hPL
        have HF7 : Hid (_) := hF7
        have HFR7 : Hid (FrF F w6 w7) := hfr7
        obtain ⟨d0, d1, d2, d3, d4, d5, d6⟩ := cells7 hF7
        have hR7 : w7.heap[R]? = some (fobj (.slice none 0 0) (.slice none 0 0) (.slice none 0 0) (.slice none 0 0) (.slice none 0 0) (.slice none 0 0) (.slice none 0 0)) := by
          have hz := HZ6.out
          have hs := HSR.out
          have hw := HNF.out.size
          have ht := HTE.out
          have h5 := HB5.out.size
          have h6 := HS6.out.1
          have hst := HST.out
          exact (HFR7.out.block R (by omega) (by omega)).trans ((HW56.out R (by omega) (by omega)).trans ((HKP.out R (by omega) (by omega)).trans ((hz.2.2.2.block R (by omega)).trans HR0.out)))
        obtain ⟨f0, f1, f2, f3, f4, f5, f6⟩ := cells7 hR7
        have b0 := thawAny hR7 0
        have b1 := thawAny hR7 1
        have b2 := thawAny hR7 2
        have b3 := thawAny hR7 3
        have b4 := thawAny hR7 4
        have b5 := thawAny hR7 5
        have b6 := thawAny hR7 6
        have HR7 : Hid (_) := hR7
        clear hF7 hfr7 hR7 c0 c2 c3 c3f
        go_wp2_with fail
        obtain ⟨w8, hw8⟩ : ∃ w8, w8 = put7 w7 R (.slice a9 n k9) (.slice (some ⟨gx, 0, none⟩) n n) (.slice a14 m k14) (.slice (some ⟨gu, 0, none⟩) n n) (.slice (some ⟨g4, 0, none⟩) m m) (.slice (some ⟨g5, 0, none⟩) n n) (.slice (some ⟨g6, 0, none⟩) n n) := ⟨_, rfl⟩
        have HK8 : Hid (∀ k, k ≠ R → w8.heap[k]? = w7.heap[k]?) := fun k hk => by rw [hw8]; exact put7_off _ _ _ _ _ _ _ _ _ hk
        have HS8 : Hid (w8.heap.size = w7.heap.size ∧ w8.os = w7.os ∧ w8.tape = w7.tape ∧ w8.output = w7.output) := by unfold Hid; rw [hw8]; exact put7_size _ _ _ _ _ _ _ _ _
        have hR8 : w8.heap[R]? = some (fobj (.slice a9 n k9) (.slice (some ⟨gx, 0, none⟩) n n) (.slice a14 m k14) (.slice (some ⟨gu, 0, none⟩) n n) (.slice (some ⟨g4, 0, none⟩) m m) (.slice (some ⟨g5, 0, none⟩) n n) (.slice (some ⟨g6, 0, none⟩) n n)) := by rw [hw8]; exact put7_here HR7.out _ _ _ _ _ _ _
        have HLIT : (((((((w7.setCell ⟨R, 0, none⟩ (.slice a9 n k9)).setCell ⟨R, 1, none⟩ (.slice (some ⟨gx, 0, none⟩) n n)).setCell ⟨R, 2, none⟩ (.slice a14 m k14)).setCell ⟨R, 3, none⟩ (.slice (some ⟨gu, 0, none⟩) n n)).setCell ⟨R, 4, none⟩ (.slice (some ⟨g4, 0, none⟩) m m)).setCell ⟨R, 5, none⟩ (.slice (some ⟨g5, 0, none⟩) n n)).setCell ⟨R, 6, none⟩ (.slice (some ⟨g6, 0, none⟩) n n)) = w8 := by rw [hw8]; rfl
        obtain ⟨e0, e1, e2, e3, e4, e5, e6⟩ := cells7 hR8
        have hz := HZ6.out
        have hsr := HSR.out
        have hse := HSE.out
        have hre := HRE.out
        have hft := HFT.out
        have hgu := HGU.out
        have h6 := HS6.out
        have h8 := HS8.out
        have hst := HST.out
        have hnf := HNF.out
        have h7 := HFR7.out
        have hb5 := HB5.out
        have hb0 := HB0.out
        have hte := HTE.out
        have HOW8 : w8.ownsRow S 3 1 (.slice a14 o.length k14) o.length (numsL (natsL o)) := own_same HOW6.out fun g hg => by
          have h1 := own_lt HOW6.out hg
          exact (HK8.out g (by omega)).trans (h7.block g h1.2 (fun e => HO11.out (e ▸ hg)))
        have HU8 : RowI w8 0 gu n (upI u) := HU6.out.keep ((HK8.out gu (by omega)).trans (h7.block gu (by omega) (by omega)))
        have HB8 : Below w.heap.size w w8 := by
          have hs5 := hb5.size
          have hs7 := h7.size
          have hzs := hz.2.2.2.size
          refine ⟨h8.2.1.trans (h7.os.trans (h6.2.1.trans (hb5.os.trans (hnf.os.trans (hz.2.2.2.os.trans hb0.os))))), h8.2.2.1.trans (h7.tape.trans (h6.2.2.1.trans (hb5.tape.trans (hnf.tape.trans (hz.2.2.2.tape.trans hb0.tape))))), h8.2.2.2.trans (h7.output.trans (h6.2.2.2.trans (hb5.output.trans (hnf.output.trans (hz.2.2.2.output.trans hb0.output))))), by have := hnf.size; omega, fun k hk => ?_⟩
          have hnfs := hnf.size
          exact (HK8.out k (by omega)).trans ((h7.block k (by omega) (by omega)).trans ((HW56.out k (by omega) (by omega)).trans ((HKP.out k (by omega) (by omega)).trans ((hz.2.2.2.block k (by omega)).trans (hb0.block k hk)))))
        have HNU8 : Nums w8.heap.size w8 (.slice a14 m k14) (natsL o) := by rw [HM.out]; exact nums_of_own (by rw [natsL_len]; exact HOW8) HOI.out
        have hFL : Flowed L o u n m (.slice a9 n k9) (.slice a14 m k14) g5 g6 w.heap.size w8 := by
          obtain ⟨A, at', fr, p1, p2, p3, p4, p5⟩ := HPL.out.rows
          have l5 := HPL.out.l5
          have l6 := HPL.out.l6
          have hs5 := hb5.size
          have g1 := ((((HG9.out wr HNF.out.keep).keep HB5.out).off HGO9.out HK6.out).fr HGO9.out h7)
          have g2 := g1.off (Grid.offBig g1 (.inl (show R < S by omega))) HK8.out
          exact ⟨by rw [HM.out]; exact own_base' HOW8 (by omega), ⟨_, g2.base (by omega)⟩, HPL.out.ne, by omega, by omega, A, at', fr, p1, p2, p3, p4.keep (HK8.out _ (by omega)), p5.keep (HK8.out _ (by omega))⟩
        rw [HLIT]
        clear hw8 HLIT
        exact bodyPost_ret (v := .agg #[.slice a9 n k9, .slice (some ⟨gx, 0, none⟩) n n, .slice a14 m k14, .slice (some ⟨gu, 0, none⟩) n n, .slice (some ⟨g4, 0, none⟩) m m, .slice (some ⟨g5, 0, none⟩) n n, .slice (some ⟨g6, 0, none⟩) n n]) (by simp [results, Tryd.results16, go_sem, e0, e1, e2, e3, e4, e5, e6]) rfl ⟨a9, k9, gx, a14, k14, gu, g4, g5, g6, m, o, u, rfl, HM.out, HNU8, HU8, fun h => ⟨HO13.out h, HUP.out h⟩, HO14.out, HB8, hFL⟩
      | succ gt =>
        have hltT : (t : Int) < (n : Int) := by omega
        have htn : t < n := by omega
        have HTN : Hid (t < n) := htn
        obtain ⟨ga, ca, ut, au, ku, he, _, _, hvt, hut, hcell, _⟩ := (HG9.out wr HNX.out.keep).at htn
        cases he
        subst hut
        obtain ⟨l, hl⟩ : ∃ l, l = rowL L t n := ⟨_, rfl⟩
        obtain ⟨ll, hll⟩ : ∃ ll, ll = (rowL L t n).length := ⟨_, rfl⟩
        have HRU : Hid (∀ X : World, (∀ k, k < T → k ≠ gx → X.heap[k]? = wc.heap[k]?) → X.ownsRow S 3 1 (.slice au ll ku) ll (numsL l)) := fun X hX => by rw [hll, hl]; exact (HG9.out X hX).each t _ htn hvt
        rw [← hll] at hcell
        have HLL : Hid (ll = l.length) := by unfold Hid; rw [hl]; exact hll
        have HLE : Hid (ll ≤ n) := by unfold Hid; rw [hll]; exact HLN.out t
        have hll20 : ll ≤ 1048576 := by have := HLE.out; omega
        have HMEM : Hid (∀ y, y ∈ l → 0 ≤ y ∧ y < (n : Int)) := fun y hy => rowL_mem (by rw [← hl]; exact hy)
        clear hvt hl hll
        go_wp2_with fail
        clear hcell
        go_loopg [26] ll (fun g s26 wr => ∃ (j : Nat) (vsx : List Value) (f : Nat → List Int) (cnt : Nat), s26 = .int .i64 (j : Nat) ∧ j + g = ll ∧ Hid (cnt ≤ t * n + j) ∧ Hid (NX wc S T n gx cnt vsx f wr))
        case atStart => exact ⟨0, vsx, f, cnt, rfl, by omega, by have := HCNT.out; unfold Hid; omega, HNX⟩
        case round =>
          clear HNX HCNT vsx f cnt
          obtain ⟨j, vsx, f, cnt, rfl, hj', HCNT, HNX⟩ := hrel
          cases gk with
          | zero =>
            have hltJ : ¬ (j : Int) < (ll : Int) := by omega
            have HC2 : Hid (cnt ≤ (t + 1) * n) := by have := HCNT.out; have := HLE.out; unfold Hid; rw [Nat.succ_mul]; omega
            go_wp2_with fail
            go_roundg gt
            case measure => omega
            case rel => exact ⟨t + 1, vsx, f, cnt, by go_num, by omega, HC2, HNX⟩
          | succ gj =>
            have hltJ : (j : Int) < (ll : Int) := by omega
            have hjl : j < l.length := by have := HLL.out; omega
            have hgy : l[j]? = some l[j] := List.getElem?_eq_getElem hjl
            generalize l[j] = y at hgy
            obtain ⟨hy0', hyn⟩ := HMEM.out y (List.mem_of_getElem? hgy)
            obtain ⟨k, rfl⟩ : ∃ k : Nat, y = (k : Int) := ⟨y.toNat, by omega⟩
            have hkn : k < n := by omega
            have HKN : Hid (k < n) := hkn
            obtain ⟨gq, cq, he, _, _, _, _, _, hat⟩ := own_at (HRU.out wr HNX.out.keep) (by omega)
            cases he
            have q1 := hat j _ (numsL_get _ _ _ hgy)
            obtain ⟨g1, c1, u, av, cv, he, _, _, hvk, hu, hcell, hfz⟩ := HNX.out.grid.at hkn
            cases he
            subst hu
            obtain ⟨la, hla⟩ : ∃ la, la = (f k).length := ⟨_, rfl⟩
            have HLA : Hid (la = (f k).length) := hla
            have hlb : la ≤ 1099513724928 := by
              have h1 := HNX.out.cnt k hkn
              have h2 := HCNT.out
              have h3 : t * n ≤ 1048576 * 1048576 := Nat.mul_le_mul (by omega) hn
              have := HLE.out
              omega
            have HVK : Hid (vsx[k]? = some (.slice av la cv)) := by unfold Hid; rw [hla]; exact hvk
            have HOWN : Hid (∀ X : World, Below wr.heap.size wr X → X.ownsRow S 3 1 (.slice av la cv) la (numsL (f k))) := fun X hX => by
              have h1 := HNX.out.grid.each k _ hkn hvk
              rw [← hla] at h1
              exact own_same h1 fun g hg => hX.block g (own_lt h1 hg).2
            have HCE : Hid (wr.cell? ⟨gx, k, none⟩ = some (.slice av la cv) ∧ wr.frozen? ⟨gx, k, none⟩ = false) := by unfold Hid; rw [hla]; exact ⟨hcell, hfz⟩
            have HGX : Hid (gx < T ∧ T ≤ wr.heap.size) := ⟨HNX.out.gT, HNX.out.size⟩
            have HAV : Hid (∀ g, (Value.slice av la cv).ownBlock = some g → T ≤ g) := fun g hg => HNX.out.hi k _ g hkn HVK.out hg
            have HFW : Hid (wr.heap[F]? = some fo) := HAGF.out wr HNX.out.keep
            have HFT : Hid (F < T) := HFT0.out
            have hknI : (k : Int) < (n : Int) := by omega
            clear hgy hat hcell hfz hvk hla hy0' hjl hkn
            go_upto_region 8 with fail
            refine wp_region_any (by kernel_rfl) ?_
            refine wpAny_inv (fun listed a wx => ∃ d0 d1 d2 d3 d4 d5 d6 d7 d8 d9 d10 d11 d12 : Bool, listed = #[d0, d1, d2, d3, d4, d5, d6, d7, d8, d9, d10, d11, d12] ∧ ∃ v30 v31 v32 v33 v34 v35 v36 v37 v38 v39 v40 v41 : Value, a = { tmps := #[Value.slice aL n kL, undef, Value.pointer (some ⟨R, 0, none⟩), Value.pointer (some ⟨F, 0, none⟩), Value.int .i64 (t : Nat), Value.slice (some ⟨gq, 0, none⟩) ll ku, undef, Value.int .i64 (k : Nat), u8, u9, u10, u11, u12, u13, u14, u15, Value.pointer (some ⟨F, 0, none⟩), Value.slice (some ⟨ga, 0, none⟩) n k9, Value.int .i64 (n : Nat), Value.int .i64 (t : Nat), Value.bool true, Value.int .i64 (t : Nat), Value.pointer (some ⟨ga, t, none⟩), Value.slice (some ⟨gq, 0, none⟩) ll ku, Value.slice (some ⟨gq, 0, none⟩) ll ku, Value.int .i64 (ll : Nat), Value.int .i64 (j : Nat), Value.bool true, Value.pointer (some ⟨gq, j, none⟩), Value.int .i64 (k : Nat), v30, v31, v32, v33, v34, v35, v36, v37, v38, v39, v40, v41, u42, u43, undef, undef, undef, undef, undef, undef, undef, undef], defers := [] } ∧ Hid (R8 wr S n F gx la k t av cv fo (f k) (fun X => ∃ (gn cp : Nat) (w1 : World), X = w1.setCell ⟨gx, k, none⟩ (.slice (some ⟨gn, 0, none⟩) (la + 1) cp) ∧ w1.ownsRow S 3 1 (.slice (some ⟨gn, 0, none⟩) (la + 1) cp) (la + 1) (numsL (f k) ++ [numV (t : Nat)]) ∧ (wr.alloc (.cells #[.int .i64 (t : Nat)] 3)).drew.grownBy w1 (Value.slice av la cv).ownBlock ∧ ((Value.slice av la cv).ownBlock = some gn ∨ gn = wr.heap.size + 1)) d0 d1 d2 d3 d4 d5 d6 d7 d8 d9 d10 d11 d12 v30 v31 v32 v33 v34 v35 v36 v37 v38 v39 v40 v41 wx)) ?rstep ?rdone _ _ _ _ (Nat.le_of_eq (by kernel_rfl)) ?rinit
            case rstep =>
              rintro listed a wx ri ⟨d0, d1, d2, d3, d4, d5, d6, d7, d8, d9, d10, d11, d12, rfl, v30, v31, v32, v33, v34, v35, v36, v37, v38, v39, v40, v41, rfl, H⟩ hri
              obtain ⟨hi0, hi1, hi2⟩ := ready_mem hri
              clear hri
              have hi0 : ri < 13 := hi0
              have hcase : ri = 0 ∨ ri = 1 ∨ ri = 2 ∨ ri = 3 ∨ ri = 4 ∨ ri = 5 ∨ ri = 6 ∨ ri = 7 ∨ ri = 8 ∨ ri = 9 ∨ ri = 10 ∨ ri = 11 ∨ ri = 12 := by omega
              clear hi0
              obtain ⟨i1, hi1', hy0, hy1, hyb⟩ := infoParts infoInt
              rcases hcase with rfl | rfl | rfl | rfl | rfl | rfl | rfl | rfl | rfl | rfl | rfl | rfl | rfl
              all_goals (simp [Region.binds] at hi1 hi2)
              · obtain rfl : d0 = false := by simpa using hi1
                clear hi1
                have h12 : d12 = false := by
                  rcases hq : d12 with _ | _
                  · rfl
                  · exact nomatch (H.out.oA hq).1
                subst h12
                refine wpOp_step rfl (fun K' hK => ?_)
                go_simp
                refine hK _ _ ?_
                exact ⟨true, d1, d2, d3, d4, d5, d6, d7, d8, d9, d10, d11, false, rfl, _, _, _, _, _, _, _, _, _, _, _, _, rfl, ⟨H.out.w1, H.out.w2, H.out.w3, (fun hd => nomatch hd), H.out.cF, fun _ => rfl, H.out.c1, H.out.c2, H.out.c3, H.out.c4, H.out.c5, H.out.c6, H.out.c7, H.out.c8, H.out.c9, H.out.c11, H.out.o10, (fun hd => nomatch hd), H.out.o9, (fun hd => nomatch hd)⟩⟩
              · obtain rfl : d1 = false := by simpa using hi1
                have e0 : d0 = true := by first | exact hi2 | exact hi2.1 | exact hi2.2.1 | exact hi2.2.2.1 | exact hi2.2.2.2.1 | exact hi2.2.2.2.2.1 | exact hi2.2.2.2.2.2.1 | exact hi2.2.2.2.2.2.2.1 | exact hi2.2.2.2.2.2.2.2.1 | exact hi2.2.2.2.2.2.2.2.2.1 | exact hi2.2.2.2.2.2.2.2.2.2.1 | exact hi2.2.2.2.2.2.2.2.2.2.2.1 | exact hi2.2.2.2.2.2.2.2.2.2.2.2.1 | exact hi2.2.2.2.2.2.2.2.2.2.2.2.2.1 | exact hi2.2.2.2.2.2.2.2.2.2.2.2.2.2.1 | exact hi2.2 | exact hi2.2.2 | exact hi2.2.2.2 | exact hi2.2.2.2.2 | exact hi2.2.2.2.2.2 | exact hi2.2.2.2.2.2.2 | exact hi2.2.2.2.2.2.2.2 | exact hi2.2.2.2.2.2.2.2.2 | exact hi2.2.2.2.2.2.2.2.2.2 | exact hi2.2.2.2.2.2.2.2.2.2.2 | exact hi2.2.2.2.2.2.2.2.2.2.2.2 | exact hi2.2.2.2.2.2.2.2.2.2.2.2.2 | exact hi2.2.2.2.2.2.2.2.2.2.2.2.2.2
                clear hi1 hi2
                subst e0
                have h12 : d12 = false := by
                  rcases hq : d12 with _ | _
                  · rfl
                  · exact nomatch (H.out.oA hq).2.1
                subst h12
                obtain rfl := H.out.c0 rfl
                obtain ⟨qF, _⟩ := H.out.cF rfl
                rw [HFOE.out] at qF
                have q2 := (cells7 qF).2.1
                refine wpOp_step rfl (fun K' hK => ?_)
                go_simp
                refine hK _ _ ?_
                exact ⟨true, true, d2, d3, d4, d5, d6, d7, d8, d9, d10, d11, false, rfl, _, _, _, _, _, _, _, _, _, _, _, _, rfl, ⟨H.out.w1, H.out.w2, H.out.w3, (fun hd => nomatch hd), H.out.cF, H.out.c0, fun _ => rfl, H.out.c2, H.out.c3, H.out.c4, H.out.c5, H.out.c6, H.out.c7, H.out.c8, H.out.c9, H.out.c11, H.out.o10, (fun hd => nomatch hd), H.out.o9, (fun hd => nomatch hd)⟩⟩
              · obtain rfl : d2 = false := by simpa using hi1
                clear hi1
                have h12 : d12 = false := by
                  rcases hq : d12 with _ | _
                  · rfl
                  · exact nomatch (H.out.oA hq).2.2.1
                subst h12
                refine wpOp_step rfl (fun K' hK => ?_)
                go_simp
                refine hK _ _ ?_
                exact ⟨d0, d1, true, d3, d4, d5, d6, d7, d8, d9, d10, d11, false, rfl, _, _, _, _, _, _, _, _, _, _, _, _, rfl, ⟨H.out.w1, H.out.w2, H.out.w3, (fun hd => nomatch hd), H.out.cF, H.out.c0, H.out.c1, fun _ => rfl, H.out.c3, H.out.c4, H.out.c5, H.out.c6, H.out.c7, H.out.c8, H.out.c9, H.out.c11, H.out.o10, (fun hd => nomatch hd), H.out.o9, (fun hd => nomatch hd)⟩⟩
              · obtain rfl : d3 = false := by simpa using hi1
                clear hi1
                have h12 : d12 = false := by
                  rcases hq : d12 with _ | _
                  · rfl
                  · exact nomatch (H.out.oA hq).2.2.2.1
                subst h12
                refine wpOp_step rfl (fun K' hK => ?_)
                go_simp
                refine hK _ _ ?_
                exact ⟨d0, d1, d2, true, d4, d5, d6, d7, d8, d9, d10, d11, false, rfl, _, _, _, _, _, _, _, _, _, _, _, _, rfl, ⟨H.out.w1, H.out.w2, H.out.w3, (fun hd => nomatch hd), H.out.cF, H.out.c0, H.out.c1, H.out.c2, fun _ => rfl, H.out.c4, H.out.c5, H.out.c6, H.out.c7, H.out.c8, H.out.c9, H.out.c11, H.out.o10, (fun hd => nomatch hd), H.out.o9, (fun hd => nomatch hd)⟩⟩
              · obtain rfl : d4 = false := by simpa using hi1
                have e3 : d3 = true := by first | exact hi2 | exact hi2.1 | exact hi2.2.1 | exact hi2.2.2.1 | exact hi2.2.2.2.1 | exact hi2.2.2.2.2.1 | exact hi2.2.2.2.2.2.1 | exact hi2.2.2.2.2.2.2.1 | exact hi2.2.2.2.2.2.2.2.1 | exact hi2.2.2.2.2.2.2.2.2.1 | exact hi2.2.2.2.2.2.2.2.2.2.1 | exact hi2.2.2.2.2.2.2.2.2.2.2.1 | exact hi2.2.2.2.2.2.2.2.2.2.2.2.1 | exact hi2.2.2.2.2.2.2.2.2.2.2.2.2.1 | exact hi2.2.2.2.2.2.2.2.2.2.2.2.2.2.1 | exact hi2.2 | exact hi2.2.2 | exact hi2.2.2.2 | exact hi2.2.2.2.2 | exact hi2.2.2.2.2.2 | exact hi2.2.2.2.2.2.2 | exact hi2.2.2.2.2.2.2.2 | exact hi2.2.2.2.2.2.2.2.2 | exact hi2.2.2.2.2.2.2.2.2.2 | exact hi2.2.2.2.2.2.2.2.2.2.2 | exact hi2.2.2.2.2.2.2.2.2.2.2.2 | exact hi2.2.2.2.2.2.2.2.2.2.2.2.2 | exact hi2.2.2.2.2.2.2.2.2.2.2.2.2.2
                clear hi1 hi2
                subst e3
                have h12 : d12 = false := by
                  rcases hq : d12 with _ | _
                  · rfl
                  · exact nomatch (H.out.oA hq).2.2.2.2.1
                subst h12
                obtain rfl := H.out.c3 rfl
                obtain ⟨qF, _⟩ := H.out.cF rfl
                rw [HFOE.out] at qF
                have q2 := (cells7 qF).2.1
                refine wpOp_step rfl (fun K' hK => ?_)
                go_simp
                refine hK _ _ ?_
                exact ⟨d0, d1, d2, true, true, d5, d6, d7, d8, d9, d10, d11, false, rfl, _, _, _, _, _, _, _, _, _, _, _, _, rfl, ⟨H.out.w1, H.out.w2, H.out.w3, (fun hd => nomatch hd), H.out.cF, H.out.c0, H.out.c1, H.out.c2, H.out.c3, fun _ => rfl, H.out.c5, H.out.c6, H.out.c7, H.out.c8, H.out.c9, H.out.c11, H.out.o10, (fun hd => nomatch hd), H.out.o9, (fun hd => nomatch hd)⟩⟩
              · obtain rfl : d5 = false := by simpa using hi1
                clear hi1
                have h12 : d12 = false := by
                  rcases hq : d12 with _ | _
                  · rfl
                  · exact nomatch (H.out.oA hq).2.2.2.2.2.1
                subst h12
                refine wpOp_step rfl (fun K' hK => ?_)
                go_simp
                refine hK _ _ ?_
                exact ⟨d0, d1, d2, d3, d4, true, d6, d7, d8, d9, d10, d11, false, rfl, _, _, _, _, _, _, _, _, _, _, _, _, rfl, ⟨H.out.w1, H.out.w2, H.out.w3, (fun hd => nomatch hd), H.out.cF, H.out.c0, H.out.c1, H.out.c2, H.out.c3, H.out.c4, fun _ => rfl, H.out.c6, H.out.c7, H.out.c8, H.out.c9, H.out.c11, H.out.o10, (fun hd => nomatch hd), H.out.o9, (fun hd => nomatch hd)⟩⟩
              · obtain rfl : d6 = false := by simpa using hi1
                have e4 : d4 = true := by first | exact hi2 | exact hi2.1 | exact hi2.2.1 | exact hi2.2.2.1 | exact hi2.2.2.2.1 | exact hi2.2.2.2.2.1 | exact hi2.2.2.2.2.2.1 | exact hi2.2.2.2.2.2.2.1 | exact hi2.2.2.2.2.2.2.2.1 | exact hi2.2.2.2.2.2.2.2.2.1 | exact hi2.2.2.2.2.2.2.2.2.2.1 | exact hi2.2.2.2.2.2.2.2.2.2.2.1 | exact hi2.2.2.2.2.2.2.2.2.2.2.2.1 | exact hi2.2.2.2.2.2.2.2.2.2.2.2.2.1 | exact hi2.2.2.2.2.2.2.2.2.2.2.2.2.2.1 | exact hi2.2 | exact hi2.2.2 | exact hi2.2.2.2 | exact hi2.2.2.2.2 | exact hi2.2.2.2.2.2 | exact hi2.2.2.2.2.2.2 | exact hi2.2.2.2.2.2.2.2 | exact hi2.2.2.2.2.2.2.2.2 | exact hi2.2.2.2.2.2.2.2.2.2 | exact hi2.2.2.2.2.2.2.2.2.2.2 | exact hi2.2.2.2.2.2.2.2.2.2.2.2 | exact hi2.2.2.2.2.2.2.2.2.2.2.2.2 | exact hi2.2.2.2.2.2.2.2.2.2.2.2.2.2
                have e5 : d5 = true := by first | exact hi2 | exact hi2.1 | exact hi2.2.1 | exact hi2.2.2.1 | exact hi2.2.2.2.1 | exact hi2.2.2.2.2.1 | exact hi2.2.2.2.2.2.1 | exact hi2.2.2.2.2.2.2.1 | exact hi2.2.2.2.2.2.2.2.1 | exact hi2.2.2.2.2.2.2.2.2.1 | exact hi2.2.2.2.2.2.2.2.2.2.1 | exact hi2.2.2.2.2.2.2.2.2.2.2.1 | exact hi2.2.2.2.2.2.2.2.2.2.2.2.1 | exact hi2.2.2.2.2.2.2.2.2.2.2.2.2.1 | exact hi2.2.2.2.2.2.2.2.2.2.2.2.2.2.1 | exact hi2.2 | exact hi2.2.2 | exact hi2.2.2.2 | exact hi2.2.2.2.2 | exact hi2.2.2.2.2.2 | exact hi2.2.2.2.2.2.2 | exact hi2.2.2.2.2.2.2.2 | exact hi2.2.2.2.2.2.2.2.2 | exact hi2.2.2.2.2.2.2.2.2.2 | exact hi2.2.2.2.2.2.2.2.2.2.2 | exact hi2.2.2.2.2.2.2.2.2.2.2.2 | exact hi2.2.2.2.2.2.2.2.2.2.2.2.2 | exact hi2.2.2.2.2.2.2.2.2.2.2.2.2.2
                clear hi1 hi2
                subst e4
                subst e5
                have h12 : d12 = false := by
                  rcases hq : d12 with _ | _
                  · rfl
                  · exact nomatch (H.out.oA hq).2.2.2.2.2.2
                subst h12
                obtain rfl := H.out.c4 rfl
                obtain rfl := H.out.c5 rfl
                refine wpOp_step rfl (fun K' hK => ?_)
                go_simp
                refine hK _ _ ?_
                exact ⟨d0, d1, d2, d3, true, true, true, d7, d8, d9, d10, d11, false, rfl, _, _, _, _, _, _, _, _, _, _, _, _, rfl, ⟨H.out.w1, H.out.w2, H.out.w3, (fun hd => nomatch hd), H.out.cF, H.out.c0, H.out.c1, H.out.c2, H.out.c3, H.out.c4, H.out.c5, fun _ => rfl, H.out.c7, H.out.c8, H.out.c9, H.out.c11, H.out.o10, (fun hd => nomatch hd), H.out.o9, (fun hd => nomatch hd)⟩⟩
              · obtain rfl : d7 = false := by simpa using hi1
                have e6 : d6 = true := by first | exact hi2 | exact hi2.1 | exact hi2.2.1 | exact hi2.2.2.1 | exact hi2.2.2.2.1 | exact hi2.2.2.2.2.1 | exact hi2.2.2.2.2.2.1 | exact hi2.2.2.2.2.2.2.1 | exact hi2.2.2.2.2.2.2.2.1 | exact hi2.2.2.2.2.2.2.2.2.1 | exact hi2.2.2.2.2.2.2.2.2.2.1 | exact hi2.2.2.2.2.2.2.2.2.2.2.1 | exact hi2.2.2.2.2.2.2.2.2.2.2.2.1 | exact hi2.2.2.2.2.2.2.2.2.2.2.2.2.1 | exact hi2.2.2.2.2.2.2.2.2.2.2.2.2.2.1 | exact hi2.2 | exact hi2.2.2 | exact hi2.2.2.2 | exact hi2.2.2.2.2 | exact hi2.2.2.2.2.2 | exact hi2.2.2.2.2.2.2 | exact hi2.2.2.2.2.2.2.2 | exact hi2.2.2.2.2.2.2.2.2 | exact hi2.2.2.2.2.2.2.2.2.2 | exact hi2.2.2.2.2.2.2.2.2.2.2 | exact hi2.2.2.2.2.2.2.2.2.2.2.2 | exact hi2.2.2.2.2.2.2.2.2.2.2.2.2 | exact hi2.2.2.2.2.2.2.2.2.2.2.2.2.2
                clear hi1 hi2
                subst e6
                have h12 : d12 = false := by
                  rcases hq : d12 with _ | _
                  · rfl
                  · exact nomatch (H.out.o10 (H.out.o12 hq).1).2
                subst h12
                have h10 : d10 = false := by
                  rcases hq : d10 with _ | _
                  · rfl
                  · exact nomatch (H.out.o10 hq).2
                subst h10
                obtain rfl := H.out.c6 rfl
                have q2 : wx.cell? ⟨gx, k, none⟩ = some (.slice av la cv) := (World.cell?_of_block (w := wr) (H.out.cF rfl).2).trans HCE.out.1
                refine wpOp_step rfl (fun K' hK => ?_)
                go_simp
                refine hK _ _ ?_
                exact ⟨d0, d1, d2, d3, d4, d5, true, true, d8, d9, false, d11, false, rfl, _, _, _, _, _, _, _, _, _, _, _, _, rfl, ⟨H.out.w1, H.out.w2, (fun hd => nomatch hd), (fun hd => nomatch hd), H.out.cF, H.out.c0, H.out.c1, H.out.c2, H.out.c3, H.out.c4, H.out.c5, H.out.c6, fun _ => rfl, H.out.c8, H.out.c9, H.out.c11, (fun hd => nomatch hd), (fun hd => nomatch hd), H.out.o9, (fun hd => nomatch hd)⟩⟩
              · obtain rfl : d8 = false := by simpa using hi1
                clear hi1
                have h12 : d12 = false := by
                  rcases hq : d12 with _ | _
                  · rfl
                  · exact nomatch (H.out.o9 (H.out.o10 (H.out.o12 hq).1).1)
                subst h12
                have h9 : d9 = false := by
                  rcases hq : d9 with _ | _
                  · rfl
                  · exact nomatch (H.out.o9 hq)
                subst h9
                refine wpOp_step rfl (fun K' hK => ?_)
                go_simp
                refine hK _ _ ?_
                exact ⟨d0, d1, d2, d3, d4, d5, d6, d7, true, false, d10, d11, false, rfl, _, _, _, _, _, _, _, _, _, _, _, _, rfl, ⟨H.out.w1, (fun hd => nomatch hd), H.out.w3, (fun hd => nomatch hd), H.out.cF, H.out.c0, H.out.c1, H.out.c2, H.out.c3, H.out.c4, H.out.c5, H.out.c6, H.out.c7, fun _ => rfl, H.out.c9, H.out.c11, H.out.o10, (fun hd => nomatch hd), fun _ => rfl, (fun hd => nomatch hd)⟩⟩
              · obtain rfl : d9 = false := by simpa using hi1
                have e8 : d8 = true := by first | exact hi2 | exact hi2.1 | exact hi2.2.1 | exact hi2.2.2.1 | exact hi2.2.2.2.1 | exact hi2.2.2.2.2.1 | exact hi2.2.2.2.2.2.1 | exact hi2.2.2.2.2.2.2.1 | exact hi2.2.2.2.2.2.2.2.1 | exact hi2.2.2.2.2.2.2.2.2.1 | exact hi2.2.2.2.2.2.2.2.2.2.1 | exact hi2.2.2.2.2.2.2.2.2.2.2.1 | exact hi2.2.2.2.2.2.2.2.2.2.2.2.1 | exact hi2.2.2.2.2.2.2.2.2.2.2.2.2.1 | exact hi2.2.2.2.2.2.2.2.2.2.2.2.2.2.1 | exact hi2.2 | exact hi2.2.2 | exact hi2.2.2.2 | exact hi2.2.2.2.2 | exact hi2.2.2.2.2.2 | exact hi2.2.2.2.2.2.2 | exact hi2.2.2.2.2.2.2.2 | exact hi2.2.2.2.2.2.2.2.2 | exact hi2.2.2.2.2.2.2.2.2.2 | exact hi2.2.2.2.2.2.2.2.2.2.2 | exact hi2.2.2.2.2.2.2.2.2.2.2.2 | exact hi2.2.2.2.2.2.2.2.2.2.2.2.2 | exact hi2.2.2.2.2.2.2.2.2.2.2.2.2.2
                clear hi1 hi2
                subst e8
                have h12 : d12 = false := by
                  rcases hq : d12 with _ | _
                  · rfl
                  · exact nomatch (H.out.o10 (H.out.o12 hq).1).1
                subst h12
                have h10 : d10 = false := by
                  rcases hq : d10 with _ | _
                  · rfl
                  · exact nomatch (H.out.o10 hq).1
                subst h10
                obtain rfl := H.out.c8 rfl
                obtain rfl : wx = wr.drew := H.out.w1 rfl
                refine wpOp_step rfl (fun K' hK => ?_)
                go_simp
                refine hK _ _ ?_
                exact ⟨d0, d1, d2, d3, d4, d5, d6, d7, true, true, false, d11, false, rfl, _, _, _, _, _, _, _, _, _, _, _, _, rfl, ⟨(fun hd => nomatch hd), fun _ _ => rfl, (fun hd => nomatch hd), (fun hd => nomatch hd), fun _ => ⟨(show (wr.alloc _).heap[F]? = _ from blk_alloc HFW.out _), (show (wr.alloc _).heap[gx]? = _ from Below.heap_alloc wr _ gx (by have := HGX.out; omega))⟩, H.out.c0, H.out.c1, H.out.c2, H.out.c3, H.out.c4, H.out.c5, H.out.c6, H.out.c7, H.out.c8, fun _ => rfl, H.out.c11, (fun hd => nomatch hd), (fun hd => nomatch hd), fun _ => rfl, (fun hd => nomatch hd)⟩⟩
              · obtain rfl : d10 = false := by simpa using hi1
                have e7 : d7 = true := by first | exact hi2 | exact hi2.1 | exact hi2.2.1 | exact hi2.2.2.1 | exact hi2.2.2.2.1 | exact hi2.2.2.2.2.1 | exact hi2.2.2.2.2.2.1 | exact hi2.2.2.2.2.2.2.1 | exact hi2.2.2.2.2.2.2.2.1 | exact hi2.2.2.2.2.2.2.2.2.1 | exact hi2.2.2.2.2.2.2.2.2.2.1 | exact hi2.2.2.2.2.2.2.2.2.2.2.1 | exact hi2.2.2.2.2.2.2.2.2.2.2.2.1 | exact hi2.2.2.2.2.2.2.2.2.2.2.2.2.1 | exact hi2.2.2.2.2.2.2.2.2.2.2.2.2.2.1 | exact hi2.2 | exact hi2.2.2 | exact hi2.2.2.2 | exact hi2.2.2.2.2 | exact hi2.2.2.2.2.2 | exact hi2.2.2.2.2.2.2 | exact hi2.2.2.2.2.2.2.2 | exact hi2.2.2.2.2.2.2.2.2 | exact hi2.2.2.2.2.2.2.2.2.2 | exact hi2.2.2.2.2.2.2.2.2.2.2 | exact hi2.2.2.2.2.2.2.2.2.2.2.2 | exact hi2.2.2.2.2.2.2.2.2.2.2.2.2 | exact hi2.2.2.2.2.2.2.2.2.2.2.2.2.2
                have e9 : d9 = true := by first | exact hi2 | exact hi2.1 | exact hi2.2.1 | exact hi2.2.2.1 | exact hi2.2.2.2.1 | exact hi2.2.2.2.2.1 | exact hi2.2.2.2.2.2.1 | exact hi2.2.2.2.2.2.2.1 | exact hi2.2.2.2.2.2.2.2.1 | exact hi2.2.2.2.2.2.2.2.2.1 | exact hi2.2.2.2.2.2.2.2.2.2.1 | exact hi2.2.2.2.2.2.2.2.2.2.2.1 | exact hi2.2.2.2.2.2.2.2.2.2.2.2.1 | exact hi2.2.2.2.2.2.2.2.2.2.2.2.2.1 | exact hi2.2.2.2.2.2.2.2.2.2.2.2.2.2.1 | exact hi2.2 | exact hi2.2.2 | exact hi2.2.2.2 | exact hi2.2.2.2.2 | exact hi2.2.2.2.2.2 | exact hi2.2.2.2.2.2.2 | exact hi2.2.2.2.2.2.2.2 | exact hi2.2.2.2.2.2.2.2.2 | exact hi2.2.2.2.2.2.2.2.2.2 | exact hi2.2.2.2.2.2.2.2.2.2.2 | exact hi2.2.2.2.2.2.2.2.2.2.2.2 | exact hi2.2.2.2.2.2.2.2.2.2.2.2.2 | exact hi2.2.2.2.2.2.2.2.2.2.2.2.2.2
                clear hi1 hi2
                subst e7
                subst e9
                have h12 : d12 = false := by
                  rcases hq : d12 with _ | _
                  · rfl
                  · exact nomatch (H.out.o12 hq).1
                subst h12
                obtain rfl := H.out.c7 rfl
                obtain rfl := H.out.c9 rfl
                obtain rfl : wx = (wr.alloc (.cells #[.int .i64 (t : Nat)] 3)).drew := H.out.w2 rfl rfl
                refine wpOp_step rfl (fun K' hK => ?_)
                refine step_append_lies _ rfl (.tmp 37) (.tmp 39) 23 rfl S 3 i1 _ 1 8 Tryd.underlying23 hi1' hy0 hy1 hyb rfl (by decide) (.slice av la cv) la (numsL (f k)) rfl (HOWN.out _ (below_drewN (below_alloc wr _) 1)) ⟨wr.heap.size, 0, none⟩ 1 1 [.int .i64 (t : Nat)] rfl rfl (World.news_of_block (heap_alloc_new wr _)) (by intro u hu; simp at hu; subst hu; rfl) (by decide) (by unfold maxLen; omega) (by omega) (by have := HGX.out; have := HST.out; show S ≤ (wr.alloc _).heap.size; simp; omega) (wr.heap.size + 1) (by show (wr.alloc _).heap.size = _; simp) (fun gn cp w' h2 h3 h4 h5 => ?_)
                refine hK _ _ ?_
                exact ⟨d0, d1, d2, d3, d4, d5, d6, true, d8, true, true, d11, false, rfl, _, _, _, _, _, _, _, _, _, _, _, _, rfl, ⟨(fun hd => nomatch hd), (fun _ hd => nomatch hd), fun _ _ => ⟨gn, cp, rfl, h2, h3, h4⟩, (fun hd => nomatch hd), fun _ => ⟨(h3.block F (by show F < (wr.alloc _).heap.size; simp; have := HGX.out; have := HFT.out; omega) (fun e => by have := HAV.out F e.symm; have := HFT.out; omega)).trans ((H.out.cF rfl).1), (h3.block gx (by show gx < (wr.alloc _).heap.size; simp; have := HGX.out; omega) (fun e => by have := HAV.out gx e.symm; have := HGX.out; omega)).trans ((H.out.cF rfl).2)⟩, H.out.c0, H.out.c1, H.out.c2, H.out.c3, H.out.c4, H.out.c5, H.out.c6, H.out.c7, H.out.c8, H.out.c9, H.out.c11, fun _ => ⟨rfl, rfl⟩, (fun hd => nomatch hd), H.out.o9, (fun hd => nomatch hd)⟩⟩
              · obtain rfl : d11 = false := by simpa using hi1
                have e1 : d1 = true := by first | exact hi2 | exact hi2.1 | exact hi2.2.1 | exact hi2.2.2.1 | exact hi2.2.2.2.1 | exact hi2.2.2.2.2.1 | exact hi2.2.2.2.2.2.1 | exact hi2.2.2.2.2.2.2.1 | exact hi2.2.2.2.2.2.2.2.1 | exact hi2.2.2.2.2.2.2.2.2.1 | exact hi2.2.2.2.2.2.2.2.2.2.1 | exact hi2.2.2.2.2.2.2.2.2.2.2.1 | exact hi2.2.2.2.2.2.2.2.2.2.2.2.1 | exact hi2.2.2.2.2.2.2.2.2.2.2.2.2.1 | exact hi2.2.2.2.2.2.2.2.2.2.2.2.2.2.1 | exact hi2.2 | exact hi2.2.2 | exact hi2.2.2.2 | exact hi2.2.2.2.2 | exact hi2.2.2.2.2.2 | exact hi2.2.2.2.2.2.2 | exact hi2.2.2.2.2.2.2.2 | exact hi2.2.2.2.2.2.2.2.2 | exact hi2.2.2.2.2.2.2.2.2.2 | exact hi2.2.2.2.2.2.2.2.2.2.2 | exact hi2.2.2.2.2.2.2.2.2.2.2.2 | exact hi2.2.2.2.2.2.2.2.2.2.2.2.2 | exact hi2.2.2.2.2.2.2.2.2.2.2.2.2.2
                have e2 : d2 = true := by first | exact hi2 | exact hi2.1 | exact hi2.2.1 | exact hi2.2.2.1 | exact hi2.2.2.2.1 | exact hi2.2.2.2.2.1 | exact hi2.2.2.2.2.2.1 | exact hi2.2.2.2.2.2.2.1 | exact hi2.2.2.2.2.2.2.2.1 | exact hi2.2.2.2.2.2.2.2.2.1 | exact hi2.2.2.2.2.2.2.2.2.2.1 | exact hi2.2.2.2.2.2.2.2.2.2.2.1 | exact hi2.2.2.2.2.2.2.2.2.2.2.2.1 | exact hi2.2.2.2.2.2.2.2.2.2.2.2.2.1 | exact hi2.2.2.2.2.2.2.2.2.2.2.2.2.2.1 | exact hi2.2 | exact hi2.2.2 | exact hi2.2.2.2 | exact hi2.2.2.2.2 | exact hi2.2.2.2.2.2 | exact hi2.2.2.2.2.2.2 | exact hi2.2.2.2.2.2.2.2 | exact hi2.2.2.2.2.2.2.2.2 | exact hi2.2.2.2.2.2.2.2.2.2 | exact hi2.2.2.2.2.2.2.2.2.2.2 | exact hi2.2.2.2.2.2.2.2.2.2.2.2 | exact hi2.2.2.2.2.2.2.2.2.2.2.2.2 | exact hi2.2.2.2.2.2.2.2.2.2.2.2.2.2
                have e0 : d0 = true := by first | exact hi2 | exact hi2.1 | exact hi2.2.1 | exact hi2.2.2.1 | exact hi2.2.2.2.1 | exact hi2.2.2.2.2.1 | exact hi2.2.2.2.2.2.1 | exact hi2.2.2.2.2.2.2.1 | exact hi2.2.2.2.2.2.2.2.1 | exact hi2.2.2.2.2.2.2.2.2.1 | exact hi2.2.2.2.2.2.2.2.2.2.1 | exact hi2.2.2.2.2.2.2.2.2.2.2.1 | exact hi2.2.2.2.2.2.2.2.2.2.2.2.1 | exact hi2.2.2.2.2.2.2.2.2.2.2.2.2.1 | exact hi2.2.2.2.2.2.2.2.2.2.2.2.2.2.1 | exact hi2.2 | exact hi2.2.2 | exact hi2.2.2.2 | exact hi2.2.2.2.2 | exact hi2.2.2.2.2.2 | exact hi2.2.2.2.2.2.2 | exact hi2.2.2.2.2.2.2.2 | exact hi2.2.2.2.2.2.2.2.2 | exact hi2.2.2.2.2.2.2.2.2.2 | exact hi2.2.2.2.2.2.2.2.2.2.2 | exact hi2.2.2.2.2.2.2.2.2.2.2.2 | exact hi2.2.2.2.2.2.2.2.2.2.2.2.2 | exact hi2.2.2.2.2.2.2.2.2.2.2.2.2.2
                have e3 : d3 = true := by first | exact hi2 | exact hi2.1 | exact hi2.2.1 | exact hi2.2.2.1 | exact hi2.2.2.2.1 | exact hi2.2.2.2.2.1 | exact hi2.2.2.2.2.2.1 | exact hi2.2.2.2.2.2.2.1 | exact hi2.2.2.2.2.2.2.2.1 | exact hi2.2.2.2.2.2.2.2.2.1 | exact hi2.2.2.2.2.2.2.2.2.2.1 | exact hi2.2.2.2.2.2.2.2.2.2.2.1 | exact hi2.2.2.2.2.2.2.2.2.2.2.2.1 | exact hi2.2.2.2.2.2.2.2.2.2.2.2.2.1 | exact hi2.2.2.2.2.2.2.2.2.2.2.2.2.2.1 | exact hi2.2 | exact hi2.2.2 | exact hi2.2.2.2 | exact hi2.2.2.2.2 | exact hi2.2.2.2.2.2 | exact hi2.2.2.2.2.2.2 | exact hi2.2.2.2.2.2.2.2 | exact hi2.2.2.2.2.2.2.2.2 | exact hi2.2.2.2.2.2.2.2.2.2 | exact hi2.2.2.2.2.2.2.2.2.2.2 | exact hi2.2.2.2.2.2.2.2.2.2.2.2 | exact hi2.2.2.2.2.2.2.2.2.2.2.2.2 | exact hi2.2.2.2.2.2.2.2.2.2.2.2.2.2
                have e4 : d4 = true := by first | exact hi2 | exact hi2.1 | exact hi2.2.1 | exact hi2.2.2.1 | exact hi2.2.2.2.1 | exact hi2.2.2.2.2.1 | exact hi2.2.2.2.2.2.1 | exact hi2.2.2.2.2.2.2.1 | exact hi2.2.2.2.2.2.2.2.1 | exact hi2.2.2.2.2.2.2.2.2.1 | exact hi2.2.2.2.2.2.2.2.2.2.1 | exact hi2.2.2.2.2.2.2.2.2.2.2.1 | exact hi2.2.2.2.2.2.2.2.2.2.2.2.1 | exact hi2.2.2.2.2.2.2.2.2.2.2.2.2.1 | exact hi2.2.2.2.2.2.2.2.2.2.2.2.2.2.1 | exact hi2.2 | exact hi2.2.2 | exact hi2.2.2.2 | exact hi2.2.2.2.2 | exact hi2.2.2.2.2.2 | exact hi2.2.2.2.2.2.2 | exact hi2.2.2.2.2.2.2.2 | exact hi2.2.2.2.2.2.2.2.2 | exact hi2.2.2.2.2.2.2.2.2.2 | exact hi2.2.2.2.2.2.2.2.2.2.2 | exact hi2.2.2.2.2.2.2.2.2.2.2.2 | exact hi2.2.2.2.2.2.2.2.2.2.2.2.2 | exact hi2.2.2.2.2.2.2.2.2.2.2.2.2.2
                have e5 : d5 = true := by first | exact hi2 | exact hi2.1 | exact hi2.2.1 | exact hi2.2.2.1 | exact hi2.2.2.2.1 | exact hi2.2.2.2.2.1 | exact hi2.2.2.2.2.2.1 | exact hi2.2.2.2.2.2.2.1 | exact hi2.2.2.2.2.2.2.2.1 | exact hi2.2.2.2.2.2.2.2.2.1 | exact hi2.2.2.2.2.2.2.2.2.2.1 | exact hi2.2.2.2.2.2.2.2.2.2.2.1 | exact hi2.2.2.2.2.2.2.2.2.2.2.2.1 | exact hi2.2.2.2.2.2.2.2.2.2.2.2.2.1 | exact hi2.2.2.2.2.2.2.2.2.2.2.2.2.2.1 | exact hi2.2 | exact hi2.2.2 | exact hi2.2.2.2 | exact hi2.2.2.2.2 | exact hi2.2.2.2.2.2 | exact hi2.2.2.2.2.2.2 | exact hi2.2.2.2.2.2.2.2 | exact hi2.2.2.2.2.2.2.2.2 | exact hi2.2.2.2.2.2.2.2.2.2 | exact hi2.2.2.2.2.2.2.2.2.2.2 | exact hi2.2.2.2.2.2.2.2.2.2.2.2 | exact hi2.2.2.2.2.2.2.2.2.2.2.2.2 | exact hi2.2.2.2.2.2.2.2.2.2.2.2.2.2
                have e6 : d6 = true := by first | exact hi2 | exact hi2.1 | exact hi2.2.1 | exact hi2.2.2.1 | exact hi2.2.2.2.1 | exact hi2.2.2.2.2.1 | exact hi2.2.2.2.2.2.1 | exact hi2.2.2.2.2.2.2.1 | exact hi2.2.2.2.2.2.2.2.1 | exact hi2.2.2.2.2.2.2.2.2.1 | exact hi2.2.2.2.2.2.2.2.2.2.1 | exact hi2.2.2.2.2.2.2.2.2.2.2.1 | exact hi2.2.2.2.2.2.2.2.2.2.2.2.1 | exact hi2.2.2.2.2.2.2.2.2.2.2.2.2.1 | exact hi2.2.2.2.2.2.2.2.2.2.2.2.2.2.1 | exact hi2.2 | exact hi2.2.2 | exact hi2.2.2.2 | exact hi2.2.2.2.2 | exact hi2.2.2.2.2.2 | exact hi2.2.2.2.2.2.2 | exact hi2.2.2.2.2.2.2.2 | exact hi2.2.2.2.2.2.2.2.2 | exact hi2.2.2.2.2.2.2.2.2.2 | exact hi2.2.2.2.2.2.2.2.2.2.2 | exact hi2.2.2.2.2.2.2.2.2.2.2.2 | exact hi2.2.2.2.2.2.2.2.2.2.2.2.2 | exact hi2.2.2.2.2.2.2.2.2.2.2.2.2.2
                have e7 : d7 = true := by first | exact hi2 | exact hi2.1 | exact hi2.2.1 | exact hi2.2.2.1 | exact hi2.2.2.2.1 | exact hi2.2.2.2.2.1 | exact hi2.2.2.2.2.2.1 | exact hi2.2.2.2.2.2.2.1 | exact hi2.2.2.2.2.2.2.2.1 | exact hi2.2.2.2.2.2.2.2.2.1 | exact hi2.2.2.2.2.2.2.2.2.2.1 | exact hi2.2.2.2.2.2.2.2.2.2.2.1 | exact hi2.2.2.2.2.2.2.2.2.2.2.2.1 | exact hi2.2.2.2.2.2.2.2.2.2.2.2.2.1 | exact hi2.2.2.2.2.2.2.2.2.2.2.2.2.2.1 | exact hi2.2 | exact hi2.2.2 | exact hi2.2.2.2 | exact hi2.2.2.2.2 | exact hi2.2.2.2.2.2 | exact hi2.2.2.2.2.2.2 | exact hi2.2.2.2.2.2.2.2 | exact hi2.2.2.2.2.2.2.2.2 | exact hi2.2.2.2.2.2.2.2.2.2 | exact hi2.2.2.2.2.2.2.2.2.2.2 | exact hi2.2.2.2.2.2.2.2.2.2.2.2 | exact hi2.2.2.2.2.2.2.2.2.2.2.2.2 | exact hi2.2.2.2.2.2.2.2.2.2.2.2.2.2
                have e8 : d8 = true := by first | exact hi2 | exact hi2.1 | exact hi2.2.1 | exact hi2.2.2.1 | exact hi2.2.2.2.1 | exact hi2.2.2.2.2.1 | exact hi2.2.2.2.2.2.1 | exact hi2.2.2.2.2.2.2.1 | exact hi2.2.2.2.2.2.2.2.1 | exact hi2.2.2.2.2.2.2.2.2.1 | exact hi2.2.2.2.2.2.2.2.2.2.1 | exact hi2.2.2.2.2.2.2.2.2.2.2.1 | exact hi2.2.2.2.2.2.2.2.2.2.2.2.1 | exact hi2.2.2.2.2.2.2.2.2.2.2.2.2.1 | exact hi2.2.2.2.2.2.2.2.2.2.2.2.2.2.1 | exact hi2.2 | exact hi2.2.2 | exact hi2.2.2.2 | exact hi2.2.2.2.2 | exact hi2.2.2.2.2.2 | exact hi2.2.2.2.2.2.2 | exact hi2.2.2.2.2.2.2.2 | exact hi2.2.2.2.2.2.2.2.2 | exact hi2.2.2.2.2.2.2.2.2.2 | exact hi2.2.2.2.2.2.2.2.2.2.2 | exact hi2.2.2.2.2.2.2.2.2.2.2.2 | exact hi2.2.2.2.2.2.2.2.2.2.2.2.2 | exact hi2.2.2.2.2.2.2.2.2.2.2.2.2.2
                have e9 : d9 = true := by first | exact hi2 | exact hi2.1 | exact hi2.2.1 | exact hi2.2.2.1 | exact hi2.2.2.2.1 | exact hi2.2.2.2.2.1 | exact hi2.2.2.2.2.2.1 | exact hi2.2.2.2.2.2.2.1 | exact hi2.2.2.2.2.2.2.2.1 | exact hi2.2.2.2.2.2.2.2.2.1 | exact hi2.2.2.2.2.2.2.2.2.2.1 | exact hi2.2.2.2.2.2.2.2.2.2.2.1 | exact hi2.2.2.2.2.2.2.2.2.2.2.2.1 | exact hi2.2.2.2.2.2.2.2.2.2.2.2.2.1 | exact hi2.2.2.2.2.2.2.2.2.2.2.2.2.2.1 | exact hi2.2 | exact hi2.2.2 | exact hi2.2.2.2 | exact hi2.2.2.2.2 | exact hi2.2.2.2.2.2 | exact hi2.2.2.2.2.2.2 | exact hi2.2.2.2.2.2.2.2 | exact hi2.2.2.2.2.2.2.2.2 | exact hi2.2.2.2.2.2.2.2.2.2 | exact hi2.2.2.2.2.2.2.2.2.2.2 | exact hi2.2.2.2.2.2.2.2.2.2.2.2 | exact hi2.2.2.2.2.2.2.2.2.2.2.2.2 | exact hi2.2.2.2.2.2.2.2.2.2.2.2.2.2
                have e10 : d10 = true := by first | exact hi2 | exact hi2.1 | exact hi2.2.1 | exact hi2.2.2.1 | exact hi2.2.2.2.1 | exact hi2.2.2.2.2.1 | exact hi2.2.2.2.2.2.1 | exact hi2.2.2.2.2.2.2.1 | exact hi2.2.2.2.2.2.2.2.1 | exact hi2.2.2.2.2.2.2.2.2.1 | exact hi2.2.2.2.2.2.2.2.2.2.1 | exact hi2.2.2.2.2.2.2.2.2.2.2.1 | exact hi2.2.2.2.2.2.2.2.2.2.2.2.1 | exact hi2.2.2.2.2.2.2.2.2.2.2.2.2.1 | exact hi2.2.2.2.2.2.2.2.2.2.2.2.2.2.1 | exact hi2.2 | exact hi2.2.2 | exact hi2.2.2.2 | exact hi2.2.2.2.2 | exact hi2.2.2.2.2.2 | exact hi2.2.2.2.2.2.2 | exact hi2.2.2.2.2.2.2.2 | exact hi2.2.2.2.2.2.2.2.2 | exact hi2.2.2.2.2.2.2.2.2.2 | exact hi2.2.2.2.2.2.2.2.2.2.2 | exact hi2.2.2.2.2.2.2.2.2.2.2.2 | exact hi2.2.2.2.2.2.2.2.2.2.2.2.2 | exact hi2.2.2.2.2.2.2.2.2.2.2.2.2.2
                clear hi1 hi2
                subst e1
                subst e2
                subst e0
                subst e3
                subst e4
                subst e5
                subst e6
                subst e7
                subst e8
                subst e9
                subst e10
                have h12 : d12 = false := by
                  rcases hq : d12 with _ | _
                  · rfl
                  · exact nomatch (H.out.o12 hq).2
                subst h12
                obtain rfl := H.out.c1 rfl
                obtain rfl := H.out.c2 rfl
                refine wpOp_step rfl (fun K' hK => ?_)
                go_simp
                refine hK _ _ ?_
                exact ⟨true, true, true, true, true, true, true, true, true, true, true, true, false, rfl, _, _, _, _, _, _, _, _, _, _, _, _, rfl, ⟨H.out.w1, H.out.w2, H.out.w3, (fun hd => nomatch hd), H.out.cF, H.out.c0, H.out.c1, H.out.c2, H.out.c3, H.out.c4, H.out.c5, H.out.c6, H.out.c7, H.out.c8, H.out.c9, fun _ => rfl, H.out.o10, (fun hd => nomatch hd), H.out.o9, (fun hd => nomatch hd)⟩⟩
              · obtain rfl : d12 = false := by simpa using hi1
                have e11 : d11 = true := by first | exact hi2 | exact hi2.1 | exact hi2.2.1 | exact hi2.2.2.1 | exact hi2.2.2.2.1 | exact hi2.2.2.2.2.1 | exact hi2.2.2.2.2.2.1 | exact hi2.2.2.2.2.2.2.1 | exact hi2.2.2.2.2.2.2.2.1 | exact hi2.2.2.2.2.2.2.2.2.1 | exact hi2.2.2.2.2.2.2.2.2.2.1 | exact hi2.2.2.2.2.2.2.2.2.2.2.1 | exact hi2.2.2.2.2.2.2.2.2.2.2.2.1 | exact hi2.2.2.2.2.2.2.2.2.2.2.2.2.1 | exact hi2.2.2.2.2.2.2.2.2.2.2.2.2.2.1 | exact hi2.2 | exact hi2.2.2 | exact hi2.2.2.2 | exact hi2.2.2.2.2 | exact hi2.2.2.2.2.2 | exact hi2.2.2.2.2.2.2 | exact hi2.2.2.2.2.2.2.2 | exact hi2.2.2.2.2.2.2.2.2 | exact hi2.2.2.2.2.2.2.2.2.2 | exact hi2.2.2.2.2.2.2.2.2.2.2 | exact hi2.2.2.2.2.2.2.2.2.2.2.2 | exact hi2.2.2.2.2.2.2.2.2.2.2.2.2 | exact hi2.2.2.2.2.2.2.2.2.2.2.2.2.2
                have e10 : d10 = true := by first | exact hi2 | exact hi2.1 | exact hi2.2.1 | exact hi2.2.2.1 | exact hi2.2.2.2.1 | exact hi2.2.2.2.2.1 | exact hi2.2.2.2.2.2.1 | exact hi2.2.2.2.2.2.2.1 | exact hi2.2.2.2.2.2.2.2.1 | exact hi2.2.2.2.2.2.2.2.2.1 | exact hi2.2.2.2.2.2.2.2.2.2.1 | exact hi2.2.2.2.2.2.2.2.2.2.2.1 | exact hi2.2.2.2.2.2.2.2.2.2.2.2.1 | exact hi2.2.2.2.2.2.2.2.2.2.2.2.2.1 | exact hi2.2.2.2.2.2.2.2.2.2.2.2.2.2.1 | exact hi2.2 | exact hi2.2.2 | exact hi2.2.2.2 | exact hi2.2.2.2.2 | exact hi2.2.2.2.2.2 | exact hi2.2.2.2.2.2.2 | exact hi2.2.2.2.2.2.2.2 | exact hi2.2.2.2.2.2.2.2.2 | exact hi2.2.2.2.2.2.2.2.2.2 | exact hi2.2.2.2.2.2.2.2.2.2.2 | exact hi2.2.2.2.2.2.2.2.2.2.2.2 | exact hi2.2.2.2.2.2.2.2.2.2.2.2.2 | exact hi2.2.2.2.2.2.2.2.2.2.2.2.2.2
                have e0 : d0 = true := by first | exact hi2 | exact hi2.1 | exact hi2.2.1 | exact hi2.2.2.1 | exact hi2.2.2.2.1 | exact hi2.2.2.2.2.1 | exact hi2.2.2.2.2.2.1 | exact hi2.2.2.2.2.2.2.1 | exact hi2.2.2.2.2.2.2.2.1 | exact hi2.2.2.2.2.2.2.2.2.1 | exact hi2.2.2.2.2.2.2.2.2.2.1 | exact hi2.2.2.2.2.2.2.2.2.2.2.1 | exact hi2.2.2.2.2.2.2.2.2.2.2.2.1 | exact hi2.2.2.2.2.2.2.2.2.2.2.2.2.1 | exact hi2.2.2.2.2.2.2.2.2.2.2.2.2.2.1 | exact hi2.2 | exact hi2.2.2 | exact hi2.2.2.2 | exact hi2.2.2.2.2 | exact hi2.2.2.2.2.2 | exact hi2.2.2.2.2.2.2 | exact hi2.2.2.2.2.2.2.2 | exact hi2.2.2.2.2.2.2.2.2 | exact hi2.2.2.2.2.2.2.2.2.2 | exact hi2.2.2.2.2.2.2.2.2.2.2 | exact hi2.2.2.2.2.2.2.2.2.2.2.2 | exact hi2.2.2.2.2.2.2.2.2.2.2.2.2 | exact hi2.2.2.2.2.2.2.2.2.2.2.2.2.2
                have e1 : d1 = true := by first | exact hi2 | exact hi2.1 | exact hi2.2.1 | exact hi2.2.2.1 | exact hi2.2.2.2.1 | exact hi2.2.2.2.2.1 | exact hi2.2.2.2.2.2.1 | exact hi2.2.2.2.2.2.2.1 | exact hi2.2.2.2.2.2.2.2.1 | exact hi2.2.2.2.2.2.2.2.2.1 | exact hi2.2.2.2.2.2.2.2.2.2.1 | exact hi2.2.2.2.2.2.2.2.2.2.2.1 | exact hi2.2.2.2.2.2.2.2.2.2.2.2.1 | exact hi2.2.2.2.2.2.2.2.2.2.2.2.2.1 | exact hi2.2.2.2.2.2.2.2.2.2.2.2.2.2.1 | exact hi2.2 | exact hi2.2.2 | exact hi2.2.2.2 | exact hi2.2.2.2.2 | exact hi2.2.2.2.2.2 | exact hi2.2.2.2.2.2.2 | exact hi2.2.2.2.2.2.2.2 | exact hi2.2.2.2.2.2.2.2.2 | exact hi2.2.2.2.2.2.2.2.2.2 | exact hi2.2.2.2.2.2.2.2.2.2.2 | exact hi2.2.2.2.2.2.2.2.2.2.2.2 | exact hi2.2.2.2.2.2.2.2.2.2.2.2.2 | exact hi2.2.2.2.2.2.2.2.2.2.2.2.2.2
                have e2 : d2 = true := by first | exact hi2 | exact hi2.1 | exact hi2.2.1 | exact hi2.2.2.1 | exact hi2.2.2.2.1 | exact hi2.2.2.2.2.1 | exact hi2.2.2.2.2.2.1 | exact hi2.2.2.2.2.2.2.1 | exact hi2.2.2.2.2.2.2.2.1 | exact hi2.2.2.2.2.2.2.2.2.1 | exact hi2.2.2.2.2.2.2.2.2.2.1 | exact hi2.2.2.2.2.2.2.2.2.2.2.1 | exact hi2.2.2.2.2.2.2.2.2.2.2.2.1 | exact hi2.2.2.2.2.2.2.2.2.2.2.2.2.1 | exact hi2.2.2.2.2.2.2.2.2.2.2.2.2.2.1 | exact hi2.2 | exact hi2.2.2 | exact hi2.2.2.2 | exact hi2.2.2.2.2 | exact hi2.2.2.2.2.2 | exact hi2.2.2.2.2.2.2 | exact hi2.2.2.2.2.2.2.2 | exact hi2.2.2.2.2.2.2.2.2 | exact hi2.2.2.2.2.2.2.2.2.2 | exact hi2.2.2.2.2.2.2.2.2.2.2 | exact hi2.2.2.2.2.2.2.2.2.2.2.2 | exact hi2.2.2.2.2.2.2.2.2.2.2.2.2 | exact hi2.2.2.2.2.2.2.2.2.2.2.2.2.2
                have e3 : d3 = true := by first | exact hi2 | exact hi2.1 | exact hi2.2.1 | exact hi2.2.2.1 | exact hi2.2.2.2.1 | exact hi2.2.2.2.2.1 | exact hi2.2.2.2.2.2.1 | exact hi2.2.2.2.2.2.2.1 | exact hi2.2.2.2.2.2.2.2.1 | exact hi2.2.2.2.2.2.2.2.2.1 | exact hi2.2.2.2.2.2.2.2.2.2.1 | exact hi2.2.2.2.2.2.2.2.2.2.2.1 | exact hi2.2.2.2.2.2.2.2.2.2.2.2.1 | exact hi2.2.2.2.2.2.2.2.2.2.2.2.2.1 | exact hi2.2.2.2.2.2.2.2.2.2.2.2.2.2.1 | exact hi2.2 | exact hi2.2.2 | exact hi2.2.2.2 | exact hi2.2.2.2.2 | exact hi2.2.2.2.2.2 | exact hi2.2.2.2.2.2.2 | exact hi2.2.2.2.2.2.2.2 | exact hi2.2.2.2.2.2.2.2.2 | exact hi2.2.2.2.2.2.2.2.2.2 | exact hi2.2.2.2.2.2.2.2.2.2.2 | exact hi2.2.2.2.2.2.2.2.2.2.2.2 | exact hi2.2.2.2.2.2.2.2.2.2.2.2.2 | exact hi2.2.2.2.2.2.2.2.2.2.2.2.2.2
                have e4 : d4 = true := by first | exact hi2 | exact hi2.1 | exact hi2.2.1 | exact hi2.2.2.1 | exact hi2.2.2.2.1 | exact hi2.2.2.2.2.1 | exact hi2.2.2.2.2.2.1 | exact hi2.2.2.2.2.2.2.1 | exact hi2.2.2.2.2.2.2.2.1 | exact hi2.2.2.2.2.2.2.2.2.1 | exact hi2.2.2.2.2.2.2.2.2.2.1 | exact hi2.2.2.2.2.2.2.2.2.2.2.1 | exact hi2.2.2.2.2.2.2.2.2.2.2.2.1 | exact hi2.2.2.2.2.2.2.2.2.2.2.2.2.1 | exact hi2.2.2.2.2.2.2.2.2.2.2.2.2.2.1 | exact hi2.2 | exact hi2.2.2 | exact hi2.2.2.2 | exact hi2.2.2.2.2 | exact hi2.2.2.2.2.2 | exact hi2.2.2.2.2.2.2 | exact hi2.2.2.2.2.2.2.2 | exact hi2.2.2.2.2.2.2.2.2 | exact hi2.2.2.2.2.2.2.2.2.2 | exact hi2.2.2.2.2.2.2.2.2.2.2 | exact hi2.2.2.2.2.2.2.2.2.2.2.2 | exact hi2.2.2.2.2.2.2.2.2.2.2.2.2 | exact hi2.2.2.2.2.2.2.2.2.2.2.2.2.2
                have e5 : d5 = true := by first | exact hi2 | exact hi2.1 | exact hi2.2.1 | exact hi2.2.2.1 | exact hi2.2.2.2.1 | exact hi2.2.2.2.2.1 | exact hi2.2.2.2.2.2.1 | exact hi2.2.2.2.2.2.2.1 | exact hi2.2.2.2.2.2.2.2.1 | exact hi2.2.2.2.2.2.2.2.2.1 | exact hi2.2.2.2.2.2.2.2.2.2.1 | exact hi2.2.2.2.2.2.2.2.2.2.2.1 | exact hi2.2.2.2.2.2.2.2.2.2.2.2.1 | exact hi2.2.2.2.2.2.2.2.2.2.2.2.2.1 | exact hi2.2.2.2.2.2.2.2.2.2.2.2.2.2.1 | exact hi2.2 | exact hi2.2.2 | exact hi2.2.2.2 | exact hi2.2.2.2.2 | exact hi2.2.2.2.2.2 | exact hi2.2.2.2.2.2.2 | exact hi2.2.2.2.2.2.2.2 | exact hi2.2.2.2.2.2.2.2.2 | exact hi2.2.2.2.2.2.2.2.2.2 | exact hi2.2.2.2.2.2.2.2.2.2.2 | exact hi2.2.2.2.2.2.2.2.2.2.2.2 | exact hi2.2.2.2.2.2.2.2.2.2.2.2.2 | exact hi2.2.2.2.2.2.2.2.2.2.2.2.2.2
                have e6 : d6 = true := by first | exact hi2 | exact hi2.1 | exact hi2.2.1 | exact hi2.2.2.1 | exact hi2.2.2.2.1 | exact hi2.2.2.2.2.1 | exact hi2.2.2.2.2.2.1 | exact hi2.2.2.2.2.2.2.1 | exact hi2.2.2.2.2.2.2.2.1 | exact hi2.2.2.2.2.2.2.2.2.1 | exact hi2.2.2.2.2.2.2.2.2.2.1 | exact hi2.2.2.2.2.2.2.2.2.2.2.1 | exact hi2.2.2.2.2.2.2.2.2.2.2.2.1 | exact hi2.2.2.2.2.2.2.2.2.2.2.2.2.1 | exact hi2.2.2.2.2.2.2.2.2.2.2.2.2.2.1 | exact hi2.2 | exact hi2.2.2 | exact hi2.2.2.2 | exact hi2.2.2.2.2 | exact hi2.2.2.2.2.2 | exact hi2.2.2.2.2.2.2 | exact hi2.2.2.2.2.2.2.2 | exact hi2.2.2.2.2.2.2.2.2 | exact hi2.2.2.2.2.2.2.2.2.2 | exact hi2.2.2.2.2.2.2.2.2.2.2 | exact hi2.2.2.2.2.2.2.2.2.2.2.2 | exact hi2.2.2.2.2.2.2.2.2.2.2.2.2 | exact hi2.2.2.2.2.2.2.2.2.2.2.2.2.2
                have e7 : d7 = true := by first | exact hi2 | exact hi2.1 | exact hi2.2.1 | exact hi2.2.2.1 | exact hi2.2.2.2.1 | exact hi2.2.2.2.2.1 | exact hi2.2.2.2.2.2.1 | exact hi2.2.2.2.2.2.2.1 | exact hi2.2.2.2.2.2.2.2.1 | exact hi2.2.2.2.2.2.2.2.2.1 | exact hi2.2.2.2.2.2.2.2.2.2.1 | exact hi2.2.2.2.2.2.2.2.2.2.2.1 | exact hi2.2.2.2.2.2.2.2.2.2.2.2.1 | exact hi2.2.2.2.2.2.2.2.2.2.2.2.2.1 | exact hi2.2.2.2.2.2.2.2.2.2.2.2.2.2.1 | exact hi2.2 | exact hi2.2.2 | exact hi2.2.2.2 | exact hi2.2.2.2.2 | exact hi2.2.2.2.2.2 | exact hi2.2.2.2.2.2.2 | exact hi2.2.2.2.2.2.2.2 | exact hi2.2.2.2.2.2.2.2.2 | exact hi2.2.2.2.2.2.2.2.2.2 | exact hi2.2.2.2.2.2.2.2.2.2.2 | exact hi2.2.2.2.2.2.2.2.2.2.2.2 | exact hi2.2.2.2.2.2.2.2.2.2.2.2.2 | exact hi2.2.2.2.2.2.2.2.2.2.2.2.2.2
                have e8 : d8 = true := by first | exact hi2 | exact hi2.1 | exact hi2.2.1 | exact hi2.2.2.1 | exact hi2.2.2.2.1 | exact hi2.2.2.2.2.1 | exact hi2.2.2.2.2.2.1 | exact hi2.2.2.2.2.2.2.1 | exact hi2.2.2.2.2.2.2.2.1 | exact hi2.2.2.2.2.2.2.2.2.1 | exact hi2.2.2.2.2.2.2.2.2.2.1 | exact hi2.2.2.2.2.2.2.2.2.2.2.1 | exact hi2.2.2.2.2.2.2.2.2.2.2.2.1 | exact hi2.2.2.2.2.2.2.2.2.2.2.2.2.1 | exact hi2.2.2.2.2.2.2.2.2.2.2.2.2.2.1 | exact hi2.2 | exact hi2.2.2 | exact hi2.2.2.2 | exact hi2.2.2.2.2 | exact hi2.2.2.2.2.2 | exact hi2.2.2.2.2.2.2 | exact hi2.2.2.2.2.2.2.2 | exact hi2.2.2.2.2.2.2.2.2 | exact hi2.2.2.2.2.2.2.2.2.2 | exact hi2.2.2.2.2.2.2.2.2.2.2 | exact hi2.2.2.2.2.2.2.2.2.2.2.2 | exact hi2.2.2.2.2.2.2.2.2.2.2.2.2 | exact hi2.2.2.2.2.2.2.2.2.2.2.2.2.2
                have e9 : d9 = true := by first | exact hi2 | exact hi2.1 | exact hi2.2.1 | exact hi2.2.2.1 | exact hi2.2.2.2.1 | exact hi2.2.2.2.2.1 | exact hi2.2.2.2.2.2.1 | exact hi2.2.2.2.2.2.2.1 | exact hi2.2.2.2.2.2.2.2.1 | exact hi2.2.2.2.2.2.2.2.2.1 | exact hi2.2.2.2.2.2.2.2.2.2.1 | exact hi2.2.2.2.2.2.2.2.2.2.2.1 | exact hi2.2.2.2.2.2.2.2.2.2.2.2.1 | exact hi2.2.2.2.2.2.2.2.2.2.2.2.2.1 | exact hi2.2.2.2.2.2.2.2.2.2.2.2.2.2.1 | exact hi2.2 | exact hi2.2.2 | exact hi2.2.2.2 | exact hi2.2.2.2.2 | exact hi2.2.2.2.2.2 | exact hi2.2.2.2.2.2.2 | exact hi2.2.2.2.2.2.2.2 | exact hi2.2.2.2.2.2.2.2.2 | exact hi2.2.2.2.2.2.2.2.2.2 | exact hi2.2.2.2.2.2.2.2.2.2.2 | exact hi2.2.2.2.2.2.2.2.2.2.2.2 | exact hi2.2.2.2.2.2.2.2.2.2.2.2.2 | exact hi2.2.2.2.2.2.2.2.2.2.2.2.2.2
                clear hi1 hi2
                subst e11
                subst e10
                subst e0
                subst e1
                subst e2
                subst e3
                subst e4
                subst e5
                subst e6
                subst e7
                subst e8
                subst e9
                obtain rfl := H.out.c11 rfl
                obtain ⟨gn, cp, rfl, hown, hgrow, hor⟩ := H.out.w3 rfl rfl
                have q2 : wx.cell? ⟨gx, k, none⟩ = some (.slice av la cv) := (World.cell?_of_block (w := wr) (H.out.cF rfl).2).trans HCE.out.1
                have q3 : wx.frozen? ⟨gx, k, none⟩ = false := (World.frozen?_of_block (w := wr) (H.out.cF rfl).2).trans HCE.out.2
                have HKP : Hid (_) := And.intro hown (And.intro hgrow hor)
                clear hown hgrow hor
                refine wpOp_step rfl (fun K' hK => ?_)
                go_simp
                refine hK _ _ ?_
                exact ⟨true, true, true, true, true, true, true, true, true, true, true, true, true, rfl, _, _, _, _, _, _, _, _, _, _, _, _, rfl, ⟨(fun hd => nomatch hd), (fun _ hd => nomatch hd), (fun _ hd => nomatch hd), fun _ => ⟨gn, cp, wx, rfl, HKP.out⟩, (fun hd => nomatch hd), H.out.c0, H.out.c1, H.out.c2, H.out.c3, H.out.c4, H.out.c5, H.out.c6, H.out.c7, H.out.c8, H.out.c9, H.out.c11, H.out.o10, fun _ => ⟨rfl, rfl⟩, H.out.o9, fun _ => ⟨rfl, rfl, rfl, rfl, rfl, rfl, rfl⟩⟩⟩
            case rinit =>
              exact ⟨false, false, false, false, false, false, false, false, false, false, false, false, false, rfl, _, _, _, _, _, _, _, _, _, _, _, _, rfl, ⟨fun _ => rfl, (fun hd => nomatch hd), (fun hd => nomatch hd), (fun hd => nomatch hd), fun _ => ⟨HFW.out, rfl⟩, (fun hd => nomatch hd), (fun hd => nomatch hd), (fun hd => nomatch hd), (fun hd => nomatch hd), (fun hd => nomatch hd), (fun hd => nomatch hd), (fun hd => nomatch hd), (fun hd => nomatch hd), (fun hd => nomatch hd), (fun hd => nomatch hd), (fun hd => nomatch hd), (fun hd => nomatch hd), (fun hd => nomatch hd), (fun hd => nomatch hd), (fun hd => nomatch hd)⟩⟩
            case rdone =>
              rintro listed a wx ⟨d0, d1, d2, d3, d4, d5, d6, d7, d8, d9, d10, d11, d12, rfl, v30, v31, v32, v33, v34, v35, v36, v37, v38, v39, v40, v41, rfl, H⟩ hr
              obtain rfl : d0 = true := by simpa using ready_none hr 0 (by decide) (by simp [Region.binds])
              obtain rfl : d1 = true := by simpa using ready_none hr 1 (by decide) (by simp [Region.binds])
              obtain rfl : d2 = true := by simpa using ready_none hr 2 (by decide) (by simp [Region.binds])
              obtain rfl : d3 = true := by simpa using ready_none hr 3 (by decide) (by simp [Region.binds])
              obtain rfl : d4 = true := by simpa using ready_none hr 4 (by decide) (by simp [Region.binds])
              obtain rfl : d5 = true := by simpa using ready_none hr 5 (by decide) (by simp [Region.binds])
              obtain rfl : d6 = true := by simpa using ready_none hr 6 (by decide) (by simp [Region.binds])
              obtain rfl : d7 = true := by simpa using ready_none hr 7 (by decide) (by simp [Region.binds])
              obtain rfl : d8 = true := by simpa using ready_none hr 8 (by decide) (by simp [Region.binds])
              obtain rfl : d9 = true := by simpa using ready_none hr 9 (by decide) (by simp [Region.binds])
              obtain rfl : d10 = true := by simpa using ready_none hr 10 (by decide) (by simp [Region.binds])
              obtain rfl : d11 = true := by simpa using ready_none hr 11 (by decide) (by simp [Region.binds])
              obtain rfl : d12 = true := by simpa using ready_none hr 12 (by decide) (by simp [Region.binds])
              obtain ⟨gn, cp, w1, rfl, hown, hgrow, hor⟩ := H.out.w4 rfl
              have HNX2 : Hid (NX wc S T n gx (cnt + 1) (vsx.set k (.slice (some ⟨gn, 0, none⟩) (la + 1) cp)) (upd f k (f k ++ [(t : Int)])) (w1.setCell ⟨gx, k, none⟩ (.slice (some ⟨gn, 0, none⟩) (la + 1) cp))) := by
                refine HNX.out.push HST.out HKN.out (u := .slice av la cv) HVK.out (below_drewN (below_alloc wr _) 1) hgrow ?_ (by rw [← HLA.out]; exact hown)
                rcases hor with h | h
                · exact .inl h.symm
                · right; rw [h]; show some _ = some (wr.alloc _).heap.size; simp
              have HC3 : Hid (cnt + 1 ≤ t * n + (j + 1)) := by have := HCNT.out; unfold Hid; omega
              clear hr H hown hgrow hor
              go_wp2_with fail
              go_roundg gj
              case measure => omega
              case rel => exact ⟨j + 1, _, _, cnt + 1, by go_num, by omega, HC3, HNX2⟩

end Go.Proofs.YthlngmknifpbjaaDoor
