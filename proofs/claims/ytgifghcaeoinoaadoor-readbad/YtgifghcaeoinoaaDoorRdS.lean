/-
  Package read, plain: pieces, the state of a reader, how they lie in memory. Nothing here names the program.
-/
import Derived.WalkKit
namespace Go.Proofs.YtgifghcaeoinoaaDoor
open Go.RowKit
set_option linter.unusedSimpArgs false
set_option linter.unusedVariables false

structure Tok where
  kind : Int
  at_ : Int
  n : Int
  s : List UInt8

def Tok.val (t : Tok) : Value := .agg #[.int .i64 t.kind, .int .i64 t.at_, .int .i64 t.n, .string ⟨t.s.toArray⟩]

structure RS where
  next : Nat
  depth : Nat
  at_ : Int
  errno : Int

def Tok.none : Tok := ⟨0, 0, 0, []⟩

/-- the piece that is next -/
def cur (ps : List Tok) (i : Nat) : Tok := ps.getD i Tok.none

/-- a row of pieces lies in block bp -/
def TokRow (w : World) (bp : Nat) (ps : List Tok) : Prop :=
  ∀ i, i < ps.length → w.cell? ⟨bp, i * 4, none⟩ = some (.int .i64 (cur ps i).kind) ∧ w.cell? ⟨bp, i * 4 + 1, none⟩ = some (.int .i64 (cur ps i).at_) ∧
    w.cell? ⟨bp, i * 4 + 2, none⟩ = some (.int .i64 (cur ps i).n) ∧ w.cell? ⟨bp, i * 4 + 3, none⟩ = some (.string ⟨(cur ps i).s.toArray⟩)

def TabRow (w : World) (g : Nat) (l : List (List UInt8)) : Prop := ∀ i, i < l.length → w.cell? ⟨g, i, none⟩ = some (.string ⟨(l.getD i []).toArray⟩)

def levelsL : List (List UInt8) :=
  [[124, 124], [], [], [], [], [], [38, 38], [], [], [], [], [], [61, 61], [33, 61], [60], [60, 61], [62], [62, 61], [43], [45], [], [], [], [], [42], [47], [37], [], [], []]

def typeWordsL : List (List UInt8) := [[], [105, 110, 116], [98, 111, 111, 108], [115, 116, 114, 105, 110, 103], [115, 108, 105, 99, 101], [109, 97, 112]]

def marksL : List (List UInt8) :=
  [[58, 61], [61, 61], [33, 61], [60, 61], [62, 61], [38, 38], [124, 124], [40], [41], [123], [125], [91], [93], [44], [58], [61], [60], [62], [43], [45], [42], [47], [37], [33]]

def keywordsL : List (List UInt8) :=
  [[102, 117, 110, 99], [105, 102], [101, 108, 115, 101], [102, 111, 114], [114, 97, 110, 103, 101], [115, 119, 105, 116, 99, 104], [99, 97, 115, 101], [100, 101, 102, 97, 117, 108, 116],
   [114, 101, 116, 117, 114, 110], [112, 114, 105, 110, 116], [98, 114, 101, 97, 107], [99, 111, 110, 116, 105, 110, 117, 101], [100, 101, 108, 101, 116, 101], [116, 114, 117, 101], [102, 97, 108, 115, 101],
   [108, 101, 110], [97, 112, 112, 101, 110, 100], [115, 108, 105, 99, 101], [109, 97, 112], [105, 110, 116], [98, 111, 111, 108], [115, 116, 114, 105, 110, 103]]

/-- the tables of package read lie in their variables, which are among the first G blocks -/
structure Tab (w : World) : Prop where
  lv : TabRow w 7 levelsL
  ty : TabRow w 3 typeWordsL
  mr : TabRow w 1 marksL
  kw : TabRow w 2 keywordsL

structure Rdr (w : World) (b bp cap T : Nat) (ps : List Tok) (q : RS) : Prop where
  blk : w.heap[b]? = some (.cells #[.slice (some ⟨bp, 0, none⟩) ps.length cap, .int .i64 q.next, .int .i64 q.depth, .int .i64 q.at_, .int .i64 q.errno] T (0, 0))
  row : TokRow w bp ps
  ne : bp ≠ b
  lt : bp < w.heap.size
  nx : q.next < ps.length
  len : ps.length ≤ 4001
  dp : q.depth ≤ 30
  tab : Tab w
  far : 8 ≤ b
  fin : ∀ i, i < ps.length → (cur ps i).kind ≠ 0 → i + 1 < ps.length

/-- all blocks but b are as they were -/
structure Kept (b : Nat) (w w' : World) : Prop where
  os : w'.os = w.os
  tape : w'.tape = w.tape
  output : w'.output = w.output
  size : w.heap.size ≤ w'.heap.size
  block : ∀ k, k < w.heap.size → k ≠ b → w'.heap[k]? = w.heap[k]?

theorem Kept.refl (b : Nat) (w : World) : Kept b w w := ⟨rfl, rfl, rfl, Nat.le_refl _, fun _ _ _ => rfl⟩

theorem Kept.trans {b : Nat} {u v w : World} (h : Kept b u v) (k : Kept b v w) : Kept b u w :=
  ⟨k.os.trans h.os, k.tape.trans h.tape, k.output.trans h.output, Nat.le_trans h.size k.size,
   fun i hi hb => (k.block i (Nat.lt_of_lt_of_le hi h.size) hb).trans (h.block i hi hb)⟩

theorem Kept.of_below {b : Nat} {w w' : World} (h : Below w.heap.size w w') : Kept b w w' :=
  ⟨h.os, h.tape, h.output, h.size, fun k hk _ => h.block k hk⟩

theorem Kept.cell {b : Nat} {w w' : World} (h : Kept b w w') (k o : Nat) (hk : k < w.heap.size) (hb : k ≠ b) : w'.cell? ⟨k, o, none⟩ = w.cell? ⟨k, o, none⟩ :=
  World.cell?_of_block (w := w) (h.block k hk hb)

theorem Kept.frozen {b : Nat} {w w' : World} (h : Kept b w w') (k o : Nat) (hk : k < w.heap.size) (hb : k ≠ b) : w'.frozen? ⟨k, o, none⟩ = w.frozen? ⟨k, o, none⟩ :=
  World.frozen?_of_block (w := w) (h.block k hk hb)

theorem Rdr.bsize {w : World} {b bp cap T : Nat} {ps : List Tok} {q : RS} (h : Rdr w b bp cap T ps q) : b < w.heap.size := by
  have := h.blk
  rcases Nat.lt_or_ge b w.heap.size with hb | hb
  · exact hb
  · rw [Array.getElem?_eq_none hb] at this; cases this

theorem TabRow.lt {w : World} {g : Nat} {l : List (List UInt8)} (h : TabRow w g l) (hl : 0 < l.length) : g < w.heap.size := World.block_lt_of_cell? w ⟨g, 0, none⟩ (h 0 hl)

theorem TabRow.same {w w' : World} {g : Nat} {l : List (List UInt8)} (h : TabRow w g l) (he : w'.heap[g]? = w.heap[g]?) : TabRow w' g l := by
  intro i hi
  rw [World.cell?_of_block (w := w) (a := ⟨g, i, none⟩) he]
  exact h i hi

theorem Tab.same {w w' : World} (h : Tab w) (he : ∀ g, g < w.heap.size → g < 8 → w'.heap[g]? = w.heap[g]?) : Tab w' :=
  ⟨h.lv.same (he _ (h.lv.lt (by decide)) (by decide)), h.ty.same (he _ (h.ty.lt (by decide)) (by decide)), h.mr.same (he _ (h.mr.lt (by decide)) (by decide)), h.kw.same (he _ (h.kw.lt (by decide)) (by decide))⟩

theorem Rdr.below {w w' : World} {b bp cap T : Nat} {ps : List Tok} {q : RS} (h : Rdr w b bp cap T ps q) (k : Below w.heap.size w w') : Rdr w' b bp cap T ps q := by
  refine ⟨by rw [k.block b h.bsize]; exact h.blk, ?_, h.ne, Nat.lt_of_lt_of_le h.lt k.size, h.nx, h.len, h.dp, h.tab.same (fun g hg _ => k.block g hg), h.far, h.fin⟩
  intro i hi
  have := h.row i hi
  rw [← k.cell (p := ⟨bp, i * 4, none⟩) h.lt, ← k.cell (p := ⟨bp, i * 4 + 1, none⟩) h.lt, ← k.cell (p := ⟨bp, i * 4 + 2, none⟩) h.lt, ← k.cell (p := ⟨bp, i * 4 + 3, none⟩) h.lt] at this
  exact this

theorem Rdr.cells {w : World} {b bp cap T : Nat} {ps : List Tok} {q : RS} (h : Rdr w b bp cap T ps q) :
    w.cell? ⟨b, 0, none⟩ = some (.slice (some ⟨bp, 0, none⟩) ps.length cap) ∧ w.cell? ⟨b, 1, none⟩ = some (.int .i64 q.next) ∧ w.cell? ⟨b, 2, none⟩ = some (.int .i64 q.depth) ∧
    w.cell? ⟨b, 3, none⟩ = some (.int .i64 q.at_) ∧ w.cell? ⟨b, 4, none⟩ = some (.int .i64 q.errno) := by
  simp [World.cell?, h.blk]

theorem Rdr.thaw {w : World} {b bp cap T : Nat} {ps : List Tok} {q : RS} (h : Rdr w b bp cap T ps q) (o : Nat) : w.frozen? ⟨b, o, none⟩ = false := by
  simp [World.frozen?, h.blk]

theorem Kept.setCell {b : Nat} {w w' : World} (h : Kept b w w') (o : Nat) (v : Value) : Kept b w (w'.setCell ⟨b, o, none⟩ v) :=
  h.trans ⟨rfl, rfl, rfl, by simp [World.setCell], fun k _ hb => Below.heap_setCell _ _ _ _ hb⟩

theorem TokRow.setCell {w : World} {b bp : Nat} {ps : List Tok} (h : TokRow w bp ps) (hne : bp ≠ b) (o : Nat) (v : Value) : TokRow (w.setCell ⟨b, o, none⟩ v) bp ps := by
  intro i hi
  have := h i hi
  have e : ∀ j, (w.setCell ⟨b, o, none⟩ v).cell? ⟨bp, j, none⟩ = w.cell? ⟨bp, j, none⟩ := fun j => World.cell?_of_block (w := w) (Below.heap_setCell _ _ _ _ hne)
  simp only [e]
  exact this

theorem heap_setCell_same {w : World} {b o : Nat} {c : Array Value} {T : TypeId} {f : Nat × Nat} (h : w.heap[b]? = some (.cells c T f)) (v : Value) :
    (w.setCell ⟨b, o, none⟩ v).heap[b]? = some (.cells (c.setIfInBounds o v) T f) := by
  simp [World.setCell, Array.getElem?_modify, h]

theorem Tab.setCell {w : World} (h : Tab w) {b : Nat} (hb : 8 ≤ b) (o : Nat) (v : Value) : Tab (w.setCell ⟨b, o, none⟩ v) :=
  h.same fun g _ hg => Below.heap_setCell _ _ _ _ (by show g ≠ b; omega)

theorem Rdr.setNext {w : World} {b bp cap T : Nat} {ps : List Tok} {q : RS} (h : Rdr w b bp cap T ps q) (n : Nat) (hn : n < ps.length) (v : Value) (hv : v = .int .i64 n) :
    Rdr (w.setCell ⟨b, 1, none⟩ v) b bp cap T ps { q with next := n } := by
  subst hv
  exact ⟨by rw [heap_setCell_same h.blk]; simp, h.row.setCell h.ne _ _, h.ne, by simpa [World.setCell] using h.lt, hn, h.len, h.dp, h.tab.setCell h.far _ _, h.far, h.fin⟩

theorem Rdr.setDepth {w : World} {b bp cap T : Nat} {ps : List Tok} {q : RS} (h : Rdr w b bp cap T ps q) (d : Nat) (hd : d ≤ 30) (v : Value) (hv : v = .int .i64 d) :
    Rdr (w.setCell ⟨b, 2, none⟩ v) b bp cap T ps { q with depth := d } := by
  subst hv
  exact ⟨by rw [heap_setCell_same h.blk]; simp, h.row.setCell h.ne _ _, h.ne, by simpa [World.setCell] using h.lt, h.nx, h.len, hd, h.tab.setCell h.far _ _, h.far, h.fin⟩

theorem Rdr.setAt {w : World} {b bp cap T : Nat} {ps : List Tok} {q : RS} (h : Rdr w b bp cap T ps q) (a : Int) :
    Rdr (w.setCell ⟨b, 3, none⟩ (.int .i64 a)) b bp cap T ps { q with at_ := a } :=
  ⟨by rw [heap_setCell_same h.blk]; simp, h.row.setCell h.ne _ _, h.ne, by simpa [World.setCell] using h.lt, h.nx, h.len, h.dp, h.tab.setCell h.far _ _, h.far, h.fin⟩

theorem Rdr.setErrno {w : World} {b bp cap T : Nat} {ps : List Tok} {q : RS} (h : Rdr w b bp cap T ps q) (a : Int) :
    Rdr (w.setCell ⟨b, 4, none⟩ (.int .i64 a)) b bp cap T ps { q with errno := a } :=
  ⟨by rw [heap_setCell_same h.blk]; simp, h.row.setCell h.ne _ _, h.ne, by simpa [World.setCell] using h.lt, h.nx, h.len, h.dp, h.tab.setCell h.far _ _, h.far, h.fin⟩

/-- what stands otherwise than it must: the place, and the error -/
def refuseM (ps : List Tok) (n : Nat) : Int × Int := if (cur ps n).kind == 0 then ((cur ps n).at_, 5) else ((cur ps n).at_, 4)

def isT (t : Tok) (k : Int) (s : List UInt8) : Bool := t.kind == k && t.s == s

end Go.Proofs.YtgifghcaeoinoaaDoor
