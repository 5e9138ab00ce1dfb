/-
  Expressions: the methods that call no loop.
-/
import Derived.Test.YtbpnfoihonehgabGreatDoorProg
import Derived.WalkKit
import Derived.WalkSpells
import Derived.WalkLawsBesides
import Derived.RegionTactic
import Derived.ChangeAlike
import Derived.Deep.QuietTactic
import Derived.BigQuiet
import Derived.Deep.AppendLies
import Derived.Deep.RegionWith
import Derived.Defers
namespace Go.Proofs.YtbpnfoihonehgabGreatDoor
section
open Go.RowKit
set_option linter.unusedSimpArgs false
set_option linter.unusedVariables false

def isBlankB (c : Int) : Bool := c == 32 || c == 9 || c == 10
def isLetterB (c : Int) : Bool := decide (97 ≤ c) && decide (c ≤ 122)
def isDigitB (c : Int) : Bool := decide (48 ≤ c) && decide (c ≤ 57)

set_option maxHeartbeats 400000 in
theorem isBlank_any (c : Int) (w : World) :
    Calls Tryz.prog 16 #[.int .u8 c] w fun e w' => e = .returned (.bool (isBlankB c)) ∧ w' = w := by
  unfold isBlankB
  rcases h1 : (c == 32) with _ | _ <;> rcases h2 : (c == 9) with _ | _ <;> rcases h3 : (c == 10) with _ | _ <;>
    (go_enter Tryz.func16, Tryz.ntmps16
     go_wp2
     go_ret
     exact ⟨by simp [h1, h2, h3], rfl⟩)

set_option maxHeartbeats 400000 in
theorem isLetter_any (c : Int) (w : World) :
    Calls Tryz.prog 51 #[.int .u8 c] w fun e w' => e = .returned (.bool (isLetterB c)) ∧ w' = w := by
  unfold isLetterB
  by_cases h1 : 97 ≤ c <;> by_cases h2 : c ≤ 122 <;>
    (go_enter Tryz.func51, Tryz.ntmps51
     go_wp2
     go_ret
     exact ⟨by simp [h1, h2], rfl⟩)

set_option maxHeartbeats 400000 in
theorem isDigit_any (c : Int) (w : World) :
    Calls Tryz.prog 36 #[.int .u8 c] w fun e w' => e = .returned (.bool (isDigitB c)) ∧ w' = w := by
  unfold isDigitB
  by_cases h1 : 48 ≤ c <;> by_cases h2 : c ≤ 57 <;>
    (go_enter Tryz.func36, Tryz.ntmps36
     go_wp2
     go_ret
     exact ⟨by simp [h1, h2], rfl⟩)

set_option maxHeartbeats 400000 in
theorem wIsDigit_any (c : Int) (w : World) :
    Calls Tryz.prog 52 #[.int .u8 c] w fun e w' => e = .returned (.bool (isDigitB c)) ∧ w' = w := by
  unfold isDigitB
  by_cases h1 : 48 ≤ c <;> by_cases h2 : c ≤ 57 <;>
    (go_enter Tryz.func52, Tryz.ntmps52
     go_wp2
     go_ret
     exact ⟨by simp [h1, h2], rfl⟩)
end

section
open Go.RowKit
set_option linter.unusedSimpArgs false
set_option linter.unusedVariables false

structure Tok where
  kind : Int
  at_ : Int
  n : Int
  s : List UInt8

def Tok.val (t : Tok) : Value := .agg #[.int .i64 t.kind, .int .i64 t.at_, .int .i64 t.n, .string ⟨t.s.toArray⟩]

structure RS where
  next : Nat
  depth : Nat
  at_ : Int
  errno : Int

def Tok.none : Tok := ⟨0, 0, 0, []⟩

/-- the piece that is next -/
def cur (ps : List Tok) (i : Nat) : Tok := ps.getD i Tok.none

/-- a row of pieces lies in block bp -/
def TokRow (w : World) (bp : Nat) (ps : List Tok) : Prop :=
  ∀ i, i < ps.length → w.cell? ⟨bp, i * 4, none⟩ = some (.int .i64 (cur ps i).kind) ∧ w.cell? ⟨bp, i * 4 + 1, none⟩ = some (.int .i64 (cur ps i).at_) ∧
    w.cell? ⟨bp, i * 4 + 2, none⟩ = some (.int .i64 (cur ps i).n) ∧ w.cell? ⟨bp, i * 4 + 3, none⟩ = some (.string ⟨(cur ps i).s.toArray⟩)

def TabRow (w : World) (g : Nat) (l : List (List UInt8)) : Prop := ∀ i, i < l.length → w.cell? ⟨g, i, none⟩ = some (.string ⟨(l.getD i []).toArray⟩)

def levelsL : List (List UInt8) :=
  [[124, 124], [], [], [], [], [], [38, 38], [], [], [], [], [], [61, 61], [33, 61], [60], [60, 61], [62], [62, 61], [43], [45], [], [], [], [], [42], [47], [37], [], [], []]

def typeWordsL : List (List UInt8) := [[], [105, 110, 116], [98, 111, 111, 108], [115, 116, 114, 105, 110, 103], [115, 108, 105, 99, 101], [109, 97, 112]]

def marksL : List (List UInt8) :=
  [[58, 61], [61, 61], [33, 61], [60, 61], [62, 61], [38, 38], [124, 124], [40], [41], [123], [125], [91], [93], [44], [58], [61], [60], [62], [43], [45], [42], [47], [37], [33]]

def keywordsL : List (List UInt8) :=
  [[102, 117, 110, 99], [105, 102], [101, 108, 115, 101], [102, 111, 114], [114, 97, 110, 103, 101], [115, 119, 105, 116, 99, 104], [99, 97, 115, 101], [100, 101, 102, 97, 117, 108, 116],
   [114, 101, 116, 117, 114, 110], [112, 114, 105, 110, 116], [98, 114, 101, 97, 107], [99, 111, 110, 116, 105, 110, 117, 101], [100, 101, 108, 101, 116, 101], [116, 114, 117, 101], [102, 97, 108, 115, 101],
   [108, 101, 110], [97, 112, 112, 101, 110, 100], [115, 108, 105, 99, 101], [109, 97, 112], [105, 110, 116], [98, 111, 111, 108], [115, 116, 114, 105, 110, 103]]

/-- the tables of package read lie in their variables, which are among the first G blocks -/
structure Tab (w : World) : Prop where
  lv : TabRow w 8 levelsL
  ty : TabRow w 1 typeWordsL
  mr : TabRow w 0 marksL
  kw : TabRow w 2 keywordsL

structure Rdr (w : World) (b bp cap T : Nat) (ps : List Tok) (q : RS) : Prop where
  blk : w.heap[b]? = some (.cells #[.slice (some ⟨bp, 0, none⟩) ps.length cap, .int .i64 q.next, .int .i64 q.depth, .int .i64 q.at_, .int .i64 q.errno] T (0, 0))
  row : TokRow w bp ps
  ne : bp ≠ b
  lt : bp < w.heap.size
  nx : q.next < ps.length
  len : ps.length ≤ 4001
  dp : q.depth ≤ 30
  tab : Tab w
  far : 9 ≤ b
  fin : ∀ i, i < ps.length → (cur ps i).kind ≠ 0 → i + 1 < ps.length

/-- all blocks but b are as they were -/
structure Kept (b : Nat) (w w' : World) : Prop where
  os : w'.os = w.os
  tape : w'.tape = w.tape
  output : w'.output = w.output
  size : w.heap.size ≤ w'.heap.size
  block : ∀ k, k < w.heap.size → k ≠ b → w'.heap[k]? = w.heap[k]?

theorem Kept.refl (b : Nat) (w : World) : Kept b w w := ⟨rfl, rfl, rfl, Nat.le_refl _, fun _ _ _ => rfl⟩

theorem Kept.trans {b : Nat} {u v w : World} (h : Kept b u v) (k : Kept b v w) : Kept b u w :=
  ⟨k.os.trans h.os, k.tape.trans h.tape, k.output.trans h.output, Nat.le_trans h.size k.size,
   fun i hi hb => (k.block i (Nat.lt_of_lt_of_le hi h.size) hb).trans (h.block i hi hb)⟩

theorem Kept.of_below {b : Nat} {w w' : World} (h : Below w.heap.size w w') : Kept b w w' :=
  ⟨h.os, h.tape, h.output, h.size, fun k hk _ => h.block k hk⟩

theorem Kept.cell {b : Nat} {w w' : World} (h : Kept b w w') (k o : Nat) (hk : k < w.heap.size) (hb : k ≠ b) : w'.cell? ⟨k, o, none⟩ = w.cell? ⟨k, o, none⟩ :=
  World.cell?_of_block (w := w) (h.block k hk hb)

theorem Kept.frozen {b : Nat} {w w' : World} (h : Kept b w w') (k o : Nat) (hk : k < w.heap.size) (hb : k ≠ b) : w'.frozen? ⟨k, o, none⟩ = w.frozen? ⟨k, o, none⟩ :=
  World.frozen?_of_block (w := w) (h.block k hk hb)

theorem Rdr.bsize {w : World} {b bp cap T : Nat} {ps : List Tok} {q : RS} (h : Rdr w b bp cap T ps q) : b < w.heap.size := by
  have := h.blk
  rcases Nat.lt_or_ge b w.heap.size with hb | hb
  · exact hb
  · rw [Array.getElem?_eq_none hb] at this; cases this

theorem TabRow.lt {w : World} {g : Nat} {l : List (List UInt8)} (h : TabRow w g l) (hl : 0 < l.length) : g < w.heap.size := World.block_lt_of_cell? w ⟨g, 0, none⟩ (h 0 hl)

theorem TabRow.same {w w' : World} {g : Nat} {l : List (List UInt8)} (h : TabRow w g l) (he : w'.heap[g]? = w.heap[g]?) : TabRow w' g l := by
  intro i hi
  rw [World.cell?_of_block (w := w) (a := ⟨g, i, none⟩) he]
  exact h i hi

theorem Tab.same {w w' : World} (h : Tab w) (he : ∀ g, g < w.heap.size → g < 9 → w'.heap[g]? = w.heap[g]?) : Tab w' :=
  ⟨h.lv.same (he _ (h.lv.lt (by decide)) (by decide)), h.ty.same (he _ (h.ty.lt (by decide)) (by decide)), h.mr.same (he _ (h.mr.lt (by decide)) (by decide)), h.kw.same (he _ (h.kw.lt (by decide)) (by decide))⟩

theorem Rdr.below {w w' : World} {b bp cap T : Nat} {ps : List Tok} {q : RS} (h : Rdr w b bp cap T ps q) (k : Below w.heap.size w w') : Rdr w' b bp cap T ps q := by
  refine ⟨by rw [k.block b h.bsize]; exact h.blk, ?_, h.ne, Nat.lt_of_lt_of_le h.lt k.size, h.nx, h.len, h.dp, h.tab.same (fun g hg _ => k.block g hg), h.far, h.fin⟩
  intro i hi
  have := h.row i hi
  rw [← k.cell (p := ⟨bp, i * 4, none⟩) h.lt, ← k.cell (p := ⟨bp, i * 4 + 1, none⟩) h.lt, ← k.cell (p := ⟨bp, i * 4 + 2, none⟩) h.lt, ← k.cell (p := ⟨bp, i * 4 + 3, none⟩) h.lt] at this
  exact this

theorem Rdr.cells {w : World} {b bp cap T : Nat} {ps : List Tok} {q : RS} (h : Rdr w b bp cap T ps q) :
    w.cell? ⟨b, 0, none⟩ = some (.slice (some ⟨bp, 0, none⟩) ps.length cap) ∧ w.cell? ⟨b, 1, none⟩ = some (.int .i64 q.next) ∧ w.cell? ⟨b, 2, none⟩ = some (.int .i64 q.depth) ∧
    w.cell? ⟨b, 3, none⟩ = some (.int .i64 q.at_) ∧ w.cell? ⟨b, 4, none⟩ = some (.int .i64 q.errno) := by
  simp [World.cell?, h.blk]

theorem Rdr.thaw {w : World} {b bp cap T : Nat} {ps : List Tok} {q : RS} (h : Rdr w b bp cap T ps q) (o : Nat) : w.frozen? ⟨b, o, none⟩ = false := by
  simp [World.frozen?, h.blk]

theorem Kept.setCell {b : Nat} {w w' : World} (h : Kept b w w') (o : Nat) (v : Value) : Kept b w (w'.setCell ⟨b, o, none⟩ v) :=
  h.trans ⟨rfl, rfl, rfl, by simp [World.setCell], fun k _ hb => Below.heap_setCell _ _ _ _ hb⟩

theorem TokRow.setCell {w : World} {b bp : Nat} {ps : List Tok} (h : TokRow w bp ps) (hne : bp ≠ b) (o : Nat) (v : Value) : TokRow (w.setCell ⟨b, o, none⟩ v) bp ps := by
  intro i hi
  have := h i hi
  have e : ∀ j, (w.setCell ⟨b, o, none⟩ v).cell? ⟨bp, j, none⟩ = w.cell? ⟨bp, j, none⟩ := fun j => World.cell?_of_block (w := w) (Below.heap_setCell _ _ _ _ hne)
  simp only [e]
  exact this

theorem heap_setCell_same {w : World} {b o : Nat} {c : Array Value} {T : TypeId} {f : Nat × Nat} (h : w.heap[b]? = some (.cells c T f)) (v : Value) :
    (w.setCell ⟨b, o, none⟩ v).heap[b]? = some (.cells (c.setIfInBounds o v) T f) := by
  simp [World.setCell, Array.getElem?_modify, h]

theorem Tab.setCell {w : World} (h : Tab w) {b : Nat} (hb : 9 ≤ b) (o : Nat) (v : Value) : Tab (w.setCell ⟨b, o, none⟩ v) :=
  h.same fun g _ hg => Below.heap_setCell _ _ _ _ (by show g ≠ b; omega)

theorem Rdr.setNext {w : World} {b bp cap T : Nat} {ps : List Tok} {q : RS} (h : Rdr w b bp cap T ps q) (n : Nat) (hn : n < ps.length) (v : Value) (hv : v = .int .i64 n) :
    Rdr (w.setCell ⟨b, 1, none⟩ v) b bp cap T ps { q with next := n } := by
  subst hv
  exact ⟨by rw [heap_setCell_same h.blk]; simp, h.row.setCell h.ne _ _, h.ne, by simpa [World.setCell] using h.lt, hn, h.len, h.dp, h.tab.setCell h.far _ _, h.far, h.fin⟩

theorem Rdr.setDepth {w : World} {b bp cap T : Nat} {ps : List Tok} {q : RS} (h : Rdr w b bp cap T ps q) (d : Nat) (hd : d ≤ 30) (v : Value) (hv : v = .int .i64 d) :
    Rdr (w.setCell ⟨b, 2, none⟩ v) b bp cap T ps { q with depth := d } := by
  subst hv
  exact ⟨by rw [heap_setCell_same h.blk]; simp, h.row.setCell h.ne _ _, h.ne, by simpa [World.setCell] using h.lt, h.nx, h.len, hd, h.tab.setCell h.far _ _, h.far, h.fin⟩

theorem Rdr.setAt {w : World} {b bp cap T : Nat} {ps : List Tok} {q : RS} (h : Rdr w b bp cap T ps q) (a : Int) :
    Rdr (w.setCell ⟨b, 3, none⟩ (.int .i64 a)) b bp cap T ps { q with at_ := a } :=
  ⟨by rw [heap_setCell_same h.blk]; simp, h.row.setCell h.ne _ _, h.ne, by simpa [World.setCell] using h.lt, h.nx, h.len, h.dp, h.tab.setCell h.far _ _, h.far, h.fin⟩

theorem Rdr.setErrno {w : World} {b bp cap T : Nat} {ps : List Tok} {q : RS} (h : Rdr w b bp cap T ps q) (a : Int) :
    Rdr (w.setCell ⟨b, 4, none⟩ (.int .i64 a)) b bp cap T ps { q with errno := a } :=
  ⟨by rw [heap_setCell_same h.blk]; simp, h.row.setCell h.ne _ _, h.ne, by simpa [World.setCell] using h.lt, h.nx, h.len, h.dp, h.tab.setCell h.far _ _, h.far, h.fin⟩

/-- what stands otherwise than it must: the place, and the error -/
def refuseM (ps : List Tok) (n : Nat) : Int × Int := if (cur ps n).kind == 0 then ((cur ps n).at_, 5) else ((cur ps n).at_, 4)

def isT (t : Tok) (k : Int) (s : List UInt8) : Bool := t.kind == k && t.s == s
end

section
open Go.RowKit
set_option linter.unusedSimpArgs false
set_option linter.unusedVariables false

@[go_sem] theorem fld_piece_0 (x0 x1 x2 x3 : Value) (w : World) : (Instr.field 69 (.agg #[x0, x1, x2, x3]) 0).run Tryz.prog w = .ok x0 w := by kernel_rfl
@[go_sem] theorem fld_piece_1 (x0 x1 x2 x3 : Value) (w : World) : (Instr.field 69 (.agg #[x0, x1, x2, x3]) 1).run Tryz.prog w = .ok x1 w := by kernel_rfl
@[go_sem] theorem fld_piece_2 (x0 x1 x2 x3 : Value) (w : World) : (Instr.field 69 (.agg #[x0, x1, x2, x3]) 2).run Tryz.prog w = .ok x2 w := by kernel_rfl
@[go_sem] theorem fld_piece_3 (x0 x1 x2 x3 : Value) (w : World) : (Instr.field 69 (.agg #[x0, x1, x2, x3]) 3).run Tryz.prog w = .ok x3 w := by kernel_rfl

set_option maxHeartbeats 400000 in
theorem is_any (t : Tok) (k : Int) (s : List UInt8) (w : World) :
    Calls Tryz.prog 75 #[t.val, .int .i64 k, .string ⟨s.toArray⟩] w fun e w' => e = .returned (.bool (isT t k s)) ∧ Below w.heap.size w w' := by
  unfold Tok.val isT
  rcases h1 : (t.kind == k) with _ | _ <;>
  (go_enter Tryz.func75, Tryz.ntmps75
   go_wp2
   go_ret
   exact ⟨rfl, (Below.refl _ _).alloc (Nat.le_refl _) _⟩)

set_option maxHeartbeats 400000 in
theorem peek_any (w : World) (b bp cap T : Nat) (ps : List Tok) (q : RS) (h : Rdr w b bp cap T ps q) :
    Calls Tryz.prog 18 #[.pointer (some ⟨b, 0, none⟩)] w fun e w' => e = .returned (cur ps q.next).val ∧ Below w.heap.size w w' := by
  obtain ⟨c0, c1, c2, c3, c4⟩ := h.cells
  obtain ⟨t0, t1, t2, t3⟩ := h.row q.next h.nx
  have hn := h.nx
  have hl := h.len
  have hlt := h.lt
  have hb := h.bsize
  go_enter Tryz.func18, Tryz.ntmps18
  go_wp2
  go_region
  go_wp2
  exact bodyPost_ret (v := (cur ps q.next).val) (by simp [results, Tryz.results18, go_sem, Tok.val]) rfl ⟨rfl, ((Below.refl _ _).alloc (Nat.le_refl _) _).drew⟩

set_option maxHeartbeats 400000 in
theorem step_any (w : World) (b bp cap T : Nat) (ps : List Tok) (q : RS) (h : Rdr w b bp cap T ps q) (hk : ((cur ps q.next).kind != 0) = true) :
    Calls Tryz.prog 58 #[.pointer (some ⟨b, 0, none⟩)] w fun e w' => e = .returned (.tuple #[]) ∧ Rdr w' b bp cap T ps { q with next := q.next + 1 } ∧ Kept b w w' := by
  have hn := h.nx
  have hl := h.len
  go_enter Tryz.func58, Tryz.ntmps58
  go_wp2_with fail
  refine (peek_any _ _ _ _ _ _ _ h).mono ?_
  rintro e w1 ⟨rfl, hb1⟩
  have h1 := h.below hb1
  obtain ⟨c0, c1, c2, c3, c4⟩ := h1.cells
  have hz := h1.thaw 1
  unfold Tok.val
  go_wp2_with fail
  go_end0
  exact ⟨rfl, h1.setNext (q.next + 1) (h.fin _ hn (by simpa using hk)) _ (by go_num), (Kept.of_below hb1).setCell _ _⟩

set_option maxHeartbeats 400000 in
theorem fail_any (w : World) (b bp cap T : Nat) (ps : List Tok) (q : RS) (a k : Int) (h : Rdr w b bp cap T ps q) :
    Calls Tryz.prog 20 #[.pointer (some ⟨b, 0, none⟩), .int .i64 a, .int .i64 k] w fun e w' => e = .returned (.bool false) ∧ Rdr w' b bp cap T ps { q with at_ := a, errno := k } ∧ Kept b w w' := by
  obtain ⟨c0, c1, c2, c3, c4⟩ := h.cells
  have hz3 := h.thaw 3
  have hz4 := h.thaw 4
  go_enter Tryz.func20, Tryz.ntmps20
  go_wp2
  go_ret
  exact ⟨rfl, (h.setAt a).setErrno k, ((Kept.refl _ _).setCell _ _).setCell _ _⟩
end

section
open Go.RowKit
set_option linter.unusedSimpArgs false
set_option linter.unusedVariables false

theorem kind_of_isT {t : Tok} {k : Int} {s : List UInt8} (h : isT t k s = true) : t.kind = k := by
  simp [isT] at h; exact h.1

set_option maxHeartbeats 400000 in
theorem skip_yes (w : World) (b bp cap T : Nat) (ps : List Tok) (q : RS) (k : Int) (s : List UInt8) (h : Rdr w b bp cap T ps q) (hk : (k == 0) = false) (hT : isT (cur ps q.next) k s = true) :
    Calls Tryz.prog 56 #[.pointer (some ⟨b, 0, none⟩), .int .i64 k, .string ⟨s.toArray⟩] w fun e w' => e = .returned (.bool true) ∧ Rdr w' b bp cap T ps { q with next := q.next + 1 } ∧ Kept b w w' := by
  have hkk : ((cur ps q.next).kind != 0) = true := by rw [kind_of_isT hT]; simp at hk ⊢; exact hk
  go_enter Tryz.func56, Tryz.ntmps56
  go_wp2_with fail
  refine (peek_any _ _ _ _ _ _ _ h).mono ?_
  rintro e w1 ⟨rfl, hb1⟩
  have h1 := h.below hb1
  go_wp2_with fail
  refine (is_any _ _ _ _).mono ?_
  rintro e w2 ⟨rfl, hb2⟩
  have h2 := h1.below hb2
  go_wp2_with fail
  refine (step_any _ _ _ _ _ _ _ h2 hkk).mono ?_
  rintro e w3 ⟨rfl, h3, k3⟩
  go_wp2_with fail
  go_ret
  exact ⟨rfl, h3, ((Kept.of_below hb1).trans (Kept.of_below hb2)).trans k3⟩

set_option maxHeartbeats 400000 in
theorem skip_no (w : World) (b bp cap T : Nat) (ps : List Tok) (q : RS) (k : Int) (s : List UInt8) (h : Rdr w b bp cap T ps q) (hT : isT (cur ps q.next) k s = false) :
    Calls Tryz.prog 56 #[.pointer (some ⟨b, 0, none⟩), .int .i64 k, .string ⟨s.toArray⟩] w fun e w' => e = .returned (.bool false) ∧ Rdr w' b bp cap T ps q ∧ Kept b w w' := by
  go_enter Tryz.func56, Tryz.ntmps56
  go_wp2_with fail
  refine (peek_any _ _ _ _ _ _ _ h).mono ?_
  rintro e w1 ⟨rfl, hb1⟩
  have h1 := h.below hb1
  go_wp2_with fail
  refine (is_any _ _ _ _).mono ?_
  rintro e w2 ⟨rfl, hb2⟩
  have h2 := h1.below hb2
  go_wp2_with fail
  go_ret
  exact ⟨rfl, h2, (Kept.of_below hb1).trans (Kept.of_below hb2)⟩

set_option maxHeartbeats 400000 in
theorem refuse_any (w : World) (b bp cap T : Nat) (ps : List Tok) (q : RS) (h : Rdr w b bp cap T ps q) :
    Calls Tryz.prog 57 #[.pointer (some ⟨b, 0, none⟩)] w fun e w' => e = .returned (.bool false) ∧ Rdr w' b bp cap T ps { q with at_ := (refuseM ps q.next).1, errno := (refuseM ps q.next).2 } ∧ Kept b w w' := by
  unfold refuseM
  rcases hk : ((cur ps q.next).kind == 0) with _ | _ <;>
  (go_enter Tryz.func57, Tryz.ntmps57
   go_wp2_with fail
   refine (peek_any _ _ _ _ _ _ _ h).mono ?_
   rintro e w1 ⟨rfl, hb1⟩
   have h1 := h.below hb1
   unfold Tok.val
   go_wp2_with fail
   refine (fail_any _ _ _ _ _ _ _ _ _ (h1.below ((Below.refl _ _).alloc (Nat.le_refl _) _))).mono ?_
   rintro e w2 ⟨rfl, h2, k2⟩
   go_wp2_with fail
   go_ret
   exact ⟨rfl, h2, ((Kept.of_below hb1).trans (Kept.of_below ((Below.refl _ _).alloc (Nat.le_refl _) _))).trans k2⟩)

set_option maxHeartbeats 400000 in
theorem mark_yes (w : World) (b bp cap T : Nat) (ps : List Tok) (q : RS) (s : List UInt8) (h : Rdr w b bp cap T ps q) (hT : isT (cur ps q.next) 5 s = true) :
    Calls Tryz.prog 61 #[.pointer (some ⟨b, 0, none⟩), .string ⟨s.toArray⟩] w fun e w' => e = .returned (.bool true) ∧ Rdr w' b bp cap T ps { q with next := q.next + 1 } ∧ Kept b w w' := by
  go_enter Tryz.func61, Tryz.ntmps61
  go_wp2_with fail
  refine (skip_yes _ _ _ _ _ _ _ _ _ h rfl hT).mono ?_
  rintro e w1 ⟨rfl, h1, k1⟩
  go_wp2_with fail
  go_ret
  exact ⟨rfl, h1, k1⟩

set_option maxHeartbeats 400000 in
theorem mark_no (w : World) (b bp cap T : Nat) (ps : List Tok) (q : RS) (s : List UInt8) (h : Rdr w b bp cap T ps q) (hT : isT (cur ps q.next) 5 s = false) :
    Calls Tryz.prog 61 #[.pointer (some ⟨b, 0, none⟩), .string ⟨s.toArray⟩] w fun e w' => e = .returned (.bool false) ∧ Rdr w' b bp cap T ps { q with at_ := (refuseM ps q.next).1, errno := (refuseM ps q.next).2 } ∧ Kept b w w' := by
  go_enter Tryz.func61, Tryz.ntmps61
  go_wp2_with fail
  refine (skip_no _ _ _ _ _ _ _ _ _ h hT).mono ?_
  rintro e w1 ⟨rfl, h1, k1⟩
  go_wp2_with fail
  refine (refuse_any _ _ _ _ _ _ _ h1).mono ?_
  rintro e w2 ⟨rfl, h2, k2⟩
  go_wp2_with fail
  go_ret
  exact ⟨rfl, h2, k1.trans k2⟩

set_option maxHeartbeats 400000 in
theorem keyword_yes (w : World) (b bp cap T : Nat) (ps : List Tok) (q : RS) (s : List UInt8) (h : Rdr w b bp cap T ps q) (hT : isT (cur ps q.next) 2 s = true) :
    Calls Tryz.prog 40 #[.pointer (some ⟨b, 0, none⟩), .string ⟨s.toArray⟩] w fun e w' => e = .returned (.bool true) ∧ Rdr w' b bp cap T ps { q with next := q.next + 1 } ∧ Kept b w w' := by
  go_enter Tryz.func40, Tryz.ntmps40
  go_wp2_with fail
  refine (skip_yes _ _ _ _ _ _ _ _ _ h rfl hT).mono ?_
  rintro e w1 ⟨rfl, h1, k1⟩
  go_wp2_with fail
  go_ret
  exact ⟨rfl, h1, k1⟩

set_option maxHeartbeats 400000 in
theorem keyword_no (w : World) (b bp cap T : Nat) (ps : List Tok) (q : RS) (s : List UInt8) (h : Rdr w b bp cap T ps q) (hT : isT (cur ps q.next) 2 s = false) :
    Calls Tryz.prog 40 #[.pointer (some ⟨b, 0, none⟩), .string ⟨s.toArray⟩] w fun e w' => e = .returned (.bool false) ∧ Rdr w' b bp cap T ps { q with at_ := (refuseM ps q.next).1, errno := (refuseM ps q.next).2 } ∧ Kept b w w' := by
  go_enter Tryz.func40, Tryz.ntmps40
  go_wp2_with fail
  refine (skip_no _ _ _ _ _ _ _ _ _ h hT).mono ?_
  rintro e w1 ⟨rfl, h1, k1⟩
  go_wp2_with fail
  refine (refuse_any _ _ _ _ _ _ _ h1).mono ?_
  rintro e w2 ⟨rfl, h2, k2⟩
  go_wp2_with fail
  go_ret
  exact ⟨rfl, h2, k1.trans k2⟩

set_option maxHeartbeats 400000 in
theorem name_yes (w : World) (b bp cap T : Nat) (ps : List Tok) (q : RS) (h : Rdr w b bp cap T ps q) (hT : ((cur ps q.next).kind != 1) = false) :
    Calls Tryz.prog 41 #[.pointer (some ⟨b, 0, none⟩)] w fun e w' => e = .returned (.tuple #[.string ⟨(cur ps q.next).s.toArray⟩, .bool true]) ∧ Rdr w' b bp cap T ps { q with next := q.next + 1 } ∧ Kept b w w' := by
  have hkk : ((cur ps q.next).kind != 0) = true := by simp at hT ⊢; omega
  have hbs := h.bsize
  go_enter Tryz.func41, Tryz.ntmps41
  go_wp2_with fail
  refine (peek_any _ _ _ _ _ _ _ h).mono ?_
  rintro e w1 ⟨rfl, hb1⟩
  have h1 := h.below hb1
  have hs1 := hb1.size
  unfold Tok.val
  go_wp2_with fail
  refine (step_any _ _ _ _ _ _ _ (h1.below ((Below.refl _ _).alloc (Nat.le_refl _) _)) hkk).mono ?_
  rintro e w2 ⟨rfl, h2, k2⟩
  have hc := fun o => k2.cell w1.heap.size o (by simp) (by omega)
  go_wp2_with fail
  go_ret2
  exact ⟨rfl, h2, ((Kept.of_below hb1).trans (Kept.of_below ((Below.refl _ _).alloc (Nat.le_refl _) _))).trans k2⟩

set_option maxHeartbeats 400000 in
theorem name_no (w : World) (b bp cap T : Nat) (ps : List Tok) (q : RS) (h : Rdr w b bp cap T ps q) (hT : ((cur ps q.next).kind != 1) = true) :
    Calls Tryz.prog 41 #[.pointer (some ⟨b, 0, none⟩)] w fun e w' => e = .returned (.tuple #[.string ⟨#[]⟩, .bool false]) ∧ Rdr w' b bp cap T ps { q with at_ := (refuseM ps q.next).1, errno := (refuseM ps q.next).2 } ∧ Kept b w w' := by
  go_enter Tryz.func41, Tryz.ntmps41
  go_wp2_with fail
  refine (peek_any _ _ _ _ _ _ _ h).mono ?_
  rintro e w1 ⟨rfl, hb1⟩
  have h1 := h.below hb1
  unfold Tok.val
  go_wp2_with fail
  refine (refuse_any _ _ _ _ _ _ _ (h1.below ((Below.refl _ _).alloc (Nat.le_refl _) _))).mono ?_
  rintro e w2 ⟨rfl, h2, k2⟩
  go_wp2_with fail
  go_ret2
  exact ⟨rfl, h2, ((Kept.of_below hb1).trans (Kept.of_below ((Below.refl _ _).alloc (Nat.le_refl _) _))).trans k2⟩

set_option maxHeartbeats 400000 in
theorem enter_yes (w : World) (b bp cap T : Nat) (ps : List Tok) (q : RS) (h : Rdr w b bp cap T ps q) (hd : q.depth < 30) :
    Calls Tryz.prog 62 #[.pointer (some ⟨b, 0, none⟩)] w fun e w' => e = .returned (.bool true) ∧ Rdr w' b bp cap T ps { q with depth := q.depth + 1 } ∧ Kept b w w' := by
  obtain ⟨c0, c1, c2, c3, c4⟩ := h.cells
  have hz := h.thaw 2
  go_enter Tryz.func62, Tryz.ntmps62
  go_wp2_with fail
  go_ret
  exact ⟨rfl, h.setDepth (q.depth + 1) (by omega) _ (by go_num), (Kept.refl _ _).setCell _ _⟩

set_option maxHeartbeats 400000 in
theorem enter_no (w : World) (b bp cap T : Nat) (ps : List Tok) (q : RS) (h : Rdr w b bp cap T ps q) (hd : 30 ≤ q.depth) :
    Calls Tryz.prog 62 #[.pointer (some ⟨b, 0, none⟩)] w fun e w' => e = .returned (.bool false) ∧ Rdr w' b bp cap T ps { q with at_ := (cur ps q.next).at_, errno := 8 } ∧ Kept b w w' := by
  obtain ⟨c0, c1, c2, c3, c4⟩ := h.cells
  go_enter Tryz.func62, Tryz.ntmps62
  go_wp2_with fail
  refine (peek_any _ _ _ _ _ _ _ h).mono ?_
  rintro e w1 ⟨rfl, hb1⟩
  have h1 := h.below hb1
  unfold Tok.val
  go_wp2_with fail
  refine (fail_any _ _ _ _ _ _ _ _ _ h1).mono ?_
  rintro e w2 ⟨rfl, h2, k2⟩
  go_wp2_with fail
  go_ret
  exact ⟨rfl, h2, (Kept.of_below hb1).trans k2⟩
end

section
open Go.RowKit
set_option linter.unusedSimpArgs false
set_option linter.unusedVariables false

structure Ex where
  kind : Int
  n : Int
  s : List UInt8
  args : List Ex

structure St where
  kind : Int
  s : List UInt8
  t : List UInt8
  exprs : List Ex
  body : List St
  els : List St
  cases : List (List Int × List St)

structure Fn' where
  name : List UInt8
  params : List (List UInt8 × Int)
  result : Int
  body : List St

/-- two lists, element by element -/
def AllP {A B : Type} (P : A → B → Prop) : List A → List B → Prop
  | [], [] => True
  | a :: us, b :: vs => P a b ∧ AllP P us vs
  | _, _ => False

theorem AllP.imp {A B : Type} {P Q : A → B → Prop} (h : ∀ a b, P a b → Q a b) : ∀ {us : List A} {vs : List B}, AllP P us vs → AllP Q us vs
  | [], [], _ => trivial
  | a :: us, b :: vs, ⟨x, y⟩ => ⟨h _ _ x, AllP.imp h y⟩
  | [], _ :: _, x => x.elim
  | _ :: _, [], x => x.elim

theorem AllP.snoc {A B : Type} {P : A → B → Prop} {a : A} {b : B} (h : P a b) : ∀ {us : List A} {vs : List B}, AllP P us vs → AllP P (us ++ [a]) (vs ++ [b])
  | [], [], _ => ⟨h, trivial⟩
  | _ :: _, _ :: _, ⟨x, y⟩ => ⟨x, AllP.snoc h y⟩
  | [], _ :: _, x => x.elim
  | _ :: _, [], x => x.elim

theorem AllP.length {A B : Type} {P : A → B → Prop} : ∀ {us : List A} {vs : List B}, AllP P us vs → us.length = vs.length
  | [], [], _ => rfl
  | _ :: _, _ :: _, ⟨_, y⟩ => by simp [AllP.length y]
  | [], _ :: _, x => x.elim
  | _ :: _, [], x => x.elim

/-- the cells of a list of values, one behind the other -/
def flat (vs : List Value) : List Value := vs.flatMap (fun v => v.cells.toList)

theorem flat_append (a b : List Value) : flat (a ++ b) = flat a ++ flat b := by simp [flat]

/-- a slice value that has so many elements, whose cells are these, in a block of the set S -/
def RowIs (S : Nat → Prop) (w : World) (v : Value) (n : Nat) (cells : List Value) : Prop :=
  (v = .slice none 0 0 ∧ n = 0 ∧ cells = []) ∨ ∃ g cap cur T fz, v = .slice (some ⟨g, 0, none⟩) n cap ∧ S g ∧ w.heap[g]? = some (.cells cur T fz) ∧ cur.toList.take cells.length = cells

theorem RowIs.move {S S' : Nat → Prop} {w w' : World} {v : Value} {n : Nat} {cells : List Value} (h : RowIs S w v n cells)
    (hk : ∀ g, S g → g < w.heap.size → S' g ∧ w'.heap[g]? = w.heap[g]?) : RowIs S' w' v n cells := by
  rcases h with h | ⟨g, cap, cur, T, fz, hv, hS, hg, ht⟩
  · exact .inl h
  · have hlt : g < w.heap.size := by
      rcases Nat.lt_or_ge g w.heap.size with hb | hb
      · exact hb
      · rw [Array.getElem?_eq_none hb] at hg; cases hg
    obtain ⟨h1, h2⟩ := hk g hS hlt
    exact .inr ⟨g, cap, cur, T, fz, hv, h1, by rw [h2]; exact hg, ht⟩

/-- a slice whose elements are us told, one by one -/
def Row {B : Type} (S : Nat → Prop) (w : World) (P : Value → B → Prop) (v : Value) (xs : List B) : Prop :=
  ∃ vs, RowIs S w v xs.length (flat vs) ∧ AllP P vs xs

theorem Row.move {B : Type} {S S' : Nat → Prop} {w w' : World} {P Q : Value → B → Prop} {v : Value} {xs : List B} (h : Row S w P v xs)
    (hk : ∀ g, S g → g < w.heap.size → S' g ∧ w'.heap[g]? = w.heap[g]?) (hp : ∀ u x, P u x → Q u x) : Row S' w' Q v xs := by
  obtain ⟨vs, h1, h2⟩ := h
  exact ⟨vs, h1.move hk, h2.imp hp⟩

def IsE : Nat → (Nat → Prop) → World → Value → Ex → Prop
  | 0, _, _, _, _ => False
  | f + 1, S, w, v, x => ∃ a, v = .agg #[.int .i64 x.kind, .int .i64 x.n, .string ⟨x.s.toArray⟩, a] ∧ Row S w (IsE f S w) a x.args

theorem IsE.move {S S' : Nat → Prop} {w w' : World} (hk : ∀ g, S g → g < w.heap.size → S' g ∧ w'.heap[g]? = w.heap[g]?) :
    ∀ (f : Nat) (v : Value) (x : Ex), IsE f S w v x → IsE f S' w' v x
  | 0, _, _, h => h.elim
  | f + 1, v, x, ⟨a, hv, hr⟩ => ⟨a, hv, hr.move hk (IsE.move hk f)⟩

theorem IsE.up {S : Nat → Prop} {w : World} : ∀ (f : Nat) (v : Value) (x : Ex), IsE f S w v x → IsE (f + 1) S w v x
  | 0, _, _, h => h.elim
  | f + 1, v, x, ⟨a, hv, hr⟩ => ⟨a, hv, hr.move (fun g h _ => ⟨h, rfl⟩) (IsE.up f)⟩

theorem IsE.le {S : Nat → Prop} {w : World} {f g : Nat} (h : f ≤ g) {v : Value} {x : Ex} (hx : IsE f S w v x) : IsE g S w v x := by
  induction h with
  | refl => exact hx
  | step _ ih => exact IsE.up _ _ _ ih

/-- an expression lies in memory, in blocks of S -/
def AnE (S : Nat → Prop) (w : World) (v : Value) (x : Ex) : Prop := ∃ f, IsE f S w v x

theorem AnE.move {S S' : Nat → Prop} {w w' : World} {v : Value} {x : Ex} (h : AnE S w v x) (hk : ∀ g, S g → g < w.heap.size → S' g ∧ w'.heap[g]? = w.heap[g]?) : AnE S' w' v x := by
  obtain ⟨f, h⟩ := h
  exact ⟨f, IsE.move hk f v x h⟩

/-- many expressions: one fuel for all -/
theorem fuel_all {S : Nat → Prop} {w : World} : ∀ {vs : List Value} {xs : List Ex}, AllP (AnE S w) vs xs → ∃ f, AllP (IsE f S w) vs xs
  | [], [], _ => ⟨0, trivial⟩
  | v :: vs, x :: xs, ⟨⟨f, a⟩, b⟩ => by
    obtain ⟨g, b⟩ := fuel_all b
    refine ⟨max f g, IsE.le (Nat.le_max_left _ _) a, b.imp fun _ _ h => IsE.le (Nat.le_max_right _ _) h⟩
  | [], _ :: _, x => x.elim
  | _ :: _, [], x => x.elim

theorem AnE.mk {S : Nat → Prop} {w : World} {a : Value} (k n : Int) (s : List UInt8) (xs : List Ex) (h : Row S w (AnE S w) a xs) :
    AnE S w (.agg #[.int .i64 k, .int .i64 n, .string ⟨s.toArray⟩, a]) ⟨k, n, s, xs⟩ := by
  obtain ⟨vs, h1, h2⟩ := h
  obtain ⟨f, h2⟩ := fuel_all h2
  exact ⟨f + 1, a, rfl, vs, h1, h2⟩

/-- what an expression's value looks like, whatever it is -/
def ShE (v : Value) : Prop := ∃ k n s a l c, v = .agg #[.int .i64 k, .int .i64 n, .string s, .slice a l c]

theorem AnE.sh {S : Nat → Prop} {w : World} {v : Value} {x : Ex} (h : AnE S w v x) : ShE v := by
  obtain ⟨f, h⟩ := h
  cases f with
  | zero => exact h.elim
  | succ f =>
    obtain ⟨a, rfl, vs, h1, _⟩ := h
    rcases h1 with ⟨rfl, _⟩ | ⟨g, cap, _, _, _, rfl, _⟩
    · exact ⟨_, _, _, _, _, _, rfl⟩
    · exact ⟨_, _, _, _, _, _, rfl⟩
end

section
open Go.RowKit
set_option linter.unusedSimpArgs false
set_option linter.unusedVariables false

theorem idx6_0 (x0 x1 x2 x3 x4 x5 : Value) (w : World) : (Instr.index 107 (.agg #[x0, x1, x2, x3, x4, x5]) (.int .i64 0)).run Tryz.prog w = .ok x0 w := by kernel_rfl
theorem idx6_1 (x0 x1 x2 x3 x4 x5 : Value) (w : World) : (Instr.index 107 (.agg #[x0, x1, x2, x3, x4, x5]) (.int .i64 1)).run Tryz.prog w = .ok x1 w := by kernel_rfl
theorem idx6_2 (x0 x1 x2 x3 x4 x5 : Value) (w : World) : (Instr.index 107 (.agg #[x0, x1, x2, x3, x4, x5]) (.int .i64 2)).run Tryz.prog w = .ok x2 w := by kernel_rfl
theorem idx6_3 (x0 x1 x2 x3 x4 x5 : Value) (w : World) : (Instr.index 107 (.agg #[x0, x1, x2, x3, x4, x5]) (.int .i64 3)).run Tryz.prog w = .ok x3 w := by kernel_rfl
theorem idx6_4 (x0 x1 x2 x3 x4 x5 : Value) (w : World) : (Instr.index 107 (.agg #[x0, x1, x2, x3, x4, x5]) (.int .i64 4)).run Tryz.prog w = .ok x4 w := by kernel_rfl
theorem idx6_5 (x0 x1 x2 x3 x4 x5 : Value) (w : World) : (Instr.index 107 (.agg #[x0, x1, x2, x3, x4, x5]) (.int .i64 5)).run Tryz.prog w = .ok x5 w := by kernel_rfl

theorem idx6 (x0 x1 x2 x3 x4 x5 : Value) (k : Nat) (hk : k < 6) (w : World) :
    (Instr.index 107 (.agg #[x0, x1, x2, x3, x4, x5]) (.int .i64 k)).run Tryz.prog w = .ok ([x0, x1, x2, x3, x4, x5].getD k undef) w := by
  have h : k = 0 ∨ k = 1 ∨ k = 2 ∨ k = 3 ∨ k = 4 ∨ k = 5 := by omega
  rcases h with rfl | rfl | rfl | rfl | rfl | rfl
  · exact idx6_0 _ _ _ _ _ _ _
  · exact idx6_1 _ _ _ _ _ _ _
  · exact idx6_2 _ _ _ _ _ _ _
  · exact idx6_3 _ _ _ _ _ _ _
  · exact idx6_4 _ _ _ _ _ _ _
  · exact idx6_5 _ _ _ _ _ _ _

theorem getD_str6 (s0 s1 s2 s3 s4 s5 : List UInt8) (k : Nat) (hk : k < 6) :
    [Value.string ⟨s0.toArray⟩, .string ⟨s1.toArray⟩, .string ⟨s2.toArray⟩, .string ⟨s3.toArray⟩, .string ⟨s4.toArray⟩, .string ⟨s5.toArray⟩].getD k undef = .string ⟨([s0, s1, s2, s3, s4, s5].getD k []).toArray⟩ := by
  have h : k = 0 ∨ k = 1 ∨ k = 2 ∨ k = 3 ∨ k = 4 ∨ k = 5 := by omega
  rcases h with rfl | rfl | rfl | rfl | rfl | rfl <;> rfl

theorem any6 (x s0 s1 s2 s3 s4 s5 : List UInt8) (k : Nat) (hk : k < 6) (h : (x == [s0, s1, s2, s3, s4, s5].getD k []) = true) : [s0, s1, s2, s3, s4, s5].any (fun o => x == o) = true := by
  rw [List.any_eq_true]
  refine ⟨_, ?_, h⟩
  have h : k = 0 ∨ k = 1 ∨ k = 2 ∨ k = 3 ∨ k = 4 ∨ k = 5 := by omega
  rcases h with rfl | rfl | rfl | rfl | rfl | rfl <;> simp

theorem none6 (x s0 s1 s2 s3 s4 s5 : List UInt8) (h : ∀ j, j < 6 → (x == [s0, s1, s2, s3, s4, s5].getD j []) = false) : [s0, s1, s2, s3, s4, s5].any (fun o => x == o) = false := by
  have h0 := h 0 (by omega); have h1 := h 1 (by omega); have h2 := h 2 (by omega); have h3 := h 3 (by omega); have h4 := h 4 (by omega); have h5 := h 5 (by omega)
  simp at h0 h1 h2 h3 h4 h5 ⊢
  exact ⟨h0, h1, h2, h3, h4, h5⟩

/-- is a piece an operator of a level? -/
def isOpM (t : Tok) (lv : Nat) : Bool := t.kind == 5 && ((levelsL.drop (lv * 6)).take 6).any (fun o => t.s == o)

set_option maxHeartbeats 1000000 in
theorem isOperator_core (t : Tok) (lv : Nat) (hlv : lv < 5) (w : World) (hG : 9 ≤ w.heap.size) (s0 s1 s2 s3 s4 s5 : List UInt8)
    (c0 : w.cell? ⟨8, lv * 6, none⟩ = some (.string ⟨s0.toArray⟩)) (c1 : w.cell? ⟨8, lv * 6 + 1, none⟩ = some (.string ⟨s1.toArray⟩)) (c2 : w.cell? ⟨8, lv * 6 + 2, none⟩ = some (.string ⟨s2.toArray⟩))
    (c3 : w.cell? ⟨8, lv * 6 + 3, none⟩ = some (.string ⟨s3.toArray⟩)) (c4 : w.cell? ⟨8, lv * 6 + 4, none⟩ = some (.string ⟨s4.toArray⟩)) (c5 : w.cell? ⟨8, lv * 6 + 5, none⟩ = some (.string ⟨s5.toArray⟩))
    (r : Bool) (HR : Hid (r = (t.kind == 5 && [s0, s1, s2, s3, s4, s5].any (fun o => t.s == o)))) :
    Calls Tryz.prog 130 #[t.val, .int .i64 lv] w fun e w' => e = .returned (.bool r) ∧ Below w.heap.size w w' := by
  unfold Tok.val
  have h7 : 8 < w.heap.size := by omega
  have hi := fun k hk w' => idx6 (.string ⟨s0.toArray⟩) (.string ⟨s1.toArray⟩) (.string ⟨s2.toArray⟩) (.string ⟨s3.toArray⟩) (.string ⟨s4.toArray⟩) (.string ⟨s5.toArray⟩) k hk w'
  rcases hk5 : (t.kind != 5) with _ | _
  · go_enter Tryz.func130, Tryz.ntmps130
    go_wp2
    have hk6 : (t.kind == 5) = true := by simpa using hk5
    go_loop [13] (fun i => ∃ k : Nat, k ≤ 6 ∧ i = .int .i64 k ∧ ∀ j, j < k → (t.s == [s0, s1, s2, s3, s4, s5].getD j []) = false) (fun i => 6 - (intOf i).toNat)
    case atStart => exact ⟨0, by omega, rfl, fun j hj => by omega⟩
    case round =>
      obtain ⟨k, hk, rfl, hno⟩ := hrel
      by_cases hlt : k < 6
      · have hik := hi k hlt
        rw [getD_str6 _ _ _ _ _ _ _ hlt] at hik
        clear hi
        generalize hs : [s0, s1, s2, s3, s4, s5].getD k [] = sk at *
        have HS : Hid ([s0, s1, s2, s3, s4, s5].getD k [] = sk) := hs
        clear hs
        rcases he : (t.s == sk) with _ | _
        · have HN : Hid (∀ j, j < k → (t.s == [s0, s1, s2, s3, s4, s5].getD j []) = false) := hno
          clear hno
          go_wp2
          go_round
          case rel => exact ⟨k + 1, by omega, by go_num, fun j hj => by
            rcases Nat.lt_or_eq_of_le (Nat.le_of_lt_succ hj) with h | rfl
            · exact HN.out j h
            · rw [HS.out]; exact he⟩
          case measure => simp [intOf]; omega
        · clear hno
          go_wp2
          go_ret
          exact ⟨by rw [HR.out, hk6, any6 _ _ _ _ _ _ _ k hlt (by rw [HS.out]; exact he)]; rfl, (Below.refl _ _).alloc (Nat.le_refl _) _⟩
      · obtain rfl : k = 6 := by omega
        have HN : Hid (∀ j, j < 6 → (t.s == [s0, s1, s2, s3, s4, s5].getD j []) = false) := hno
        clear hno hi
        go_wp2
        go_ret
        exact ⟨by rw [HR.out, none6 _ _ _ _ _ _ _ HN.out, Bool.and_false]; rfl, (Below.refl _ _).alloc (Nat.le_refl _) _⟩
  · have hk6 : (t.kind == 5) = false := by simp at hk5 ⊢; exact hk5
    go_enter Tryz.func130, Tryz.ntmps130
    go_wp2
    go_ret
    exact ⟨by rw [HR.out, hk6]; rfl, (Below.refl _ _).alloc (Nat.le_refl _) _⟩

theorem isOperator_any (t : Tok) (lv : Nat) (hlv : lv < 5) (w : World) (hG : 9 ≤ w.heap.size) (ht : Tab w) :
    Calls Tryz.prog 130 #[t.val, .int .i64 lv] w fun e w' => e = .returned (.bool (isOpM t lv)) ∧ Below w.heap.size w w' := by
  have hc : ∀ i, i < 30 → w.cell? ⟨8, i, none⟩ = some (.string ⟨(levelsL.getD i []).toArray⟩) := fun i hi => ht.lv i hi
  refine isOperator_core t lv hlv w hG _ _ _ _ _ _ (hc _ (by omega)) (hc _ (by omega)) (hc _ (by omega)) (hc _ (by omega)) (hc _ (by omega)) (hc _ (by omega)) _ ?_
  unfold isOpM Hid
  have h : lv = 0 ∨ lv = 1 ∨ lv = 2 ∨ lv = 3 ∨ lv = 4 := by omega
  rcases h with rfl | rfl | rfl | rfl | rfl <;> rfl

/-- which type a piece is; none: it is none -/
def typeM (t : Tok) : Option Nat := if t.kind != 2 then none else (List.range 6).find? (fun j => typeWordsL.getD j [] == t.s)

/-- .. and which piece is next behind it -/
def typeP (t : Tok) (n : Nat) : Nat × Nat := match typeM t with
  | some j => (j, n + 1)
  | none => (0, n)

theorem find6_some {p : Nat → Bool} {k : Nat} (hk : k < 6) (hp : p k = true) (hno : ∀ j, j < k → p j = false) : (List.range 6).find? p = some k := by
  rw [List.find?_range_eq_some]
  exact ⟨hp, by simpa using hk, fun j hj => by simp [hno j hj]⟩

theorem find6_none {p : Nat → Bool} (hno : ∀ j, j < 6 → p j = false) : (List.range 6).find? p = none := by
  rw [List.find?_range_eq_none]
  intro i hi
  simp [hno i hi]

set_option maxHeartbeats 1000000 in
theorem skipType_core (w : World) (b bp cap T : Nat) (ps : List Tok) (q : RS) (h : Rdr w b bp cap T ps q) (s0 s1 s2 s3 s4 s5 : List UInt8)
    (hl : typeWordsL = [s0, s1, s2, s3, s4, s5]) (tv n' : Nat) (HR : Hid ((tv, n') = typeP (cur ps q.next) q.next)) :
    Calls Tryz.prog 43 #[.pointer (some ⟨b, 0, none⟩)] w fun e w' => e = .returned (.int .i64 tv) ∧ Rdr w' b bp cap T ps { q with next := n' } ∧ Kept b w w' := by
  have hty := h.tab.ty
  rw [hl] at hty
  unfold typeP typeM at HR
  rw [hl] at HR
  clear hl
  have c0 := hty 0 (by simp); have c1 := hty 1 (by simp); have c2 := hty 2 (by simp); have c3 := hty 3 (by simp); have c4 := hty 4 (by simp); have c5 := hty 5 (by simp)
  simp at c0 c1 c2 c3 c4 c5
  have hg := World.block_lt_of_cell? w _ c0
  clear hty
  have hfar := h.far
  have hbs := h.bsize
  have hi := fun k hk w' => idx6 (.string ⟨s0.toArray⟩) (.string ⟨s1.toArray⟩) (.string ⟨s2.toArray⟩) (.string ⟨s3.toArray⟩) (.string ⟨s4.toArray⟩) (.string ⟨s5.toArray⟩) k hk w'
  rcases hk2 : ((cur ps q.next).kind != 2) with _ | _
  · rw [hk2] at HR
    have hkk : ((cur ps q.next).kind != 0) = true := by simp at hk2 ⊢; omega
    go_enter Tryz.func43, Tryz.ntmps43
    go_wp2_with fail
    refine (peek_any _ _ _ _ _ _ _ h).mono ?_
    rintro e w1 ⟨rfl, hb1⟩
    have h1 := h.below hb1
    have hs1 := hb1.size
    have d0 := (hb1.cell (p := ⟨1, 0, none⟩) hg).trans c0
    have d1 := (hb1.cell (p := ⟨1, 1, none⟩) hg).trans c1
    have d2 := (hb1.cell (p := ⟨1, 2, none⟩) hg).trans c2
    have d3 := (hb1.cell (p := ⟨1, 3, none⟩) hg).trans c3
    have d4 := (hb1.cell (p := ⟨1, 4, none⟩) hg).trans c4
    have d5 := (hb1.cell (p := ⟨1, 5, none⟩) hg).trans c5
    have hg1 : 1 < w1.heap.size := by omega
    clear c0 c1 c2 c3 c4 c5
    unfold Tok.val
    go_wp2_with fail
    go_loop [12] (fun i => ∃ k : Nat, k ≤ 6 ∧ i = .int .i64 k ∧ ∀ j, j < k → ([s0, s1, s2, s3, s4, s5].getD j [] == (cur ps q.next).s) = false) (fun i => 6 - (intOf i).toNat)
    case atStart => exact ⟨0, by omega, rfl, fun j hj => by omega⟩
    case round =>
      obtain ⟨k, hk, rfl, hno⟩ := hrel
      by_cases hlt : k < 6
      · have hik := hi k hlt
        rw [getD_str6 _ _ _ _ _ _ _ hlt] at hik
        clear hi
        generalize hs : [s0, s1, s2, s3, s4, s5].getD k [] = sk at *
        have HS : Hid ([s0, s1, s2, s3, s4, s5].getD k [] = sk) := hs
        clear hs
        rcases he : (sk == (cur ps q.next).s) with _ | _
        · have HN : Hid (∀ j, j < k → ([s0, s1, s2, s3, s4, s5].getD j [] == (cur ps q.next).s) = false) := hno
          clear hno
          go_wp2_with fail
          go_round
          case rel => exact ⟨k + 1, by omega, by go_num, fun j hj => by
            rcases Nat.lt_or_eq_of_le (Nat.le_of_lt_succ hj) with h | rfl
            · exact HN.out j h
            · rw [HS.out]; exact he⟩
          case measure => simp [intOf]; omega
        · have hf := find6_some (p := fun j => [s0, s1, s2, s3, s4, s5].getD j [] == (cur ps q.next).s) hlt (by show ([s0, s1, s2, s3, s4, s5].getD k [] == _) = true; rw [HS.out]; exact he) hno
          have HF : Hid (tv = k ∧ n' = q.next + 1) := by
            have := HR.out
            rw [hf] at this
            unfold Hid
            simpa using this
          clear hno hf HR
          go_wp2_with fail
          refine (step_any _ _ _ _ _ _ _ (h1.below ((Below.refl _ _).alloc (Nat.le_refl _) _)) hkk).mono ?_
          rintro e w2 ⟨rfl, h2, k2⟩
          go_wp2_with fail
          go_ret
          obtain ⟨rfl, rfl⟩ := HF.out
          exact ⟨rfl, h2, ((Kept.of_below hb1).trans (Kept.of_below ((Below.refl _ _).alloc (Nat.le_refl _) _))).trans k2⟩
      · obtain rfl : k = 6 := by omega
        have hf := find6_none (p := fun j => [s0, s1, s2, s3, s4, s5].getD j [] == (cur ps q.next).s) hno
        have HF : Hid (tv = 0 ∧ n' = q.next) := by
            have := HR.out
            rw [hf] at this
            unfold Hid
            simpa using this
        clear hno hi hf HR
        go_wp2_with fail
        go_ret
        obtain ⟨rfl, rfl⟩ := HF.out
        exact ⟨rfl, h1.below ((Below.refl _ _).alloc (Nat.le_refl _) _), (Kept.of_below hb1).trans (Kept.of_below ((Below.refl _ _).alloc (Nat.le_refl _) _))⟩
  · rw [hk2] at HR
    go_enter Tryz.func43, Tryz.ntmps43
    go_wp2_with fail
    refine (peek_any _ _ _ _ _ _ _ h).mono ?_
    rintro e w1 ⟨rfl, hb1⟩
    have h1 := h.below hb1
    unfold Tok.val
    go_wp2_with fail
    go_ret
    obtain ⟨rfl, rfl⟩ : tv = 0 ∧ n' = q.next := by simpa using HR.out
    exact ⟨rfl, h1.below ((Below.refl _ _).alloc (Nat.le_refl _) _), (Kept.of_below hb1).trans (Kept.of_below ((Below.refl _ _).alloc (Nat.le_refl _) _))⟩

theorem skipType_any (w : World) (b bp cap T : Nat) (ps : List Tok) (q : RS) (h : Rdr w b bp cap T ps q) :
    Calls Tryz.prog 43 #[.pointer (some ⟨b, 0, none⟩)] w fun e w' => e = .returned (.int .i64 (typeP (cur ps q.next) q.next).1) ∧ Rdr w' b bp cap T ps { q with next := (typeP (cur ps q.next) q.next).2 } ∧ Kept b w w' :=
  skipType_core w b bp cap T ps q h _ _ _ _ _ _ rfl _ _ (Prod.eta _)
end

section
open Go.RowKit
set_option linter.unusedSimpArgs false
set_option linter.unusedVariables false

/-- an answer: none: the fuel is spent; else what is wrong (the place, the error), or what was read, and the place of the next piece -/
abbrev R (A : Type) := Option (Sum (Int × Int) (A × Nat))

def okR {A : Type} (a : A) (n : Nat) : R A := some (.inr (a, n))
def badR {A : Type} (k : Int × Int) : R A := some (.inl k)

def bindR {A B : Type} (x : R A) (f : A → Nat → R B) : R B := match x with
  | none => none
  | some (.inl k) => some (.inl k)
  | some (.inr (a, n)) => f a n

def needM (ps : List Tok) (k : Int) (s : List UInt8) (n : Nat) : R Unit := if isT (cur ps n) k s then okR () (n + 1) else badR (refuseM ps n)

/-- items with commas between -/
def listLoop {A : Type} (ps : List Tok) (item : Nat → R A) : Nat → List A → Nat → R (List A)
  | 0, _, _ => none
  | f + 1, acc, n => bindR (item n) fun x n1 => if isT (cur ps n1) 5 [41] then okR (acc ++ [x]) (n1 + 1) else bindR (needM ps 5 [44] n1) fun _ n2 => listLoop ps item f (acc ++ [x]) n2

def listM {A : Type} (ps : List Tok) (item : Nat → R A) (f n : Nat) : R (List A) :=
  bindR (needM ps 5 [40] n) fun _ n1 => if isT (cur ps n1) 5 [41] then okR [] (n1 + 1) else listLoop ps item f [] n1

/-- words that look like calls: the kind, and how many arguments (-1: any) -/
def callLike (s : List UInt8) : Option (Int × Int) :=
  if s == [108, 101, 110] then some (8, 1) else if s == [97, 112, 112, 101, 110, 100] then some (10, 2) else if s == [115, 108, 105, 99, 101] then some (11, -1) else if s == [109, 97, 112] then some (12, 0) else none

def countBad (c : Int) (l : Nat) : Bool := c != -1 && (l : Int) != c

def keywordPartM (ps : List Tok) (E : Nat → Nat → R Ex) (f d n : Nat) : R Ex :=
  if (cur ps n).s == [116, 114, 117, 101] then okR ⟨3, 1, [], []⟩ (n + 1)
  else if (cur ps n).s == [102, 97, 108, 115, 101] then okR ⟨3, 0, [], []⟩ (n + 1)
  else match callLike (cur ps n).s with
    | none => badR (refuseM ps n)
    | some (k, c) => bindR (listM ps (E d) f (n + 1)) fun l n' => if countBad c l.length then badR ((cur ps n).at_, 10) else okR ⟨k, 0, [], l⟩ n'

def namedM (ps : List Tok) (E : Nat → Nat → R Ex) (f d : Nat) (s : List UInt8) (n : Nat) : R Ex :=
  if isT (cur ps n) 5 [40] then bindR (listM ps (E d) f n) fun l n' => okR ⟨7, 0, s, l⟩ n' else okR ⟨4, 0, s, []⟩ n

def bracketedM (ps : List Tok) (E : Nat → Nat → R Ex) (d n : Nat) : R Ex :=
  bindR (needM ps 5 [40] n) fun _ n1 => bindR (E d n1) fun x n2 => bindR (needM ps 5 [41] n2) fun _ n3 => okR x n3

def firstM (ps : List Tok) (E : Nat → Nat → R Ex) (f d n : Nat) : R Ex :=
  if (cur ps n).kind == 3 then okR ⟨1, (cur ps n).n, [], []⟩ (n + 1)
  else if (cur ps n).kind == 4 then okR ⟨2, 0, (cur ps n).s, []⟩ (n + 1)
  else if (cur ps n).kind == 1 then namedM ps E f d (cur ps n).s (n + 1)
  else if (cur ps n).kind == 2 then keywordPartM ps E f d n
  else bracketedM ps E d n

def idxLoop (ps : List Tok) (E : Nat → Nat → R Ex) (d : Nat) : Nat → Ex → Nat → R Ex
  | 0, _, _ => none
  | f + 1, x, n => if isT (cur ps n) 5 [91] then bindR (E d (n + 1)) fun y n1 => bindR (needM ps 5 [93] n1) fun _ n2 => idxLoop ps E d f ⟨9, 0, [], [x, y]⟩ n2 else okR x n

def singleM (ps : List Tok) (E : Nat → Nat → R Ex) : Nat → Nat → Nat → R Ex
  | 0, _, _ => none
  | f + 1, d, n =>
    if isT (cur ps n) 5 [45] || isT (cur ps n) 5 [33] then
      (if 30 ≤ d then badR ((cur ps (n + 1)).at_, 8) else bindR (singleM ps E f (d + 1) (n + 1)) fun x n' => okR ⟨6, 0, (cur ps n).s, [x]⟩ n')
    else bindR (firstM ps E f d n) fun x n' => idxLoop ps E d f x n'

def opLoop (ps : List Tok) (lv : Nat) (sub : Nat → R Ex) : Nat → Ex → Nat → R Ex
  | 0, _, _ => none
  | f + 1, x, n => if isOpM (cur ps n) lv then bindR (sub (n + 1)) fun y n1 => opLoop ps lv sub f ⟨5, 0, (cur ps n).s, [x, y]⟩ n1 else okR x n

/-- k: so many levels bind closer (the level is 5 - k) -/
def opM (ps : List Tok) (E : Nat → Nat → R Ex) (f : Nat) : Nat → Nat → Nat → R Ex
  | 0, d, n => singleM ps E f d n
  | k + 1, d, n => bindR (opM ps E f k d n) fun x n1 => opLoop ps (4 - k) (fun m => opM ps E f k d m) f x n1

def exprM (ps : List Tok) : Nat → Nat → Nat → R Ex
  | 0, _, _ => none
  | f + 1, d, n => if 30 ≤ d then badR ((cur ps n).at_, 8) else opM ps (exprM ps f) f 5 (d + 1) n

/-- what a call that reads one expression leaves -/
def PostE (b bp cap T : Nat) (ps : List Tok) (q : RS) (w : World) (r : Sum (Int × Int) (Ex × Nat)) (e : Ending) (w' : World) : Prop :=
  Kept b w w' ∧ match r with
  | .inl k => ∃ v n', ShE v ∧ e = .returned (.tuple #[v, .bool false]) ∧ Rdr w' b bp cap T ps ⟨n', q.depth, k.1, k.2⟩
  | .inr x => ∃ v, e = .returned (.tuple #[v, .bool true]) ∧ AnE (fun g => w.heap.size ≤ g) w' v x.1 ∧ Rdr w' b bp cap T ps { q with next := x.2 }

/-- the contract of expression, at whatever model -/
def SaidE (ps : List Tok) (E : Nat → Nat → R Ex) : Prop :=
  ∀ (w : World) (b bp cap T : Nat) (q : RS) (r : Sum (Int × Int) (Ex × Nat)), Rdr w b bp cap T ps q → E q.depth q.next = some r →
    Calls Tryz.prog 108 #[.pointer (some ⟨b, 0, none⟩)] w (PostE b bp cap T ps q w r)

theorem bindR_some {A B : Type} {x : R A} {f : A → Nat → R B} {r : Sum (Int × Int) (B × Nat)} (h : bindR x f = some r) :
    (∃ k, x = some (.inl k) ∧ r = .inl k) ∨ (∃ a n, x = some (.inr (a, n)) ∧ f a n = some r) := by
  unfold bindR at h
  split at h
  · cases h
  · exact .inl ⟨_, rfl, by cases h; rfl⟩
  · exact .inr ⟨_, _, rfl, h⟩

theorem needM_some {ps : List Tok} {k : Int} {s : List UInt8} {n : Nat} {r : Sum (Int × Int) (Unit × Nat)} (h : needM ps k s n = some r) :
    (isT (cur ps n) k s = true ∧ r = .inr ((), n + 1)) ∨ (isT (cur ps n) k s = false ∧ r = .inl (refuseM ps n)) := by
  unfold needM at h
  split at h
  · rename_i hT; exact .inl ⟨hT, by cases h; rfl⟩
  · rename_i hT; exact .inr ⟨by simpa using hT, by cases h; rfl⟩
end

section
open Go.RowKit
set_option linter.unusedSimpArgs false
set_option linter.unusedVariables false

theorem Kept.drew {b : Nat} {w w' : World} (h : Kept b w w') : Kept b w w'.drew := ⟨h.os, h.tape, h.output, h.size, h.block⟩

theorem Kept.drewN {b : Nat} {w w' : World} (h : Kept b w w') (n : Nat) : Kept b w (w'.drewN n) := ⟨h.os, h.tape, h.output, h.size, h.block⟩

/-- a block of one's own has been written: whatever else was kept is kept -/
theorem Kept.own {b x : Nat} {w w1 w2 : World} (h : Kept b w w1) (k : Kept x w1 w2) (hx : w.heap.size ≤ x) : Kept b w w2 :=
  ⟨k.os.trans h.os, k.tape.trans h.tape, k.output.trans h.output, Nat.le_trans h.size k.size,
   fun i hi hb => (k.block i (Nat.lt_of_lt_of_le hi h.size) (by omega)).trans (h.block i hi hb)⟩

theorem Rdr.own {w w' : World} {b bp cap T x : Nat} {ps : List Tok} {q : RS} (h : Rdr w b bp cap T ps q) (k : Kept x w w') (hb : x ≠ b) (hp : x ≠ bp) (hg : 9 ≤ x) : Rdr w' b bp cap T ps q := by
  refine ⟨by rw [k.block b h.bsize (fun e => hb e.symm)]; exact h.blk, ?_, h.ne, Nat.lt_of_lt_of_le h.lt k.size, h.nx, h.len, h.dp, h.tab.same (fun g hgs hlt => k.block g hgs (by omega)), h.far, h.fin⟩
  intro i hi
  have := h.row i hi
  rw [← k.cell bp (i * 4) h.lt (fun e => hp e.symm), ← k.cell bp (i * 4 + 1) h.lt (fun e => hp e.symm), ← k.cell bp (i * 4 + 2) h.lt (fun e => hp e.symm), ← k.cell bp (i * 4 + 3) h.lt (fun e => hp e.symm)] at this
  exact this

theorem AnE.own {S S' : Nat → Prop} {w w' : World} {x : Nat} {v : Value} {t : Ex} (h : AnE S w v t) (k : Kept x w w') (hs : ∀ g, S g → g ≠ x ∧ S' g) : AnE S' w' v t :=
  h.move fun g hS hg => ⟨(hs g hS).2, k.block g hg (hs g hS).1⟩

theorem store4 {w : World} {x : Nat} {T : TypeId} {f : Nat × Nat} {c0 c1 c2 c3 : Value} (h : w.heap[x]? = some (.cells #[c0, c1, c2, c3] T f)) (v0 v1 v2 v3 : Value) :
    ((((w.setCell ⟨x, 0, none⟩ v0).setCell ⟨x, 1, none⟩ v1).setCell ⟨x, 2, none⟩ v2).setCell ⟨x, 3, none⟩ v3).heap[x]? = some (.cells #[v0, v1, v2, v3] T f) := by
  rw [heap_setCell_same (heap_setCell_same (heap_setCell_same (heap_setCell_same h _) _) _)]
  simp

theorem kept4 (x : Nat) (w : World) (v0 v1 v2 v3 : Value) : Kept x w ((((w.setCell ⟨x, 0, none⟩ v0).setCell ⟨x, 1, none⟩ v1).setCell ⟨x, 2, none⟩ v2).setCell ⟨x, 3, none⟩ v3) :=
  ((((Kept.refl _ _).setCell _ _).setCell _ _).setCell _ _).setCell _ _

theorem cells4 {w : World} {x : Nat} {T : TypeId} {f : Nat × Nat} {c0 c1 c2 c3 : Value} (h : w.heap[x]? = some (.cells #[c0, c1, c2, c3] T f)) :
    w.cell? ⟨x, 0, none⟩ = some c0 ∧ w.cell? ⟨x, 1, none⟩ = some c1 ∧ w.cell? ⟨x, 2, none⟩ = some c2 ∧ w.cell? ⟨x, 3, none⟩ = some c3 := by
  simp [World.cell?, h]

theorem thaw4 {w : World} {x : Nat} {T : TypeId} {c : Array Value} (h : w.heap[x]? = some (.cells c T (0, 0))) (o : Nat) : w.frozen? ⟨x, o, none⟩ = false := by
  simp [World.frozen?, h]

theorem fin_expr {fn : Func} {Q : Ending → World → Prop} {a : Act} {w : World} {rt st x : Nat} {v0 v1 v2 v3 : Value} {ok : Bool} {T : TypeId} {f : Nat × Nat}
    (hres : fn.results = #[.cell rt 116, .tmp st]) (hp : a.tmps.getD rt undef = .pointer (some ⟨x, 0, none⟩)) (ho : a.tmps.getD st undef = .bool ok) (hd : a.defers = [])
    (hblk : w.heap[x]? = some (.cells #[v0, v1, v2, v3] T f)) (hQ : Q (.returned (.tuple #[.agg #[v0, v1, v2, v3], .bool ok])) w) : bodyPost Tryz.prog fn Q Exit.ret a w := by
  obtain ⟨q0, q1, q2, q3⟩ := cells4 hblk
  simp only [Array.getD_eq_getD_getElem?] at hp ho
  exact bodyPost_ret (v := .tuple #[.agg #[v0, v1, v2, v3], .bool ok]) (by simp [results, hres, hp, ho, go_sem, q0, q1, q2, q3]) hd hQ

theorem Kept.alloc {b : Nat} {w w' : World} (h : Kept b w w') (o : Obj) : Kept b w (w'.alloc o) :=
  h.trans (Kept.of_below ((Below.refl _ _).alloc (Nat.le_refl _) _))

theorem blk_alloc {w : World} {x : Nat} {o' : Obj} (h : w.heap[x]? = some o') (o : Obj) : (w.alloc o).heap[x]? = some o' := by
  have hx : x < w.heap.size := by
    rcases Nat.lt_or_ge x w.heap.size with hb | hb
    · exact hb
    · rw [Array.getElem?_eq_none hb] at h; cases h
  rw [Below.heap_alloc _ _ _ hx]; exact h

theorem blk_drew {w : World} {x : Nat} {o' : Obj} (h : w.heap[x]? = some o') : w.drew.heap[x]? = some o' := h

/-- the end of a call that reads an expression, where something is wrong -/
theorem postE_bad {b bp cap T : Nat} {ps : List Tok} {q : RS} {w w2 W : World} {k : Int × Int} {n' x : Nat} {v0 v1 : Int} {v2 : ByteArray} {a3 : Option Addr} {l3 c3 : Nat} (h : Rdr w b bp cap T ps q)
    (kw : Kept b w w2) (kx : Kept x w2 W) (hx : w.heap.size ≤ x) (hR : Rdr w2 b bp cap T ps ⟨n', q.depth, k.1, k.2⟩) :
    PostE b bp cap T ps q w (.inl k) (.returned (.tuple #[.agg #[.int .i64 v0, .int .i64 v1, .string v2, .slice a3 l3 c3], .bool false])) W := by
  have h1 := h.bsize; have h2 := h.lt; have h3 := h.far
  exact ⟨kw.own kx hx, _, n', ⟨_, _, _, _, _, _, rfl⟩, rfl, hR.own kx (by omega) (by omega) (by omega)⟩

/-- .. and where nothing is -/
theorem postE_ok {b bp cap T : Nat} {ps : List Tok} {q : RS} {w w2 W : World} {t : Ex} {n' x : Nat} {v : Value} (h : Rdr w b bp cap T ps q)
    (kw : Kept b w w2) (kx : Kept x w2 W) (hx : w.heap.size ≤ x) (hR : Rdr w2 b bp cap T ps { q with next := n' }) (hA : AnE (fun g => w.heap.size ≤ g ∧ g ≠ x) w2 v t) :
    PostE b bp cap T ps q w (.inr (t, n')) (.returned (.tuple #[v, .bool true])) W := by
  have h1 := h.bsize; have h2 := h.lt; have h3 := h.far
  exact ⟨kw.own kx hx, v, rfl, hA.own kx fun g hg => ⟨hg.2, hg.1⟩, hR.own kx (by omega) (by omega) (by omega)⟩

set_option maxHeartbeats 1000000 in
theorem bracketed_any {ps : List Tok} {E : Nat → Nat → R Ex} (hE : SaidE ps E) (w : World) (b bp cap T : Nat) (q : RS) (r : Sum (Int × Int) (Ex × Nat)) (h : Rdr w b bp cap T ps q)
    (hr : bracketedM ps E q.depth q.next = some r) :
    Calls Tryz.prog 136 #[.pointer (some ⟨b, 0, none⟩)] w (PostE b bp cap T ps q w r) := by
  have hbs := h.bsize
  have hps := h.lt
  have hfar := h.far
  unfold bracketedM at hr
  rcases bindR_some hr with ⟨k, h1, rfl⟩ | ⟨u, n1, h1, h2⟩
  · rcases needM_some h1 with ⟨hT, h3⟩ | ⟨hT, h3⟩
    · cases h3
    · cases h3
      clear hr h1
      go_enter Tryz.func136, Tryz.ntmps136
      go_wp2_with fail
      refine (mark_no _ _ _ _ _ _ _ _ (h.below ((Below.refl _ _).alloc (Nat.le_refl _) _)) hT).mono ?_
      rintro e w1 ⟨rfl, h1, k1⟩
      have hc := fun o => k1.cell w.heap.size o (by simp) (by omega)
      have hf := fun o => k1.frozen w.heap.size o (by simp) (by omega)
      go_wp2_with fail
      have hblk := k1.block w.heap.size (by simp) (by omega)
      rw [heap_alloc_new] at hblk
      have kx := kept4 w.heap.size w1 (.int .i64 0) (.int .i64 0) (.string ⟨#[]⟩) (.slice none 0 0)
      exact fin_expr Tryz.results136 rfl rfl rfl (store4 hblk _ _ _ _)
        ⟨((Kept.of_below ((Below.refl _ _).alloc (Nat.le_refl _) _)).trans k1).own kx (Nat.le_refl _), _, _, ⟨_, _, _, _, _, _, rfl⟩, rfl, h1.own kx (by omega) (by omega) (by omega)⟩
  · rcases needM_some h1 with ⟨hT, h3⟩ | ⟨hT, h3⟩
    · cases h3
      clear hr h1
      go_enter Tryz.func136, Tryz.ntmps136
      go_wp2_with fail
      refine (mark_yes _ _ _ _ _ _ _ _ (h.below ((Below.refl _ _).alloc (Nat.le_refl _) _)) hT).mono ?_
      rintro e w1 ⟨rfl, h1, k1⟩
      have hblk := k1.block w.heap.size (by simp) (by omega)
      rw [heap_alloc_new] at hblk
      have hs1 := k1.size
      simp at hs1
      go_wp2_with fail
      rcases bindR_some h2 with ⟨k, h3, rfl⟩ | ⟨x, n2, h3, h4⟩
      · refine (hE _ _ _ _ _ _ _ h1 h3).mono ?_
        rintro e w2 ⟨k2, v, n', ⟨v0, v1, v2, a3, l3, c3, rfl⟩, rfl, h2'⟩
        have hc2 := k2.block w.heap.size (by omega) (by omega)
        rw [hblk] at hc2
        have hs2 := k2.size
        obtain ⟨z0, z1, z2, z3⟩ := cells4 hc2
        go_wp2_with fail
        have hz := thaw4 hc2
        have hlt2 : w.heap.size < w2.heap.size := by omega
        go_region
        go_wp2_with fail
        exact fin_expr Tryz.results136 rfl rfl rfl (blk_drew (blk_alloc (store4 hc2 _ _ _ _) _)) (postE_bad h (((Kept.refl _ _).alloc _).trans (k1.trans k2)) ((kept4 _ _ _ _ _ _).alloc _).drew (Nat.le_refl _) h2')
      · refine (hE _ _ _ _ _ _ _ h1 h3).mono ?_
        rintro e w2 ⟨k2, v, rfl, hA, h2'⟩
        obtain ⟨v0, v1, v2, a3, l3, c3, rfl⟩ := hA.sh
        have hc2 := k2.block w.heap.size (by omega) (by omega)
        rw [hblk] at hc2
        have hs2 := k2.size
        obtain ⟨z0, z1, z2, z3⟩ := cells4 hc2
        go_wp2_with fail
        have hz := thaw4 hc2
        have hlt2 : w.heap.size < w2.heap.size := by omega
        rcases bindR_some h4 with ⟨k, h5, rfl⟩ | ⟨u, n3, h5, h6⟩
        · rcases needM_some h5 with ⟨hT2, h7⟩ | ⟨hT2, h7⟩
          · cases h7
          · cases h7
            go_region_with (go_at_call 61; refine (mark_no _ _ _ _ _ _ _ _ (h2'.below (((Below.refl _ _).alloc (Nat.le_refl _) _).drew)) hT2).mono ?_; rintro e w3 ⟨rfl, h3', k3⟩; have hx3 := (k3.block w.heap.size (by simp; omega) (by omega)).trans (blk_drew (blk_alloc hc2 _)); have hy3 := (k3.block w2.heap.size (by simp) (by omega)).trans (heap_alloc_new w2 _); obtain ⟨p0, p1, p2, p3⟩ := cells4 hx3; obtain ⟨y0, y1, y2, y3⟩ := cells4 hy3; have hzz := thaw4 hx3)
            all_goals
              go_wp2_with fail
              exact fin_expr Tryz.results136 rfl rfl rfl (store4 hx3 _ _ _ _) (postE_bad h (((Kept.refl _ _).alloc _).trans (k1.trans (k2.trans (((Kept.refl _ _).alloc _).drew.trans k3)))) (kept4 _ _ _ _ _ _) (Nat.le_refl _) h3')
        · rcases needM_some h5 with ⟨hT2, h7⟩ | ⟨hT2, h7⟩
          · cases h7
            cases h6
            go_region_with (go_at_call 61; refine (mark_yes _ _ _ _ _ _ _ _ (h2'.below (((Below.refl _ _).alloc (Nat.le_refl _) _).drew)) hT2).mono ?_; rintro e w3 ⟨rfl, h3', k3⟩; have hx3 := (k3.block w.heap.size (by simp; omega) (by omega)).trans (blk_drew (blk_alloc hc2 _)); have hy3 := (k3.block w2.heap.size (by simp) (by omega)).trans (heap_alloc_new w2 _); obtain ⟨p0, p1, p2, p3⟩ := cells4 hx3; obtain ⟨y0, y1, y2, y3⟩ := cells4 hy3; have hzz := thaw4 hx3)
            all_goals
              go_wp2_with fail
              exact fin_expr Tryz.results136 rfl rfl rfl (store4 hx3 _ _ _ _) (postE_ok h (((Kept.refl _ _).alloc _).trans (k1.trans (k2.trans (((Kept.refl _ _).alloc _).drew.trans k3)))) (kept4 _ _ _ _ _ _) (Nat.le_refl _) h3' (hA.move fun g hg hlt => ⟨by omega, (((Kept.refl b _).alloc _).drew.trans k3).block g hlt (by omega)⟩))
          · cases h7
    · cases h3
end

end Go.Proofs.YtbpnfoihonehgabGreatDoor
