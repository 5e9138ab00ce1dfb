/-
  The machine of package ir, plain: its state, how it lies in memory, what a world keeps of it.
-/
import Derived.Test.YtbpnfoihonehgadDoorIaN
import Derived.Deep.AppendLies
import Derived.Lib.AppendZerosOnto
import Derived.Lib.LaidTab
import Derived.Lib.ItoaNum
namespace Go.Proofs.YtbpnfoihonehgadDoor
open Go.RowKit Go.Maps
set_option linter.unusedSimpArgs false
set_option linter.unusedVariables false

/-- the machine, in its first call: what is left of the block, and the variables -/
structure Mst where
  heap : List Int
  room : Int
  lines : List (List UInt8)
  next : List Ins
  vars : List Int
deriving Inhabited

def numV (n : Int) : Value := .int .i64 n
def strV (s : List UInt8) : Value := .string ⟨s.toArray⟩
def numsL (xs : List Int) : List Value := xs.map numV
def strsL (xs : List (List UInt8)) : List Value := xs.map strV

/-! ### rows of one's own -/
theorem own_same {w w' : World} {base size n : Nat} {e : TypeId} {v : Value} {xs : List Value} (h : w.ownsRow base e size v n xs) (hb : ∀ g, v.ownBlock = some g → w'.heap[g]? = w.heap[g]?) :
    w'.ownsRow base e size v n xs := by
  refine ⟨h.1, ?_⟩
  rcases h.2 with h2 | ⟨g, cap, cur, hv, hg, hh, r⟩
  · exact Or.inl h2
  · subst hv
    exact Or.inr ⟨g, cap, cur, rfl, hg, by rw [hb g rfl]; exact hh, r⟩

theorem own_slice {w : World} {base size n : Nat} {e : TypeId} {v : Value} {xs : List Value} (h : w.ownsRow base e size v n xs) : ∃ a c, v = .slice a n c := by
  rcases h.2 with ⟨rfl, rfl⟩ | ⟨g, cap, cur, rfl, _⟩
  · exact ⟨_, _, rfl⟩
  · exact ⟨_, _, rfl⟩

theorem own_cap {w : World} {base size n : Nat} {e : TypeId} {a : Option Addr} {c : Nat} {xs : List Value} (h : w.ownsRow base e size (.slice a n c) n xs) : n ≤ c ∧ c ≤ maxLen := by
  rcases h.2 with ⟨h1, rfl⟩ | ⟨g, cap, cur, hv, _, _, h2, h3, _⟩
  · cases h1; exact ⟨Nat.le_refl _, Nat.zero_le _⟩
  · cases hv; exact ⟨h2, h3⟩

theorem own_at {w : World} {base size n : Nat} {e : TypeId} {v : Value} {xs : List Value} (h : w.ownsRow base e size v n xs) (hn : 0 < n) :
    ∃ g cap, v = .slice (some ⟨g, 0, none⟩) n cap ∧ base ≤ g ∧ g < w.heap.size ∧ n ≤ cap ∧ cap ≤ maxLen ∧ (∀ o, w.frozen? ⟨g, o, none⟩ = false) ∧ ∀ j u, xs[j]? = some u → w.cell? ⟨g, j, none⟩ = some u := by
  rcases h.2 with ⟨_, h0⟩ | ⟨g, cap, cur, hv, hb, hg, h2, h3, h4, h5⟩
  · omega
  · subst hv
    have hc := h.cells (g := g) rfl
    refine ⟨g, cap, rfl, hb, lt_of_block hg, h2, h3, fun o => by simp [World.frozen?, hg], fun j u hu => ?_⟩
    have := hc j u hu
    rwa [show (⟨g, 0, none⟩ : Addr).add j = ⟨g, j, none⟩ from by unfold Addr.add; split <;> simp_all] at this

/-- one cell is written -/
theorem own_set {w : World} {base size n g cap : Nat} {e : TypeId} {xs : List Value} (h : w.ownsRow base e size (.slice (some ⟨g, 0, none⟩) n cap) n xs) (j : Nat) (u : Value) (hj : j < n * size) :
    (w.setCell ⟨g, j, none⟩ u).ownsRow base e size (.slice (some ⟨g, 0, none⟩) n cap) n (xs.set j u) := by
  obtain ⟨h1, h2⟩ := h
  refine ⟨by simpa using h1, ?_⟩
  rcases h2 with ⟨h2, _⟩ | ⟨g', cap', cur, hv, hb, hh, hn, hc, hs, ht⟩
  · cases h2
  · cases hv
    refine .inr ⟨g, cap, _, rfl, hb, heap_setCell_same hh u, hn, hc, by simpa using hs, ?_⟩
    rw [Array.toList_setIfInBounds, List.take_set, ht]

/-- a row is cut -/
theorem own_cut {w : World} {base size n k g cap : Nat} {e : TypeId} {xs : List Value} (h : w.ownsRow base e size (.slice (some ⟨g, 0, none⟩) n cap) n xs) (hk : k ≤ n) :
    w.ownsRow base e size (.slice (some ⟨g, 0, none⟩) k cap) k (xs.take (k * size)) := by
  obtain ⟨h1, h2⟩ := h
  have hle : k * size ≤ n * size := Nat.mul_le_mul_right _ hk
  refine ⟨by rw [List.length_take, h1, Nat.min_eq_left hle], ?_⟩
  rcases h2 with ⟨h2, _⟩ | ⟨g', cap', cur, hv, hb, hh, hn, hc, hs, ht⟩
  · cases h2
  · cases hv
    exact .inr ⟨g, cap, cur, rfl, hb, hh, Nat.le_trans hk hn, hc, hs, by rw [← ht, List.take_take, Nat.min_eq_left hle]⟩

theorem numsL_get (xs : List Int) (j : Nat) (x : Int) (h : xs[j]? = some x) : (numsL xs)[j]? = some (numV x) := by simp [numsL, h]
theorem numsL_len (xs : List Int) : (numsL xs).length = xs.length := by simp [numsL]
theorem strsL_len (xs : List (List UInt8)) : (strsL xs).length = xs.length := by simp [strsL]
theorem numsL_set (xs : List Int) (j : Nat) (x : Int) : (numsL xs).set j (numV x) = numsL (xs.set j x) := by simp [numsL, List.map_set]
theorem numsL_take (xs : List Int) (j : Nat) : (numsL xs).take j = numsL (xs.take j) := by simp [numsL, List.map_take]
theorem numsL_append (xs ys : List Int) : numsL xs ++ numsL ys = numsL (xs ++ ys) := by simp [numsL]
theorem strsL_append (xs ys : List (List UInt8)) : strsL xs ++ strsL ys = strsL (xs ++ ys) := by simp [strsL]
theorem nums_one (xs : List Int) : ∀ u ∈ numsL xs, u.oneCell' = true := by
  intro u hu
  obtain ⟨x, _, rfl⟩ := List.mem_map.1 hu
  rfl

/-! ### the table of powers of ten -/
def TabP (w : World) : Prop := Lib.TabIs Tryd.prog w "internal/strconv.uint64pow10" .u64 Lib.pow10Tab

theorem named_pow : Tryd.prog.globalNamed "internal/strconv.uint64pow10" = some 0 := by kernel_rfl

theorem TabP.below {w w' : World} {B : Nat} (h : TabP w) (hB : 0 < B) (k : Below B w w') : TabP w' := by
  unfold TabP Lib.TabIs World.var? at *
  rw [named_pow, Option.bind_some] at h ⊢
  rw [k.block _ hB]
  exact h

/-! ### the machine in memory; col: of which of its rows a block is (0: of none) -/
structure Mach (w : World) (col : Nat → Nat) (B m mp : Nat) (vf : Value) (fs : List Cod) (vh vl vc vv : Value) (q : Mst) : Prop where
  blk : w.heap[m]? = some (.cells #[vf, .map (some mp), vh, .int .i64 q.room, vl, vc, vv] 50)
  cods : Cods B w vf fs
  pl : MapAt w mp (plD 0 (.map []) fs)
  heap : w.ownsRow B 3 1 vh q.heap.length (numsL q.heap)
  lines : w.ownsRow B 9 1 vl q.lines.length (strsL q.lines)
  calls : ∃ vb vn vr, w.ownsRow B 67 4 vc 1 [vb, vn, numV 0, vr] ∧ (∃ a n c, vb = .slice a n c) ∧ Blk B w vn q.next ∧ (∃ a n c, vr = .slice a n c) ∧ ∃ a c, vn = .slice a q.next.length c ∧ q.next.length ≤ c
  vars : w.ownsRow B 3 1 vv q.vars.length (numsL q.vars)
  nv : 0 < q.vars.length
  lv : q.vars.length ≤ 3000
  iv : ∀ x ∈ q.vars, I64 x
  ih : ∀ x ∈ q.heap, I64 x
  lh : q.heap.length ≤ 40000
  ll : q.lines.length ≤ 2000
  cm : col m = 1
  cp : col mp = 0
  ch : ∀ k, vh.ownBlock = some k → col k = 3
  cl : ∀ k, vl.ownBlock = some k → col k = 4
  cc : ∀ k, vc.ownBlock = some k → col k = 5
  cv : ∀ k, vv.ownBlock = some k → col k = 6
  lo : ∀ k, col k ≠ 0 → B ≤ k ∧ k < w.heap.size
  bw : B ≤ w.heap.size
  tp : TabP w
  gB : 0 < B

/-- what a world keeps: all blocks that are not the machine's -/
structure Fr (w : World) (col : Nat → Nat) (w' : World) (col' : Nat → Nat) : Prop where
  os : w'.os = w.os
  tape : w'.tape = w.tape
  output : w'.output = w.output
  size : w.heap.size ≤ w'.heap.size
  block : ∀ k, k < w.heap.size → col k = 0 → w'.heap[k]? = w.heap[k]? ∧ col' k = 0

theorem Fr.refl (w : World) (col : Nat → Nat) : Fr w col w col := ⟨rfl, rfl, rfl, Nat.le_refl _, fun _ _ h => ⟨rfl, h⟩⟩

theorem Fr.trans {u v w : World} {a b c : Nat → Nat} (h : Fr u a v b) (k : Fr v b w c) : Fr u a w c :=
  ⟨k.os.trans h.os, k.tape.trans h.tape, k.output.trans h.output, Nat.le_trans h.size k.size, fun i hi h0 => by
    have h1 := h.block i hi h0
    have h2 := k.block i (Nat.lt_of_lt_of_le hi h.size) h1.2
    exact ⟨h2.1.trans h1.1, h2.2⟩⟩

/-- nothing old is turned -/
theorem Fr.of_below {w w' : World} (col : Nat → Nat) (h : Below w.heap.size w w') : Fr w col w' col := ⟨h.os, h.tape, h.output, h.size, fun k hk h0 => ⟨h.block k hk, h0⟩⟩

theorem Fr.below {w w' : World} {col col' : Nat → Nat} {B : Nat} (h : Fr w col w' col') (hB : B ≤ w.heap.size) (h0 : ∀ k, k < B → col k = 0) : Below B w w' :=
  ⟨h.os, h.tape, h.output, h.size, fun k hk => (h.block k (by omega) (h0 k hk)).1⟩

theorem Mach.low {w : World} {col : Nat → Nat} {B m mp : Nat} {vf : Value} {fs : List Cod} {vh vl vc vv : Value} {q : Mst} (h : Mach w col B m mp vf fs vh vl vc vv q) : ∀ k, k < B → col k = 0 := by
  intro k hk
  rcases Nat.eq_zero_or_pos (col k) with h0 | h0
  · exact h0
  · have := (h.lo k (by omega)).1; omega

theorem Mach.new {w : World} {col : Nat → Nat} {B m mp : Nat} {vf : Value} {fs : List Cod} {vh vl vc vv : Value} {q : Mst} (h : Mach w col B m mp vf fs vh vl vc vv q) : ∀ k, w.heap.size ≤ k → col k = 0 := by
  intro k hk
  rcases Nat.eq_zero_or_pos (col k) with h0 | h0
  · exact h0
  · have := (h.lo k (by omega)).2; omega

theorem Mach.mlt {w : World} {col : Nat → Nat} {B m mp : Nat} {vf : Value} {fs : List Cod} {vh vl vc vv : Value} {q : Mst} (h : Mach w col B m mp vf fs vh vl vc vv q) : m < w.heap.size := lt_of_block h.blk

/-- the machine is as it was where its blocks are -/
theorem Mach.keep {w w' : World} {col : Nat → Nat} {B m mp : Nat} {vf : Value} {fs : List Cod} {vh vl vc vv : Value} {q : Mst} (h : Mach w col B m mp vf fs vh vl vc vv q) (k : Below w.heap.size w w') : Mach w' col B m mp vf fs vh vl vc vv q := by
  have hB : Below B w w' := k.mono h.bw
  obtain ⟨vb, vn, vr, hc1, hc2, hc3, hc4⟩ := h.calls
  exact ⟨(k.block m h.mlt).trans h.blk, h.cods.below hB, h.pl.same (k.block mp h.pl.lt), own_same h.heap fun g hg => k.block g (h.heap.lt g hg).2, own_same h.lines fun g hg => k.block g (h.lines.lt g hg).2,
    ⟨vb, vn, vr, own_same hc1 fun g hg => k.block g (hc1.lt g hg).2, hc2, hc3.below hB, hc4⟩, own_same h.vars fun g hg => k.block g (h.vars.lt g hg).2, h.nv, h.lv, h.iv, h.ih, h.lh, h.ll, h.cm, h.cp, h.ch, h.cl, h.cc, h.cv,
    fun k0 h0 => ⟨(h.lo k0 h0).1, Nat.lt_of_lt_of_le (h.lo k0 h0).2 k.size⟩, Nat.le_trans h.bw k.size, h.tp.below h.gB hB, h.gB⟩

theorem Mach.alloc {w : World} {col : Nat → Nat} {B m mp : Nat} {vf : Value} {fs : List Cod} {vh vl vc vv : Value} {q : Mst} (h : Mach w col B m mp vf fs vh vl vc vv q) (o : Obj) : Mach (w.alloc o) col B m mp vf fs vh vl vc vv q := h.keep (below_alloc w o)

/-- the seven cells of the machine -/
theorem Mach.cells {w : World} {col : Nat → Nat} {B m mp : Nat} {vf : Value} {fs : List Cod} {vh vl vc vv : Value} {q : Mst} (h : Mach w col B m mp vf fs vh vl vc vv q) :
    w.cell? ⟨m, 0, none⟩ = some vf ∧ w.cell? ⟨m, 1, none⟩ = some (.map (some mp)) ∧ w.cell? ⟨m, 2, none⟩ = some vh ∧ w.cell? ⟨m, 3, none⟩ = some (.int .i64 q.room) ∧ w.cell? ⟨m, 4, none⟩ = some vl ∧ w.cell? ⟨m, 5, none⟩ = some vc ∧ w.cell? ⟨m, 6, none⟩ = some vv := by
  simp [World.cell?, h.blk]

theorem Mach.thaw {w : World} {col : Nat → Nat} {B m mp : Nat} {vf : Value} {fs : List Cod} {vh vl vc vv : Value} {q : Mst} (h : Mach w col B m mp vf fs vh vl vc vv q) (o : Nat) : w.frozen? ⟨m, o, none⟩ = false := by
  simp [World.frozen?, h.blk]

end Go.Proofs.YtbpnfoihonehgadDoor
