/-
  The machine's rows grow: words are allocated, lines are printed.
-/
import Derived.Test.YtbpnfoihonehgadDoorJaF
namespace Go.Proofs.YtbpnfoihonehgadDoor
open Go.RowKit
set_option linter.unusedSimpArgs false
set_option linter.unusedVariables false

variable {w : World} {col : Nat → Nat} {B m mp : Nat} {vf : Value} {fs : List Cod} {vh vl vc vv : Value} {q : Mst}

theorem infoParts {e : TypeId} {z : Value} {s b : Nat} (h : (Tryd.prog.info? e).map (fun i => (i.zero, i.size, i.bytes)) = some (some z, s, b)) : ∃ i, Tryd.prog.info? e = some i ∧ i.zero = some z ∧ i.size = s ∧ i.bytes = b := by
  cases hi : Tryd.prog.info? e with
  | none => rw [hi] at h; cases h
  | some i =>
    rw [hi] at h
    simp only [Option.map_some, Option.some.injEq, Prod.mk.injEq] at h
    exact ⟨i, rfl, h.1, h.2.1, h.2.2⟩

theorem infoInt : (Tryd.prog.info? 3).map (fun i => (i.zero, i.size, i.bytes)) = some (some (.int .i64 0), 1, 8) := by kernel_rfl
theorem infoStr : (Tryd.prog.info? 9).map (fun i => (i.zero, i.size, i.bytes)) = some (some (.string ⟨#[]⟩), 1, 16) := by kernel_rfl

/-- a block's own mark -/
def colAt (col : Nat → Nat) (v : Value) (c : Nat) : Nat → Nat := fun k => if v.ownBlock = some k then c else col k

theorem colAt_other {col : Nat → Nat} {v : Value} {c k : Nat} (h : v.ownBlock ≠ some k) : colAt col v c k = col k := by unfold colAt; rw [if_neg h]

/-- a row has grown, and the machine's own cell says so -/
structure Grew (w w1 : World) (col : Nat → Nat) (c : Nat) (v v' : Value) : Prop where
  grown : w.grownBy w1 v.ownBlock
  at_ : v'.ownBlock = v.ownBlock ∨ v'.ownBlock = some w.heap.size
  col : ∀ k, v.ownBlock = some k → col k = c

theorem Grew.keep {w w1 : World} {c : Nat} {v v' : Value} (h : Grew w w1 col c v v') (m o : Nat) (u : Value) {k : Nat} (hk : k < w.heap.size) (hc : col k ≠ c) (hm : k ≠ m) : (w1.setCell ⟨m, o, none⟩ u).heap[k]? = w.heap[k]? :=
  (Below.heap_setCell _ _ _ _ (fun e => hm e)).trans (h.grown.block k hk (fun e => hc (h.col k e.symm)))

theorem Grew.mark {w w1 : World} {c : Nat} {v v' : Value} (h : Grew w w1 col c v v') {k : Nat} (hk : k < w.heap.size) (hc : col k ≠ c) : v'.ownBlock ≠ some k := by
  intro e
  rcases h.at_ with h1 | h1
  · exact hc (h.col k (h1 ▸ e))
  · rw [h1] at e; injection e with e; omega

theorem Mach.putHeap {w1 : World} {v' : Value} {xs : List Int} (h : Mach w col B m mp vf fs vh vl vc vv q) (hg : Grew w w1 col 3 vh v') (ho : w1.ownsRow B 3 1 v' xs.length (numsL xs)) (hx : ∀ x ∈ xs, I64 x) (hl : xs.length ≤ 40000) :
    Mach (w1.setCell ⟨m, 2, none⟩ v') (colAt col v' 3) B m mp vf fs v' vl vc vv { q with heap := xs } ∧ Fr w col (w1.setCell ⟨m, 2, none⟩ v') (colAt col v' 3) := by
  have hsz : (w1.setCell ⟨m, 2, none⟩ v').heap.size = w1.heap.size := by simp [World.setCell]
  have hge := hg.grown.size
  have hB : Below B w (w1.setCell ⟨m, 2, none⟩ v') := ⟨hg.grown.os, hg.grown.tape, hg.grown.output, by rw [hsz]; exact hge, fun k hk => hg.keep m 2 v' (Nat.lt_of_lt_of_le hk h.bw) (by rw [h.low k hk]; decide) (fun e => by have := h.cm; rw [← e, h.low k hk] at this; cases this)⟩
  have hne : ∀ g, g < w.heap.size → col g ≠ 3 → col g ≠ 1 → (w1.setCell ⟨m, 2, none⟩ v').heap[g]? = w.heap[g]? := fun g hlt h3 h1 => hg.keep m 2 v' hlt h3 (fun e => h1 (by rw [e]; exact h.cm))
  have hcl : ∀ g, g < w.heap.size → col g ≠ 3 → colAt col v' 3 g = col g := fun g hlt h3 => colAt_other (hg.mark hlt h3)
  have hmb : w1.heap[m]? = w.heap[m]? := hg.grown.block m h.mlt (fun e => by have := hg.col m e.symm; rw [h.cm] at this; cases this)
  obtain ⟨vb, vn, vr, hc1, hc2, hc3, hc4⟩ := h.calls
  have hvm : v'.ownBlock ≠ some m := hg.mark h.mlt (by rw [h.cm]; decide)
  refine ⟨⟨?_, h.cods.below hB, h.pl.same (hne mp h.pl.lt (by rw [h.cp]; decide) (by rw [h.cp]; decide)), own_same ho fun g hgg => Below.heap_setCell _ _ _ _ (fun e => hvm (by rw [hgg]; exact congrArg some e)), own_same h.lines fun g hgg => hne g (h.lines.lt g hgg).2 (by rw [h.cl g hgg]; decide) (by rw [h.cl g hgg]; decide),
    ⟨vb, vn, vr, own_same hc1 fun g hgg => hne g (hc1.lt g hgg).2 (by rw [h.cc g hgg]; decide) (by rw [h.cc g hgg]; decide), hc2, hc3.below hB, hc4⟩, own_same h.vars fun g hgg => hne g (h.vars.lt g hgg).2 (by rw [h.cv g hgg]; decide) (by rw [h.cv g hgg]; decide), h.nv, h.lv, h.iv, hx, hl, h.ll,
    by rw [hcl m h.mlt (by rw [h.cm]; decide)]; exact h.cm, by rw [hcl mp h.pl.lt (by rw [h.cp]; decide)]; exact h.cp, fun k hk => by unfold colAt; rw [if_pos hk], fun k hk => by rw [hcl k (h.lines.lt k hk).2 (by rw [h.cl k hk]; decide)]; exact h.cl k hk,
    fun k hk => by rw [hcl k (hc1.lt k hk).2 (by rw [h.cc k hk]; decide)]; exact h.cc k hk, fun k hk => by rw [hcl k (h.vars.lt k hk).2 (by rw [h.cv k hk]; decide)]; exact h.cv k hk, ?_, by rw [hsz]; exact Nat.le_trans h.bw hge, h.tp.below h.gB hB, h.gB⟩, ⟨hg.grown.os, hg.grown.tape, hg.grown.output, by rw [hsz]; exact hge, fun k hk h0 => ⟨hne k hk (by rw [h0]; decide) (by rw [h0]; decide), by rw [hcl k hk (by rw [h0]; decide)]; exact h0⟩⟩⟩
  · have := heap_setCell_same (o := 2) (hmb.trans h.blk) v'
    rw [this]
    rfl
  · intro k hk
    rw [hsz]
    by_cases hv : v'.ownBlock = some k
    · exact ho.lt k hv
    · rw [colAt_other hv] at hk
      exact ⟨(h.lo k hk).1, Nat.lt_of_lt_of_le (h.lo k hk).2 hge⟩

theorem Mach.putLines {w1 : World} {v' : Value} {xs : List (List UInt8)} (h : Mach w col B m mp vf fs vh vl vc vv q) (hg : Grew w w1 col 4 vl v') (ho : w1.ownsRow B 9 1 v' xs.length (strsL xs)) (hl : xs.length ≤ 2000) :
    Mach (w1.setCell ⟨m, 4, none⟩ v') (colAt col v' 4) B m mp vf fs vh v' vc vv { q with lines := xs } ∧ Fr w col (w1.setCell ⟨m, 4, none⟩ v') (colAt col v' 4) := by
  have hsz : (w1.setCell ⟨m, 4, none⟩ v').heap.size = w1.heap.size := by simp [World.setCell]
  have hge := hg.grown.size
  have hB : Below B w (w1.setCell ⟨m, 4, none⟩ v') := ⟨hg.grown.os, hg.grown.tape, hg.grown.output, by rw [hsz]; exact hge, fun k hk => hg.keep m 4 v' (Nat.lt_of_lt_of_le hk h.bw) (by rw [h.low k hk]; decide) (fun e => by have := h.cm; rw [← e, h.low k hk] at this; cases this)⟩
  have hne : ∀ g, g < w.heap.size → col g ≠ 4 → col g ≠ 1 → (w1.setCell ⟨m, 4, none⟩ v').heap[g]? = w.heap[g]? := fun g hlt h3 h1 => hg.keep m 4 v' hlt h3 (fun e => h1 (by rw [e]; exact h.cm))
  have hcl : ∀ g, g < w.heap.size → col g ≠ 4 → colAt col v' 4 g = col g := fun g hlt h3 => colAt_other (hg.mark hlt h3)
  have hmb : w1.heap[m]? = w.heap[m]? := hg.grown.block m h.mlt (fun e => by have := hg.col m e.symm; rw [h.cm] at this; cases this)
  obtain ⟨vb, vn, vr, hc1, hc2, hc3, hc4⟩ := h.calls
  have hvm : v'.ownBlock ≠ some m := hg.mark h.mlt (by rw [h.cm]; decide)
  refine ⟨⟨?_, h.cods.below hB, h.pl.same (hne mp h.pl.lt (by rw [h.cp]; decide) (by rw [h.cp]; decide)), own_same h.heap fun g hgg => hne g (h.heap.lt g hgg).2 (by rw [h.ch g hgg]; decide) (by rw [h.ch g hgg]; decide), own_same ho fun g hgg => Below.heap_setCell _ _ _ _ (fun e => hvm (by rw [hgg]; exact congrArg some e)),
    ⟨vb, vn, vr, own_same hc1 fun g hgg => hne g (hc1.lt g hgg).2 (by rw [h.cc g hgg]; decide) (by rw [h.cc g hgg]; decide), hc2, hc3.below hB, hc4⟩, own_same h.vars fun g hgg => hne g (h.vars.lt g hgg).2 (by rw [h.cv g hgg]; decide) (by rw [h.cv g hgg]; decide), h.nv, h.lv, h.iv, h.ih, h.lh, hl,
    by rw [hcl m h.mlt (by rw [h.cm]; decide)]; exact h.cm, by rw [hcl mp h.pl.lt (by rw [h.cp]; decide)]; exact h.cp, fun k hk => by rw [hcl k (h.heap.lt k hk).2 (by rw [h.ch k hk]; decide)]; exact h.ch k hk, fun k hk => by unfold colAt; rw [if_pos hk],
    fun k hk => by rw [hcl k (hc1.lt k hk).2 (by rw [h.cc k hk]; decide)]; exact h.cc k hk, fun k hk => by rw [hcl k (h.vars.lt k hk).2 (by rw [h.cv k hk]; decide)]; exact h.cv k hk, ?_, by rw [hsz]; exact Nat.le_trans h.bw hge, h.tp.below h.gB hB, h.gB⟩, ⟨hg.grown.os, hg.grown.tape, hg.grown.output, by rw [hsz]; exact hge, fun k hk h0 => ⟨hne k hk (by rw [h0]; decide) (by rw [h0]; decide), by rw [hcl k hk (by rw [h0]; decide)]; exact h0⟩⟩⟩
  · have := heap_setCell_same (o := 4) (hmb.trans h.blk) v'
    rw [this]
    rfl
  · intro k hk
    rw [hsz]
    by_cases hv : v'.ownBlock = some k
    · exact ho.lt k hv
    · rw [colAt_other hv] at hk
      exact ⟨(h.lo k hk).1, Nat.lt_of_lt_of_le (h.lo k hk).2 hge⟩

theorem mem_zeros {xs : List Int} {k : Nat} (h : ∀ y ∈ xs, I64 y) : ∀ y ∈ xs ++ List.replicate k 0, I64 y := by
  intro y hy
  rcases List.mem_append.1 hy with h1 | h1
  · exact h y h1
  · rw [(List.mem_replicate.1 h1).2]; exact ⟨by decide, by decide⟩

theorem numsL_zeros (k : Nat) : List.replicate k (Value.int .i64 0) = numsL (List.replicate k 0) := by simp [numsL, numV]

/-- the machine afterwards -/
def After (w : World) (col : Nat → Nat) (B m mp : Nat) (vf : Value) (fs : List Cod) (q' : Mst) (w' : World) : Prop := ∃ col' vh vl vc vv, Mach w' col' B m mp vf fs vh vl vc vv q' ∧ Fr w col w' col'

theorem After.mk {w w' : World} {col col' : Nat → Nat} {q' : Mst} (h : Mach w' col' B m mp vf fs vh vl vc vv q') (k : Fr w col w' col') : After w col B m mp vf fs q' w' := ⟨_, _, _, _, _, h, k⟩

set_option maxHeartbeats 1000000 in
set_option maxRecDepth 20000 in
theorem alloc_any (h : Mach w col B m mp vf fs vh vl vc vv q) (x : Int) (hx : x ≤ 20000) (hq : q.heap.length ≤ 20000) (hr : 0 ≤ q.room) (hr2 : q.room ≤ 20000) :
    Calls Tryd.prog 44 #[.pointer (some ⟨m, 0, none⟩), .int .i64 x] w fun e w' => e = .returned (pairV (allocM q x).1) ∧ After w col B m mp vf fs (allocM q x).2 w' := by
  have h2 := h.cells.2.2.1
  have h3 := h.cells.2.2.2.1
  have hz2 := h.thaw 2
  have HH : Hid (Mach w col B m mp vf fs vh vl vc vv q) := h
  obtain ⟨ah, kh, rfl⟩ := own_slice h.heap
  have HO : Hid (w.ownsRow B 3 1 (.slice ah q.heap.length kh) q.heap.length (numsL q.heap)) := h.heap
  have hB := h.bw
  obtain ⟨N, hN⟩ : ∃ N, N = q.heap.length := ⟨_, rfl⟩
  obtain ⟨R, hR⟩ : ∃ R, R = q.room := ⟨_, rfl⟩
  have HN : Hid (N = q.heap.length) := hN
  have HR : Hid (R = q.room) := hR
  unfold allocM
  rw [← hN, ← hR]
  rw [← hN] at h2 HO hq HH
  rw [← hR] at h3 hr hr2
  clear hN hR h
  have hwr : wrap64 (R - (N : Int)) = R - (N : Int) := by unfold wrap64; omega
  rw [hwr]
  clear hwr
  have hNI : (N : Int) ≤ 20000 := by omega
  by_cases g1 : x < 0
  · rw [if_pos g1]
    unfold pairV
    go_enter Tryd.func44, Tryd.ntmps44
    go_wp2_with fail
    go_ret2
    exact ⟨rfl, After.mk HH.out (Fr.refl _ _)⟩
  · rw [if_neg g1]
    by_cases g2 : R - (N : Int) < x
    · rw [if_pos g2]
      unfold pairV
      go_enter Tryd.func44, Tryd.ntmps44
      go_wp2_with fail
      go_ret2
      exact ⟨rfl, After.mk HH.out (Fr.refl _ _)⟩
    · rw [if_neg g2]
      obtain ⟨k, hk⟩ : ∃ k : Nat, x = (k : Int) := ⟨x.toNat, by omega⟩
      subst hk
      rw [Int.toNat_natCast]
      unfold pairV
      obtain ⟨i0, hi, hz0, hz1, hzb⟩ := infoParts infoInt
      go_enter Tryd.func44, Tryd.ntmps44
      go_wp2_with (at_builtin; refine wpList_append_zeros _ rfl _ _ 23 3 (by rfl) B 3 i0 .i64 .i64 Tryd.underlying23 Tryd.underlying3 hi hz0 hz1 hzb (.slice ah N kh) N (numsL q.heap) (by rfl) HO.out k (by rfl) (by unfold maxLen; omega) (by omega) hB ?_)
      intro v' w1 hown hgrow hat
      have HOWN : Hid (w1.ownsRow B 3 1 v' (q.heap ++ List.replicate k 0).length (numsL (q.heap ++ List.replicate k 0))) := by
        have := hown
        rw [numsL_zeros, numsL_append] at this
        unfold Hid
        rw [List.length_append, List.length_replicate, ← HN.out]
        exact this
      have HG : Hid (Grew w w1 col 3 (.slice ah N kh) v') := ⟨hgrow, hat, HH.out.ch⟩
      have hmb : w1.heap[m]? = w.heap[m]? := hgrow.block m HH.out.mlt (fun e => by have := HH.out.ch m e.symm; rw [HH.out.cm] at this; cases this)
      have p2 : w1.cell? ⟨m, 2, none⟩ = some (.slice ah N kh) := (World.cell?_of_block hmb).trans h2
      have pz : w1.frozen? ⟨m, 2, none⟩ = false := (World.frozen?_of_block hmb).trans hz2
      obtain ⟨a', k', hv'⟩ := own_slice hown
      subst hv'
      clear hown hgrow hat hmb h2 h3 hz2
      go_wp2_with fail
      go_ret2
      have hp := HH.out.putHeap HG.out HOWN.out (mem_zeros HH.out.ih) (by rw [List.length_append, List.length_replicate, ← HN.out]; omega)
      have hre := HR.out
      subst hre
      exact ⟨rfl, After.mk hp.1 hp.2⟩

end Go.Proofs.YtbpnfoihonehgadDoor
