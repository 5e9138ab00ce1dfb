/-
  The machine's rows are written: variables, words of the heap, what is left of the block.
-/
import Derived.Test.YtbpnfoihonehgadDoorJaD
import Derived.RegionTactic
import Derived.Deep.RegionWith
namespace Go.Proofs.YtbpnfoihonehgadDoor
open Go.RowKit
set_option linter.unusedSimpArgs false
set_option linter.unusedVariables false

variable {w : World} {col : Nat → Nat} {B m mp : Nat} {vf : Value} {fs : List Cod} {vh vl vc vv : Value} {q : Mst}

theorem below_set (w : World) {B g o : Nat} (h : B ≤ g) (v : Value) : Below B w (w.setCell ⟨g, o, none⟩ v) :=
  ⟨rfl, rfl, rfl, by simp [World.setCell], fun k hk => Below.heap_setCell _ _ _ _ (fun e => by have e' : k = g := e; omega)⟩

theorem fr_set (w : World) (col : Nat → Nat) {g o : Nat} (h : col g ≠ 0) (v : Value) : Fr w col (w.setCell ⟨g, o, none⟩ v) col :=
  ⟨rfl, rfl, rfl, by simp [World.setCell], fun k hk h0 => ⟨Below.heap_setCell _ _ _ _ (fun e => h (by have e' : k = g := e; rw [← e']; exact h0)), h0⟩⟩

theorem fr_drewN (w : World) (col : Nat → Nat) (n : Nat) : Fr w col (w.drewN n) col := Fr.of_below col (below_drewN w _ n)

theorem I64.ok {x : Int} (h : I64 x) : -9223372036854775808 ≤ x ∧ x < 9223372036854775808 := h

theorem mem_set {xs : List Int} {k : Nat} {x : Int} (h : ∀ y ∈ xs, I64 y) (hx : I64 x) : ∀ y ∈ xs.set k x, I64 y := by
  intro y hy
  rcases List.mem_or_eq_of_mem_set hy with h1 | h1
  · exact h y h1
  · rw [h1]; exact hx

/-- a variable is set -/
theorem Mach.setVar {gv nv cv k : Nat} {x : Int} (h : Mach w col B m mp vf fs vh vl vc (.slice (some ⟨gv, 0, none⟩) nv cv) q) (hk : k < q.vars.length) (hx : I64 x) :
    Mach (w.setCell ⟨gv, k, none⟩ (.int .i64 x)) col B m mp vf fs vh vl vc (.slice (some ⟨gv, 0, none⟩) nv cv) { q with vars := q.vars.set k x } := by
  have hc := h.cv gv rfl
  have hB : Below B w (w.setCell ⟨gv, k, none⟩ (.int .i64 x)) := below_set w (h.lo gv (by omega)).1 _
  have hne : ∀ g, col g ≠ 6 → (w.setCell ⟨gv, k, none⟩ (.int .i64 x)).heap[g]? = w.heap[g]? := fun g hg => Below.heap_setCell _ _ _ _ (fun e => hg (by rw [e]; exact hc))
  obtain ⟨a, c, hv⟩ := own_slice h.vars
  cases hv
  obtain ⟨vb, vn, vr, hc1, hc2, hc3, hc4⟩ := h.calls
  refine ⟨(hne m (by have := h.cm; omega)).trans h.blk, h.cods.below hB, h.pl.same (hne mp (by have := h.cp; omega)), own_same h.heap fun g hg => hne g (by have := h.ch g hg; omega), own_same h.lines fun g hg => hne g (by have := h.cl g hg; omega),
    ⟨vb, vn, vr, own_same hc1 fun g hg => hne g (by have := h.cc g hg; omega), hc2, hc3.below hB, hc4⟩, ?_, by simpa using h.nv, by simpa using h.lv, mem_set h.iv hx, h.ih, h.lh, h.ll, h.cm, h.cp, h.ch, h.cl, h.cc, h.cv, fun g hg => ⟨(h.lo g hg).1, by simpa [World.setCell] using (h.lo g hg).2⟩, by simpa [World.setCell] using h.bw, h.tp.below h.gB hB, h.gB⟩
  have := own_set h.vars k (numV x) (by simpa using hk)
  rw [numsL_set] at this
  simpa [numV] using this

/-- a word is put -/
theorem Mach.setWord {gh nh ch k : Nat} {x : Int} (h : Mach w col B m mp vf fs (.slice (some ⟨gh, 0, none⟩) nh ch) vl vc vv q) (hk : k < q.heap.length) (hx : I64 x) :
    Mach (w.setCell ⟨gh, k, none⟩ (.int .i64 x)) col B m mp vf fs (.slice (some ⟨gh, 0, none⟩) nh ch) vl vc vv { q with heap := q.heap.set k x } := by
  have hc := h.ch gh rfl
  have hB : Below B w (w.setCell ⟨gh, k, none⟩ (.int .i64 x)) := below_set w (h.lo gh (by omega)).1 _
  have hne : ∀ g, col g ≠ 3 → (w.setCell ⟨gh, k, none⟩ (.int .i64 x)).heap[g]? = w.heap[g]? := fun g hg => Below.heap_setCell _ _ _ _ (fun e => hg (by rw [e]; exact hc))
  obtain ⟨a, c, hv⟩ := own_slice h.heap
  cases hv
  obtain ⟨vb, vn, vr, hc1, hc2, hc3, hc4⟩ := h.calls
  refine ⟨(hne m (by have := h.cm; omega)).trans h.blk, h.cods.below hB, h.pl.same (hne mp (by have := h.cp; omega)), ?_, own_same h.lines fun g hg => hne g (by have := h.cl g hg; omega),
    ⟨vb, vn, vr, own_same hc1 fun g hg => hne g (by have := h.cc g hg; omega), hc2, hc3.below hB, hc4⟩, own_same h.vars fun g hg => hne g (by have := h.cv g hg; omega), h.nv, h.lv, h.iv, mem_set h.ih hx, by simpa using h.lh, h.ll, h.cm, h.cp, h.ch, h.cl, h.cc, h.cv, fun g hg => ⟨(h.lo g hg).1, by simpa [World.setCell] using (h.lo g hg).2⟩, by simpa [World.setCell] using h.bw, h.tp.below h.gB hB, h.gB⟩
  have := own_set h.heap k (numV x) (by simpa using hk)
  rw [numsL_set] at this
  simpa [numV] using this

/-- the block goes on -/
theorem Mach.setNext {gc cc : Nat} {vn : Value} {l : List Ins} (h : Mach w col B m mp vf fs vh vl (.slice (some ⟨gc, 0, none⟩) 1 cc) vv q) (hl : Blk B w vn l) (hcp : ∃ a c, vn = .slice a l.length c ∧ l.length ≤ c) :
    Mach (w.setCell ⟨gc, 1, none⟩ vn) col B m mp vf fs vh vl (.slice (some ⟨gc, 0, none⟩) 1 cc) vv { q with next := l } := by
  have hc := h.cc gc rfl
  have hB : Below B w (w.setCell ⟨gc, 1, none⟩ vn) := below_set w (h.lo gc (by omega)).1 _
  have hne : ∀ g, col g ≠ 5 → (w.setCell ⟨gc, 1, none⟩ vn).heap[g]? = w.heap[g]? := fun g hg => Below.heap_setCell _ _ _ _ (fun e => hg (by rw [e]; exact hc))
  obtain ⟨vb, vn', vr, hc1, hc2, hc3, hc4⟩ := h.calls
  refine ⟨(hne m (by have := h.cm; omega)).trans h.blk, h.cods.below hB, h.pl.same (hne mp (by have := h.cp; omega)), own_same h.heap fun g hg => hne g (by have := h.ch g hg; omega), own_same h.lines fun g hg => hne g (by have := h.cl g hg; omega),
    ⟨vb, vn, vr, ?_, hc2, hl.below hB, hc4.1, hcp⟩, own_same h.vars fun g hg => hne g (by have := h.cv g hg; omega), h.nv, h.lv, h.iv, h.ih, h.lh, h.ll, h.cm, h.cp, h.ch, h.cl, h.cc, h.cv, fun g hg => ⟨(h.lo g hg).1, by simpa [World.setCell] using (h.lo g hg).2⟩, by simpa [World.setCell] using h.bw, h.tp.below h.gB hB, h.gB⟩
  have := own_set hc1 1 vn (by decide)
  simpa using this

/-- what a walk needs of the call and the variables -/
theorem Mach.calling (h : Mach w col B m mp vf fs vh vl vc vv q) : ∃ gc cc gv cv vn, vc = .slice (some ⟨gc, 0, none⟩) 1 cc ∧ vv = .slice (some ⟨gv, 0, none⟩) q.vars.length cv ∧ gc < w.heap.size ∧ gv < w.heap.size ∧
    w.cell? ⟨m, 5, none⟩ = some (.slice (some ⟨gc, 0, none⟩) 1 cc) ∧ w.cell? ⟨m, 6, none⟩ = some (.slice (some ⟨gv, 0, none⟩) q.vars.length cv) ∧ w.cell? ⟨gc, 1, none⟩ = some vn ∧ w.cell? ⟨gc, 2, none⟩ = some (.int .i64 0) ∧ (Blk B w vn q.next ∧ ∃ a c, vn = .slice a q.next.length c ∧ q.next.length ≤ c) ∧
    (∀ o, w.frozen? ⟨gc, o, none⟩ = false) ∧ (∀ o, w.frozen? ⟨gv, o, none⟩ = false) ∧ ∀ (k : Nat) x, q.vars[k]? = some x → w.cell? ⟨gv, k, none⟩ = some (.int .i64 x) := by
  obtain ⟨vb, vn, vr, hc1, hc2, hc3, hc4⟩ := h.calls
  obtain ⟨gc, cc, rfl, _, hgc, _, _, hfc, hcc⟩ := own_at hc1 (by decide)
  obtain ⟨gv, cv, rfl, _, hgv, _, _, hfv, hcv⟩ := own_at h.vars h.nv
  have hm := h.cells
  exact ⟨gc, cc, gv, cv, vn, rfl, rfl, hgc, hgv, hm.2.2.2.2.2.1, hm.2.2.2.2.2.2, hcc 1 _ rfl, hcc 2 _ rfl, ⟨hc3, hc4.2⟩, hfc, hfv, fun k x hx => hcv k _ (numsL_get _ _ _ hx)⟩

set_option maxHeartbeats 1000000 in
theorem getM_any (h : Mach w col B m mp vf fs vh vl vc vv q) (v x : Int) (hg : getM q v = some x) :
    Calls Tryd.prog 25 #[.pointer (some ⟨m, 0, none⟩), .int .i64 v] w fun e w' => e = .returned (.int .i64 x) ∧ ∃ n, w' = w.drewN n := by
  unfold getM at hg
  by_cases h0 : 0 ≤ v
  · rw [if_pos h0] at hg
    obtain ⟨gc, cc, gv, cv, vn, _, _, _, _, h5, h6, _, hf, _, _, _, hx⟩ := h.calling
    have hk : v = ((v.toNat : Nat) : Int) := by omega
    rw [hk]
    exact get_any m gc cc gv q.vars.length cv v.toNat x w h5 h6 hf (List.getElem?_eq_some_iff.1 hg).1 h.lv (hx _ _ hg)
  · rw [if_neg h0] at hg; cases hg

set_option maxHeartbeats 1000000 in
theorem set_cell (m gc cc gv nv cv k : Nat) (x : Int) (y : Value) (w : World) (h5 : w.cell? ⟨m, 5, none⟩ = some (.slice (some ⟨gc, 0, none⟩) 1 cc)) (h6 : w.cell? ⟨m, 6, none⟩ = some (.slice (some ⟨gv, 0, none⟩) nv cv))
    (hf : w.cell? ⟨gc, 2, none⟩ = some (.int .i64 0)) (hk : k < nv) (hn : nv ≤ 3000) (hy : w.cell? ⟨gv, k, none⟩ = some y) (hz : w.frozen? ⟨gv, k, none⟩ = false) :
    Calls Tryd.prog 28 #[.pointer (some ⟨m, 0, none⟩), .int .i64 (k : Int), .int .i64 x] w fun e w' => e = .returned (.tuple #[]) ∧ ∃ n, w' = (w.drewN n).setCell ⟨gv, k, none⟩ (.int .i64 x) := by
  have h1 : (k : Int) < (nv : Int) := by omega
  have h2 : (k : Int) ≤ 3000 := by omega
  have h3 : (0 : Int) ≤ (k : Int) := by omega
  have hwr : IntKind.i64.wrap (k : Int) = (k : Int) := by rw [IntKind.wrap_i64]; omega
  go_enter Tryd.func28, Tryd.ntmps28
  go_wp2
  go_region_with (go_at_call 26; refine (last_any _ _ _ _ (by simpa using h5)).mono ?_; rintro e w1 ⟨rfl, n1, rfl⟩)
  all_goals
    go_end0
    exact ⟨rfl, _, rfl⟩

/-- a variable is set -/
theorem setM_any (h : Mach w col B m mp vf fs vh vl vc vv q) (v x : Int) (hx : I64 x) (q' : Mst) (hg : setM q v x = some q') :
    Calls Tryd.prog 28 #[.pointer (some ⟨m, 0, none⟩), .int .i64 v, .int .i64 x] w fun e w' => e = .returned (.tuple #[]) ∧ Mach w' col B m mp vf fs vh vl vc vv q' ∧ Fr w col w' col := by
  unfold setM at hg
  by_cases h0 : 0 ≤ v ∧ v.toNat < q.vars.length
  · rw [if_pos h0] at hg
    injection hg with hg
    subst hg
    obtain ⟨gc, cc, gv, cv, vn, rfl, rfl, _, _, h5, h6, _, hf, _, _, hz, hy⟩ := h.calling
    have hk : v = ((v.toNat : Nat) : Int) := by omega
    obtain ⟨k, hk'⟩ : ∃ k, k = v.toNat := ⟨_, rfl⟩
    rw [← hk'] at hk ⊢
    have hlt : k < q.vars.length := by omega
    subst hk
    refine (set_cell m gc cc gv q.vars.length cv k x _ w h5 h6 hf hlt h.lv (hy k _ (List.getElem?_eq_getElem hlt)) (hz k)).mono ?_
    rintro e w1 ⟨rfl, n, rfl⟩
    have hd := h.keep (below_drewN w _ n)
    exact ⟨rfl, hd.setVar hlt hx, (fr_drewN w col n).trans (fr_set _ col (by have := h.cv gv rfl; omega) _)⟩
  · rw [if_neg h0] at hg; cases hg

end Go.Proofs.YtbpnfoihonehgadDoor
