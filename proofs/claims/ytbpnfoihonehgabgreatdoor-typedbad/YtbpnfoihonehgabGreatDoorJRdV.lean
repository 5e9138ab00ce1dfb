/-
  Statements: how they lie in memory, what reading them answers as a function of the pieces, and what a call that reads one leaves.
-/
import Derived.Test.YtbpnfoihonehgabGreatDoorJRdK
import Derived.Defers
namespace Go.Proofs.YtbpnfoihonehgabGreatDoor
section
open Go.RowKit
set_option linter.unusedSimpArgs false
set_option linter.unusedVariables false

set_option maxHeartbeats 400000 in
theorem leave_expr (w : World) (b bp cap T bx : Nat) (ps : List Tok) (q : RS) (u : FrameMode) (h : Rdr w b bp cap T ps q) (hx : w.cell? ⟨bx, 0, none⟩ = some (.pointer (some ⟨b, 0, none⟩))) (hd : 0 < q.depth) :
    CallsD Tryz.prog 124 #[.pointer (some ⟨bx, 0, none⟩)] u w fun e u' w' => u' = u ∧ (e = .returned (.tuple #[]) ∧ Rdr w' b bp cap T ps { q with depth := q.depth - 1 } ∧ Kept b w w') := by
  obtain ⟨c0, c1, c2, c3, c4⟩ := h.cells
  have hz := h.thaw 2
  have hdp := h.dp
  go_enter_d Tryz.func124, Tryz.ntmps124
  go_wp2
  go_end0
  exact ⟨rfl, h.setDepth (q.depth - 1) (by omega) _ (by go_num), (Kept.refl _ _).setCell _ _⟩

set_option maxHeartbeats 400000 in
theorem leave_neg (w : World) (b bp cap T bx : Nat) (ps : List Tok) (q : RS) (u : FrameMode) (h : Rdr w b bp cap T ps q) (hx : w.cell? ⟨bx, 0, none⟩ = some (.pointer (some ⟨b, 0, none⟩))) (hd : 0 < q.depth) :
    CallsD Tryz.prog 133 #[.pointer (some ⟨bx, 0, none⟩)] u w fun e u' w' => u' = u ∧ (e = .returned (.tuple #[]) ∧ Rdr w' b bp cap T ps { q with depth := q.depth - 1 } ∧ Kept b w w') := by
  obtain ⟨c0, c1, c2, c3, c4⟩ := h.cells
  have hz := h.thaw 2
  have hdp := h.dp
  go_enter_d Tryz.func133, Tryz.ntmps133
  go_wp2
  go_end0
  exact ⟨rfl, h.setDepth (q.depth - 1) (by omega) _ (by go_num), (Kept.refl _ _).setCell _ _⟩

/-- the contract of operation at a level, at whatever model -/
def SaidOp (ps : List Tok) (lv : Nat) (M : Nat → Nat → R Ex) : Prop :=
  ∀ (w : World) (b bp cap T : Nat) (q : RS) (r : Sum (Int × Int) (Ex × Nat)), Rdr w b bp cap T ps q → M q.depth q.next = some r →
    Calls Tryz.prog 125 #[.pointer (some ⟨b, 0, none⟩), .int .i64 lv] w (PostE b bp cap T ps q w r)

theorem res_expr {fn : Func} {tmps : Array Value} {w : World} {rt st x : Nat} {v0 v1 v2 v3 : Value} {ok : Bool} {T : TypeId} {f : Nat × Nat}
    (hres : fn.results = #[.cell rt 116, .tmp st]) (hp : tmps.getD rt undef = .pointer (some ⟨x, 0, none⟩)) (ho : tmps.getD st undef = .bool ok)
    (hblk : w.heap[x]? = some (.cells #[v0, v1, v2, v3] T f)) : (results fn tmps).run Tryz.prog w = .ok (.tuple #[.agg #[v0, v1, v2, v3], .bool ok]) w := by
  obtain ⟨q0, q1, q2, q3⟩ := cells4 hblk
  simp only [Array.getD_eq_getD_getElem?] at hp ho
  simp [results, hres, hp, ho, go_sem, q0, q1, q2, q3]

/-- the end of a call that leaves a level by a deferred closure -/
theorem postE_badD {b bp cap T : Nat} {ps : List Tok} {q : RS} {w w2 W w3 : World} {k : Int × Int} {n' x : Nat} {v0 v1 : Int} {v2 : ByteArray} {a3 : Option Addr} {l3 c3 : Nat} (h : Rdr w b bp cap T ps q)
    (kw : Kept b w w2) (kx : Kept x w2 W) (hx : w.heap.size ≤ x) (k3 : Kept b W w3) (hR : Rdr w3 b bp cap T ps ⟨n', q.depth, k.1, k.2⟩) :
    PostE b bp cap T ps q w (.inl k) (.returned (.tuple #[.agg #[.int .i64 v0, .int .i64 v1, .string v2, .slice a3 l3 c3], .bool false])) w3 :=
  ⟨(kw.own kx hx).trans k3, _, n', ⟨_, _, _, _, _, _, rfl⟩, rfl, hR⟩

theorem postE_okD {b bp cap T : Nat} {ps : List Tok} {q : RS} {w w2 W w3 : World} {t : Ex} {n' x : Nat} {v : Value} (h : Rdr w b bp cap T ps q)
    (kw : Kept b w w2) (kx : Kept x w2 W) (hx : w.heap.size ≤ x) (k3 : Kept b W w3) (hR : Rdr w3 b bp cap T ps { q with next := n' }) (hA : AnE (fun g => w.heap.size ≤ g ∧ g ≠ x) w2 v t) :
    PostE b bp cap T ps q w (.inr (t, n')) (.returned (.tuple #[v, .bool true])) w3 := by
  have h1 := h.bsize
  exact ⟨(kw.own kx hx).trans k3, v, rfl, (hA.own (S' := fun g => w.heap.size ≤ g) kx fun g hg => ⟨hg.2, hg.1⟩).move fun g hg hlt => ⟨hg, k3.block g hlt (by omega)⟩, hR⟩

set_option maxHeartbeats 1000000 in
theorem expression_any {ps : List Tok} {M : Nat → Nat → R Ex} (hM : SaidOp ps 0 M) (w : World) (b bp cap T : Nat) (q : RS) (r : Sum (Int × Int) (Ex × Nat)) (h : Rdr w b bp cap T ps q)
    (hr : (if 30 ≤ q.depth then badR ((cur ps q.next).at_, 8) else M (q.depth + 1) q.next) = some r) :
    Calls Tryz.prog 108 #[.pointer (some ⟨b, 0, none⟩)] w (PostE b bp cap T ps q w r) := by
  have hbs := h.bsize
  have hps := h.lt
  have hfar := h.far
  have hmf := mkf
  have h0 := fun o1 o2 => h.below (((Below.refl w.heap.size w).alloc (Nat.le_refl _) o1).alloc (by simp) o2)
  by_cases hd : 30 ≤ q.depth
  · rw [if_pos hd] at hr
    cases hr
    go_enter_defers Tryz.func108, Tryz.ntmps108
    go_wp2_with fail
    refine (enter_no _ _ _ _ _ _ _ (h0 _ _) hd).mono ?_
    rintro e w1 ⟨rfl, hR, k1⟩
    have hblk := (k1.block (w.heap.size + 1) (by simp) (by omega)).trans (heap_alloc2 w _ _).2
    have hc := cells4 hblk
    have hz := thaw4 hblk
    go_wp2_with fail
    exact ⟨_, res_expr Tryz.results108 rfl rfl (store4 hblk _ _ _ _), postE_bad h ((((Kept.refl _ _).alloc _).alloc _).trans k1) (kept4 _ _ _ _ _ _) (by omega) hR⟩
  · rw [if_neg hd] at hr
    go_enter_defers Tryz.func108, Tryz.ntmps108
    go_wp2_with fail
    refine (enter_yes _ _ _ _ _ _ _ (h0 _ _) (by omega)).mono ?_
    rintro e w1 ⟨rfl, hR, k1⟩
    have hs1 := k1.size
    simp at hs1
    have hbox := (k1.block w.heap.size (by simp; omega) (by omega)).trans (heap_alloc2 w _ _).1
    have hblk := (k1.block (w.heap.size + 1) (by simp) (by omega)).trans (heap_alloc2 w _ _).2
    have cb : w1.cell? ⟨w.heap.size, 0, none⟩ = some (.pointer (some ⟨b, 0, none⟩)) := by simp [World.cell?, hbox]
    go_wp2_with fail
    refine (hM _ _ _ _ _ _ _ hR hr).mono ?_
    intro e w2 hP
    cases r with
    | inl k =>
      obtain ⟨k2, v, n', ⟨v0, v1, v2, a3, l3, c3, rfl⟩, rfl, hR2⟩ := hP
      have hblk2 := (k2.block (w.heap.size + 1) (by omega) (by omega)).trans hblk
      have hbox2 := (k2.block w.heap.size (by omega) (by omega)).trans hbox
      have hc := cells4 hblk2
      have hz := thaw4 hblk2
      have hcb : w2.cell? ⟨w.heap.size, 0, none⟩ = some (.pointer (some ⟨b, 0, none⟩)) := by simp [World.cell?, hbox2]
      have hs2 := k2.size
      go_wp2_with fail
      have kx := kept4 (w.heap.size + 1) w2 (.int .i64 v0) (.int .i64 v1) (.string v2) (.slice a3 l3 c3)
      refine leaves_cons (f := 124) (args := #[.pointer (some ⟨w.heap.size, 0, none⟩)]) (by simp) (by simp [go_sem]) ?_
      refine (leave_expr _ b bp cap T w.heap.size ps _ .returning (hR2.own kx (by omega) (by omega) (by omega)) ((kx.cell w.heap.size 0 (by omega) (by omega)).trans hcb) (by simp)).mono ?_
      rintro e u' w3 ⟨rfl, rfl, hR3, k3⟩
      exact ⟨_, res_expr Tryz.results108 rfl rfl ((k3.block (w.heap.size + 1) (by have := kx.size; omega) (by omega)).trans (store4 hblk2 _ _ _ _)), postE_badD h ((((Kept.refl _ _).alloc _).alloc _).trans (k1.trans k2)) kx (by omega) k3 (by simpa using hR3)⟩
    | inr x =>
      obtain ⟨k2, v, rfl, hA, hR2⟩ := hP
      obtain ⟨v0, v1, v2, a3, l3, c3, rfl⟩ := hA.sh
      have hblk2 := (k2.block (w.heap.size + 1) (by omega) (by omega)).trans hblk
      have hbox2 := (k2.block w.heap.size (by omega) (by omega)).trans hbox
      have hc := cells4 hblk2
      have hz := thaw4 hblk2
      have hcb : w2.cell? ⟨w.heap.size, 0, none⟩ = some (.pointer (some ⟨b, 0, none⟩)) := by simp [World.cell?, hbox2]
      have hs2 := k2.size
      have hA' : AnE (fun g => w.heap.size ≤ g ∧ g ≠ w.heap.size + 1) w2 _ x.1 := hA.move fun g hg _ => ⟨by omega, rfl⟩
      clear hA
      go_wp2_with fail
      have kx := kept4 (w.heap.size + 1) w2 (.int .i64 v0) (.int .i64 v1) (.string v2) (.slice a3 l3 c3)
      refine leaves_cons (f := 124) (args := #[.pointer (some ⟨w.heap.size, 0, none⟩)]) (by simp) (by simp [go_sem]) ?_
      refine (leave_expr _ b bp cap T w.heap.size ps _ .returning (hR2.own kx (by omega) (by omega) (by omega)) ((kx.cell w.heap.size 0 (by omega) (by omega)).trans hcb) (by simp)).mono ?_
      rintro e u' w3 ⟨rfl, rfl, hR3, k3⟩
      exact ⟨_, res_expr Tryz.results108 rfl rfl ((k3.block (w.heap.size + 1) (by have := kx.size; omega) (by omega)).trans (store4 hblk2 _ _ _ _)), postE_okD h ((((Kept.refl _ _).alloc _).alloc _).trans (k1.trans k2)) kx (by omega) k3 (by simpa using hR3) hA'⟩
end

section
open Go.RowKit
set_option linter.unusedSimpArgs false
set_option linter.unusedVariables false

/-- the contract of single, at whatever model -/
def SaidS (ps : List Tok) (M : Nat → Nat → R Ex) : Prop :=
  ∀ (w : World) (b bp cap T : Nat) (q : RS) (r : Sum (Int × Int) (Ex × Nat)), Rdr w b bp cap T ps q → M q.depth q.next = some r →
    Calls Tryz.prog 129 #[.pointer (some ⟨b, 0, none⟩)] w (PostE b bp cap T ps q w r)

theorem row1 {S : Nat → Prop} {W : World} {g : Nat} {v0 v1 v2 v3 : Value} {T : TypeId} {f : Nat × Nat} {x : Ex} (hb : W.heap[g]? = some (.cells #[v0, v1, v2, v3] T f)) (hS : S g) (hx : AnE S W (.agg #[v0, v1, v2, v3]) x) :
    Row S W (AnE S W) (.slice (some ⟨g, 0, none⟩) 1 1) [x] :=
  ⟨[.agg #[v0, v1, v2, v3]], .inr ⟨g, 1, _, T, f, rfl, hS, hb, by simp [flat, Value.cells]⟩, hx, trivial⟩

theorem row2 {S : Nat → Prop} {W : World} {g : Nat} {v0 v1 v2 v3 u0 u1 u2 u3 : Value} {T : TypeId} {f : Nat × Nat} {x y : Ex} (hb : W.heap[g]? = some (.cells #[v0, v1, v2, v3, u0, u1, u2, u3] T f)) (hS : S g) (hx : AnE S W (.agg #[v0, v1, v2, v3]) x)
    (hy : AnE S W (.agg #[u0, u1, u2, u3]) y) : Row S W (AnE S W) (.slice (some ⟨g, 0, none⟩) 2 2) [x, y] :=
  ⟨[.agg #[v0, v1, v2, v3], .agg #[u0, u1, u2, u3]], .inr ⟨g, 2, _, T, f, rfl, hS, hb, by simp [flat, Value.cells]⟩, hx, hy, trivial⟩

theorem postE_okW {b bp cap T : Nat} {ps : List Tok} {q : RS} {w w2 W : World} {t : Ex} {n' x : Nat} {v : Value} (h : Rdr w b bp cap T ps q)
    (kw : Kept b w w2) (kx : Kept x w2 W) (hx : w.heap.size ≤ x) (hR : Rdr w2 b bp cap T ps { q with next := n' }) (hA : AnE (fun g => w.heap.size ≤ g) W v t) :
    PostE b bp cap T ps q w (.inr (t, n')) (.returned (.tuple #[v, .bool true])) W := by
  have h1 := h.bsize; have h2 := h.lt; have h3 := h.far
  exact ⟨kw.own kx hx, v, rfl, hA, hR.own kx (by omega) (by omega) (by omega)⟩

theorem postE_okWD {b bp cap T : Nat} {ps : List Tok} {q : RS} {w w2 W w3 : World} {t : Ex} {n' x : Nat} {v : Value} (h : Rdr w b bp cap T ps q)
    (kw : Kept b w w2) (kx : Kept x w2 W) (hx : w.heap.size ≤ x) (k3 : Kept b W w3) (hR : Rdr w3 b bp cap T ps { q with next := n' }) (hA : AnE (fun g => w.heap.size ≤ g) W v t) :
    PostE b bp cap T ps q w (.inr (t, n')) (.returned (.tuple #[v, .bool true])) w3 := by
  have h1 := h.bsize
  exact ⟨(kw.own kx hx).trans k3, v, rfl, hA.move fun g hg hlt => ⟨hg, k3.block g hlt (by omega)⟩, hR⟩

def negatedM (ps : List Tok) (M : Nat → Nat → R Ex) (d : Nat) (op : List UInt8) (n : Nat) : R Ex :=
  if 30 ≤ d then badR ((cur ps n).at_, 8) else bindR (M (d + 1) n) fun x n' => okR ⟨6, 0, op, [x]⟩ n'

theorem size_store4 (w : World) (x : Nat) (v0 v1 v2 v3 : Value) : ((((w.setCell ⟨x, 0, none⟩ v0).setCell ⟨x, 1, none⟩ v1).setCell ⟨x, 2, none⟩ v2).setCell ⟨x, 3, none⟩ v3).heap.size = w.heap.size := by
  simp [World.setCell]

set_option maxHeartbeats 1000000 in
theorem negated_any {ps : List Tok} {M : Nat → Nat → R Ex} (hM : SaidS ps M) (w : World) (b bp cap T : Nat) (q : RS) (op : List UInt8) (r : Sum (Int × Int) (Ex × Nat)) (h : Rdr w b bp cap T ps q)
    (hr : negatedM ps M q.depth op q.next = some r) :
    Calls Tryz.prog 131 #[.pointer (some ⟨b, 0, none⟩), .string ⟨op.toArray⟩] w (PostE b bp cap T ps q w r) := by
  have hbs := h.bsize
  have hps := h.lt
  have hfar := h.far
  have hmf := mkf
  have h0 := fun o1 o2 => h.below (((Below.refl w.heap.size w).alloc (Nat.le_refl _) o1).alloc (by simp) o2)
  unfold negatedM at hr
  by_cases hd : 30 ≤ q.depth
  · rw [if_pos hd] at hr
    cases hr
    go_enter_defers Tryz.func131, Tryz.ntmps131
    go_wp2_with fail
    refine (enter_no _ _ _ _ _ _ _ (h0 _ _) hd).mono ?_
    rintro e w1 ⟨rfl, hR, k1⟩
    have hblk := (k1.block (w.heap.size + 1) (by simp) (by omega)).trans (heap_alloc2 w _ _).2
    have hc := cells4 hblk
    have hz := thaw4 hblk
    go_wp2_with fail
    exact ⟨_, res_expr Tryz.results131 rfl rfl (store4 hblk _ _ _ _), postE_bad h ((((Kept.refl _ _).alloc _).alloc _).trans k1) (kept4 _ _ _ _ _ _) (by omega) hR⟩
  · rw [if_neg hd] at hr
    go_enter_defers Tryz.func131, Tryz.ntmps131
    go_wp2_with fail
    refine (enter_yes _ _ _ _ _ _ _ (h0 _ _) (by omega)).mono ?_
    rintro e w1 ⟨rfl, hR, k1⟩
    have hs1 := k1.size
    simp at hs1
    have hbox := (k1.block w.heap.size (by simp; omega) (by omega)).trans (heap_alloc2 w _ _).1
    have hblk := (k1.block (w.heap.size + 1) (by simp) (by omega)).trans (heap_alloc2 w _ _).2
    have cb : w1.cell? ⟨w.heap.size, 0, none⟩ = some (.pointer (some ⟨b, 0, none⟩)) := by simp [World.cell?, hbox]
    go_wp2_with fail
    rcases bindR_some hr with ⟨k, h1, rfl⟩ | ⟨x, n1, h1, h2⟩
    · refine (hM _ _ _ _ _ _ _ hR h1).mono ?_
      rintro e w2 ⟨k2, v, n', ⟨v0, v1, v2, a3, l3, c3, rfl⟩, rfl, hR2⟩
      have hblk2 := (k2.block (w.heap.size + 1) (by omega) (by omega)).trans hblk
      have hbox2 := (k2.block w.heap.size (by omega) (by omega)).trans hbox
      have hc := cells4 hblk2
      have hz := thaw4 hblk2
      have hcb : w2.cell? ⟨w.heap.size, 0, none⟩ = some (.pointer (some ⟨b, 0, none⟩)) := by simp [World.cell?, hbox2]
      have hs2 := k2.size
      have hlt2 : w.heap.size + 1 < w2.heap.size := by omega
      have hlt3 : w.heap.size < w2.heap.size := by omega
      go_wp2_with fail
      have kx := ((kept4 (w.heap.size + 1) w2 (.int .i64 6) (.int .i64 0) (.string ⟨op.toArray⟩) (.slice (some ⟨w2.heap.size + 1, 0, none⟩) 1 1)).alloc (.cells #[.int .i64 v0, .int .i64 v1, .string v2, .slice a3 l3 c3] 116)).alloc (.cells #[.int .i64 v0, .int .i64 v1, .string v2, .slice a3 l3 c3] 116)
      refine leaves_cons (f := 133) (args := #[.pointer (some ⟨w.heap.size, 0, none⟩)]) (by simp) (by simp [go_sem]) ?_
      refine (leave_neg _ b bp cap T w.heap.size ps _ .returning (hR2.own kx (by omega) (by omega) (by omega)) ((kx.cell w.heap.size 0 (by omega) (by omega)).trans hcb) (by simp)).mono ?_
      rintro e u' w3 ⟨rfl, rfl, hR3, k3⟩
      exact ⟨_, res_expr Tryz.results131 rfl rfl ((k3.block (w.heap.size + 1) (by have := kx.size; omega) (by omega)).trans (blk_alloc (blk_alloc (store4 hblk2 _ _ _ _) _) _)), postE_badD h ((((Kept.refl _ _).alloc _).alloc _).trans (k1.trans k2)) kx (by omega) k3 (by simpa using hR3)⟩
    · cases h2
      refine (hM _ _ _ _ _ _ _ hR h1).mono ?_
      rintro e w2 ⟨k2, v, rfl, hA, hR2⟩
      obtain ⟨v0, v1, v2, a3, l3, c3, rfl⟩ := hA.sh
      have hblk2 := (k2.block (w.heap.size + 1) (by omega) (by omega)).trans hblk
      have hbox2 := (k2.block w.heap.size (by omega) (by omega)).trans hbox
      have hc := cells4 hblk2
      have hz := thaw4 hblk2
      have hcb : w2.cell? ⟨w.heap.size, 0, none⟩ = some (.pointer (some ⟨b, 0, none⟩)) := by simp [World.cell?, hbox2]
      have hs2 := k2.size
      have hlt2 : w.heap.size + 1 < w2.heap.size := by omega
      have hlt3 : w.heap.size < w2.heap.size := by omega
      go_wp2_with fail
      have kx := ((kept4 (w.heap.size + 1) w2 (.int .i64 6) (.int .i64 0) (.string ⟨op.toArray⟩) (.slice (some ⟨w2.heap.size + 1, 0, none⟩) 1 1)).alloc (.cells #[.int .i64 v0, .int .i64 v1, .string v2, .slice a3 l3 c3] 116)).alloc (.cells #[.int .i64 v0, .int .i64 v1, .string v2, .slice a3 l3 c3] 116)
      refine leaves_cons (f := 133) (args := #[.pointer (some ⟨w.heap.size, 0, none⟩)]) (by simp) (by simp [go_sem]) ?_
      refine (leave_neg _ b bp cap T w.heap.size ps _ .returning (hR2.own kx (by omega) (by omega) (by omega)) ((kx.cell w.heap.size 0 (by omega) (by omega)).trans hcb) (by simp)).mono ?_
      rintro e u' w3 ⟨rfl, rfl, hR3, k3⟩
      have hrow := (heap_alloc2 ((((w2.setCell ⟨w.heap.size + 1, 0, none⟩ (.int .i64 6)).setCell ⟨w.heap.size + 1, 1, none⟩ (.int .i64 0)).setCell ⟨w.heap.size + 1, 2, none⟩ (.string ⟨op.toArray⟩)).setCell ⟨w.heap.size + 1, 3, none⟩ (.slice (some ⟨w2.heap.size + 1, 0, none⟩) 1 1)) (.cells #[.int .i64 v0, .int .i64 v1, .string v2, .slice a3 l3 c3] 116) (.cells #[.int .i64 v0, .int .i64 v1, .string v2, .slice a3 l3 c3] 116)).2
      rw [size_store4] at hrow
      exact ⟨_, res_expr Tryz.results131 rfl rfl ((k3.block (w.heap.size + 1) (by have := kx.size; omega) (by omega)).trans (blk_alloc (blk_alloc (store4 hblk2 _ _ _ _) _) _)), postE_okWD h ((((Kept.refl _ _).alloc _).alloc _).trans (k1.trans k2)) kx (by omega) k3 (by simpa using hR3)
        (AnE.mk 6 0 op [x] (row1 hrow (by omega) (hA.own kx fun g hg => ⟨by omega, by omega⟩)))⟩

set_option maxHeartbeats 2000000 in
theorem firstPart_any {ps : List Tok} {E : Nat → Nat → R Ex} (hE : SaidE ps E) (w : World) (b bp cap T f : Nat) (hf : f ≤ 1000000) (q : RS) (r : Sum (Int × Int) (Ex × Nat)) (h : Rdr w b bp cap T ps q)
    (hr : firstM ps E f q.depth q.next = some r) :
    Calls Tryz.prog 132 #[.pointer (some ⟨b, 0, none⟩)] w (PostE b bp cap T ps q w r) := by
  have hbs := h.bsize
  have hps := h.lt
  have hfar := h.far
  have h0 := h.below ((Below.refl w.heap.size w).alloc (Nat.le_refl _) (.cells #[.int .i64 0, .int .i64 0, .string ⟨#[]⟩, .slice none 0 0] 116))
  unfold firstM at hr
  rcases hk3 : ((cur ps q.next).kind == 3) with _ | _
  · rw [hk3, if_neg (by simp)] at hr
    rcases hk4 : ((cur ps q.next).kind == 4) with _ | _
    · rw [hk4, if_neg (by simp)] at hr
      rcases hk1 : ((cur ps q.next).kind == 1) with _ | _
      · rw [hk1, if_neg (by simp)] at hr
        rcases hk2 : ((cur ps q.next).kind == 2) with _ | _
        · rw [hk2, if_neg (by simp)] at hr
          go_enter Tryz.func132, Tryz.ntmps132
          go_wp2_with fail
          refine (peek_any _ _ _ _ _ _ _ h0).mono ?_
          rintro e w1 ⟨rfl, hb1⟩
          have h1 := h0.below hb1
          have hs1 := hb1.size
          simp at hs1
          have hx1 := (hb1.block w.heap.size (by simp)).trans (heap_alloc_new w _)
          have hR1 := h1.below ((Below.refl w1.heap.size w1).alloc (Nat.le_refl _) (.cells #[.int .i64 (cur ps q.next).kind, .int .i64 (cur ps q.next).at_, .int .i64 (cur ps q.next).n, .string ⟨(cur ps q.next).s.toArray⟩] 69))
          have hp1 := heap_alloc_new w1 (.cells #[.int .i64 (cur ps q.next).kind, .int .i64 (cur ps q.next).at_, .int .i64 (cur ps q.next).n, .string ⟨(cur ps q.next).s.toArray⟩] 69)
          have hx1' := blk_alloc hx1 (.cells #[.int .i64 (cur ps q.next).kind, .int .i64 (cur ps q.next).at_, .int .i64 (cur ps q.next).n, .string ⟨(cur ps q.next).s.toArray⟩] 69)
          have k0 : Kept b w (w1.alloc (.cells #[.int .i64 (cur ps q.next).kind, .int .i64 (cur ps q.next).at_, .int .i64 (cur ps q.next).n, .string ⟨(cur ps q.next).s.toArray⟩] 69)) := ((((Kept.refl b w).alloc _).trans (Kept.of_below hb1)).alloc _)
          unfold Tok.val
          go_wp2_with fail
          refine (bracketed_any hE _ b bp cap T q r hR1 hr).mono ?_
          intro e w3 hP
          have hx2 := hx1'
          have hsz : w.heap.size < (w1.alloc (.cells #[.int .i64 (cur ps q.next).kind, .int .i64 (cur ps q.next).at_, .int .i64 (cur ps q.next).n, .string ⟨(cur ps q.next).s.toArray⟩] 69)).heap.size := by simp; omega
          cases r with
          | inl k =>
            obtain ⟨k3, v, n', ⟨v0, v1, v2, a3, l3, c3, rfl⟩, rfl, hR⟩ := hP
            have hblk := (k3.block w.heap.size (by omega) (by omega)).trans hx2
            have hc := cells4 hblk
            have hz := thaw4 hblk
            go_wp2_with fail
            exact fin_expr Tryz.results132 rfl rfl rfl (store4 hblk _ _ _ _) (postE_bad h (k0.trans k3) (kept4 _ _ _ _ _ _) (by omega) hR)
          | inr x =>
            obtain ⟨k3, v, rfl, hA, hR⟩ := hP
            obtain ⟨v0, v1, v2, a3, l3, c3, rfl⟩ := hA.sh
            have hblk := (k3.block w.heap.size (by omega) (by omega)).trans hx2
            have hc := cells4 hblk
            have hz := thaw4 hblk
            have hA' : AnE (fun g => w.heap.size ≤ g ∧ g ≠ w.heap.size) w3 _ x.1 := hA.move fun g hg _ => ⟨by omega, rfl⟩
            clear hA
            go_wp2_with fail
            exact fin_expr Tryz.results132 rfl rfl rfl (store4 hblk _ _ _ _) (postE_ok h (k0.trans k3) (kept4 _ _ _ _ _ _) (by omega) hR hA')
        · rw [hk2, if_pos rfl] at hr
          have hkk : ((cur ps q.next).kind != 0) = true := by simp at hk2 ⊢; omega
          go_enter Tryz.func132, Tryz.ntmps132
          go_wp2_with fail
          refine (peek_any _ _ _ _ _ _ _ h0).mono ?_
          rintro e w1 ⟨rfl, hb1⟩
          have h1 := h0.below hb1
          have hs1 := hb1.size
          simp at hs1
          have hx1 := (hb1.block w.heap.size (by simp)).trans (heap_alloc_new w _)
          have hR1 := h1.below ((Below.refl w1.heap.size w1).alloc (Nat.le_refl _) (.cells #[.int .i64 (cur ps q.next).kind, .int .i64 (cur ps q.next).at_, .int .i64 (cur ps q.next).n, .string ⟨(cur ps q.next).s.toArray⟩] 69))
          have hp1 := heap_alloc_new w1 (.cells #[.int .i64 (cur ps q.next).kind, .int .i64 (cur ps q.next).at_, .int .i64 (cur ps q.next).n, .string ⟨(cur ps q.next).s.toArray⟩] 69)
          have hx1' := blk_alloc hx1 (.cells #[.int .i64 (cur ps q.next).kind, .int .i64 (cur ps q.next).at_, .int .i64 (cur ps q.next).n, .string ⟨(cur ps q.next).s.toArray⟩] 69)
          have k0 : Kept b w (w1.alloc (.cells #[.int .i64 (cur ps q.next).kind, .int .i64 (cur ps q.next).at_, .int .i64 (cur ps q.next).n, .string ⟨(cur ps q.next).s.toArray⟩] 69)) := ((((Kept.refl b w).alloc _).trans (Kept.of_below hb1)).alloc _)
          unfold Tok.val
          go_wp2_with fail
          have hsz : w.heap.size < (w1.alloc (.cells #[.int .i64 (cur ps q.next).kind, .int .i64 (cur ps q.next).at_, .int .i64 (cur ps q.next).n, .string ⟨(cur ps q.next).s.toArray⟩] 69)).heap.size := by simp; omega
          have hkp := keywordPart_any hE _ b bp cap T f hf q r hR1 hkk hr
          unfold Tok.val at hkp
          refine hkp.mono ?_
          intro e w3 hP
          have hx2 := hx1'
          cases r with
          | inl k =>
            obtain ⟨k3, v, n', ⟨v0, v1, v2, a3, l3, c3, rfl⟩, rfl, hR⟩ := hP
            have hblk := (k3.block w.heap.size (by omega) (by omega)).trans hx2
            have hc := cells4 hblk
            have hz := thaw4 hblk
            go_wp2_with fail
            exact fin_expr Tryz.results132 rfl rfl rfl (store4 hblk _ _ _ _) (postE_bad h (k0.trans k3) (kept4 _ _ _ _ _ _) (by omega) hR)
          | inr x =>
            obtain ⟨k3, v, rfl, hA, hR⟩ := hP
            obtain ⟨v0, v1, v2, a3, l3, c3, rfl⟩ := hA.sh
            have hblk := (k3.block w.heap.size (by omega) (by omega)).trans hx2
            have hc := cells4 hblk
            have hz := thaw4 hblk
            have hA' : AnE (fun g => w.heap.size ≤ g ∧ g ≠ w.heap.size) w3 _ x.1 := hA.move fun g hg _ => ⟨by omega, rfl⟩
            clear hA
            go_wp2_with fail
            exact fin_expr Tryz.results132 rfl rfl rfl (store4 hblk _ _ _ _) (postE_ok h (k0.trans k3) (kept4 _ _ _ _ _ _) (by omega) hR hA')
      · rw [hk1, if_pos rfl] at hr
        have hkk : ((cur ps q.next).kind != 0) = true := by simp at hk1 ⊢; omega
        go_enter Tryz.func132, Tryz.ntmps132
        go_wp2_with fail
        refine (peek_any _ _ _ _ _ _ _ h0).mono ?_
        rintro e w1 ⟨rfl, hb1⟩
        have h1 := h0.below hb1
        have hs1 := hb1.size
        simp at hs1
        have hx1 := (hb1.block w.heap.size (by simp)).trans (heap_alloc_new w _)
        have hR1 := h1.below ((Below.refl w1.heap.size w1).alloc (Nat.le_refl _) (.cells #[.int .i64 (cur ps q.next).kind, .int .i64 (cur ps q.next).at_, .int .i64 (cur ps q.next).n, .string ⟨(cur ps q.next).s.toArray⟩] 69))
        have hp1 := heap_alloc_new w1 (.cells #[.int .i64 (cur ps q.next).kind, .int .i64 (cur ps q.next).at_, .int .i64 (cur ps q.next).n, .string ⟨(cur ps q.next).s.toArray⟩] 69)
        have hx1' := blk_alloc hx1 (.cells #[.int .i64 (cur ps q.next).kind, .int .i64 (cur ps q.next).at_, .int .i64 (cur ps q.next).n, .string ⟨(cur ps q.next).s.toArray⟩] 69)
        have k0 : Kept b w (w1.alloc (.cells #[.int .i64 (cur ps q.next).kind, .int .i64 (cur ps q.next).at_, .int .i64 (cur ps q.next).n, .string ⟨(cur ps q.next).s.toArray⟩] 69)) := ((((Kept.refl b w).alloc _).trans (Kept.of_below hb1)).alloc _)
        unfold Tok.val
        go_wp2_with fail
        refine (step_any _ _ _ _ _ _ _ hR1 hkk).mono ?_
        rintro e w2 ⟨rfl, hR2, k2⟩
        have hs2 := k2.size
        simp at hs2
        have hx2 := (k2.block w.heap.size (by simp; omega) (by omega)).trans hx1'
        have hp2 := (k2.block w1.heap.size (by simp) (by omega)).trans hp1
        obtain ⟨_, pp1, pp2, pp3⟩ := cells4 hp2
        have kk := k0.trans k2
        go_wp2_with fail
        refine (named_any hE _ b bp cap T f hf _ _ r hR2 hr).mono ?_
        intro e w3 hP
        cases r with
        | inl k =>
          obtain ⟨k3, v, n', ⟨v0, v1, v2, a3, l3, c3, rfl⟩, rfl, hR⟩ := hP
          have hblk := (k3.block w.heap.size (by omega) (by omega)).trans hx2
          have hc := cells4 hblk
          have hz := thaw4 hblk
          go_wp2_with fail
          exact fin_expr Tryz.results132 rfl rfl rfl (store4 hblk _ _ _ _) (postE_bad h (kk.trans k3) (kept4 _ _ _ _ _ _) (by omega) hR)
        | inr x =>
          obtain ⟨k3, v, rfl, hA, hR⟩ := hP
          obtain ⟨v0, v1, v2, a3, l3, c3, rfl⟩ := hA.sh
          have hblk := (k3.block w.heap.size (by omega) (by omega)).trans hx2
          have hc := cells4 hblk
          have hz := thaw4 hblk
          have hA' : AnE (fun g => w.heap.size ≤ g ∧ g ≠ w.heap.size) w3 _ x.1 := hA.move fun g hg _ => ⟨by omega, rfl⟩
          clear hA
          go_wp2_with fail
          exact fin_expr Tryz.results132 rfl rfl rfl (store4 hblk _ _ _ _) (postE_ok h (kk.trans k3) (kept4 _ _ _ _ _ _) (by omega) hR hA')
    · rw [hk4, if_pos rfl] at hr
      cases hr
      have hkk : ((cur ps q.next).kind != 0) = true := by simp at hk4 ⊢; omega
      go_enter Tryz.func132, Tryz.ntmps132
      go_wp2_with fail
      refine (peek_any _ _ _ _ _ _ _ h0).mono ?_
      rintro e w1 ⟨rfl, hb1⟩
      have h1 := h0.below hb1
      have hs1 := hb1.size
      simp at hs1
      have hx1 := (hb1.block w.heap.size (by simp)).trans (heap_alloc_new w _)
      have hR1 := h1.below ((Below.refl w1.heap.size w1).alloc (Nat.le_refl _) (.cells #[.int .i64 (cur ps q.next).kind, .int .i64 (cur ps q.next).at_, .int .i64 (cur ps q.next).n, .string ⟨(cur ps q.next).s.toArray⟩] 69))
      have hp1 := heap_alloc_new w1 (.cells #[.int .i64 (cur ps q.next).kind, .int .i64 (cur ps q.next).at_, .int .i64 (cur ps q.next).n, .string ⟨(cur ps q.next).s.toArray⟩] 69)
      have hx1' := blk_alloc hx1 (.cells #[.int .i64 (cur ps q.next).kind, .int .i64 (cur ps q.next).at_, .int .i64 (cur ps q.next).n, .string ⟨(cur ps q.next).s.toArray⟩] 69)
      have k0 : Kept b w (w1.alloc (.cells #[.int .i64 (cur ps q.next).kind, .int .i64 (cur ps q.next).at_, .int .i64 (cur ps q.next).n, .string ⟨(cur ps q.next).s.toArray⟩] 69)) := ((((Kept.refl b w).alloc _).trans (Kept.of_below hb1)).alloc _)
      unfold Tok.val
      go_wp2_with fail
      refine (step_any _ _ _ _ _ _ _ hR1 hkk).mono ?_
      rintro e w2 ⟨rfl, hR2, k2⟩
      have hs2 := k2.size
      simp at hs2
      have hx2 := (k2.block w.heap.size (by simp; omega) (by omega)).trans hx1'
      have hp2 := (k2.block w1.heap.size (by simp) (by omega)).trans hp1
      obtain ⟨_, pp1, pp2, pp3⟩ := cells4 hp2
      have kk := k0.trans k2
      have hblk := hx2
      have hc := cells4 hblk
      have hz := thaw4 hblk
      have hA' : AnE (fun g => w.heap.size ≤ g ∧ g ≠ w.heap.size) w2 _ _ := AnE.mk 2 0 (cur ps q.next).s [] ⟨[], .inl ⟨rfl, rfl, rfl⟩, trivial⟩
      go_wp2_with fail
      exact fin_expr Tryz.results132 rfl rfl rfl (store4 hblk _ _ _ _) (postE_ok h kk (kept4 _ _ _ _ _ _) (by omega) hR2 hA')
  · rw [hk3, if_pos rfl] at hr
    cases hr
    have hkk : ((cur ps q.next).kind != 0) = true := by simp at hk3 ⊢; omega
    go_enter Tryz.func132, Tryz.ntmps132
    go_wp2_with fail
    refine (peek_any _ _ _ _ _ _ _ h0).mono ?_
    rintro e w1 ⟨rfl, hb1⟩
    have h1 := h0.below hb1
    have hs1 := hb1.size
    simp at hs1
    have hx1 := (hb1.block w.heap.size (by simp)).trans (heap_alloc_new w _)
    have hR1 := h1.below ((Below.refl w1.heap.size w1).alloc (Nat.le_refl _) (.cells #[.int .i64 (cur ps q.next).kind, .int .i64 (cur ps q.next).at_, .int .i64 (cur ps q.next).n, .string ⟨(cur ps q.next).s.toArray⟩] 69))
    have hp1 := heap_alloc_new w1 (.cells #[.int .i64 (cur ps q.next).kind, .int .i64 (cur ps q.next).at_, .int .i64 (cur ps q.next).n, .string ⟨(cur ps q.next).s.toArray⟩] 69)
    have hx1' := blk_alloc hx1 (.cells #[.int .i64 (cur ps q.next).kind, .int .i64 (cur ps q.next).at_, .int .i64 (cur ps q.next).n, .string ⟨(cur ps q.next).s.toArray⟩] 69)
    have k0 : Kept b w (w1.alloc (.cells #[.int .i64 (cur ps q.next).kind, .int .i64 (cur ps q.next).at_, .int .i64 (cur ps q.next).n, .string ⟨(cur ps q.next).s.toArray⟩] 69)) := ((((Kept.refl b w).alloc _).trans (Kept.of_below hb1)).alloc _)
    unfold Tok.val
    go_wp2_with fail
    refine (step_any _ _ _ _ _ _ _ hR1 hkk).mono ?_
    rintro e w2 ⟨rfl, hR2, k2⟩
    have hs2 := k2.size
    simp at hs2
    have hx2 := (k2.block w.heap.size (by simp; omega) (by omega)).trans hx1'
    have hp2 := (k2.block w1.heap.size (by simp) (by omega)).trans hp1
    obtain ⟨_, pp1, pp2, pp3⟩ := cells4 hp2
    have kk := k0.trans k2
    have hblk := hx2
    have hc := cells4 hblk
    have hz := thaw4 hblk
    have hA' : AnE (fun g => w.heap.size ≤ g ∧ g ≠ w.heap.size) w2 _ _ := AnE.mk 1 (cur ps q.next).n [] [] ⟨[], .inl ⟨rfl, rfl, rfl⟩, trivial⟩
    go_wp2_with fail
    exact fin_expr Tryz.results132 rfl rfl rfl (store4 hblk _ _ _ _) (postE_ok h kk (kept4 _ _ _ _ _ _) (by omega) hR2 hA')
end

section
open Go.RowKit
set_option linter.unusedSimpArgs false
set_option linter.unusedVariables false

/-- what holds ahead of each round of a loop that makes an expression greater; eb: where the expression lies; L: what the loop answers from here on -/
structure LoopI (w : World) (b bp cap T : Nat) (ps : List Tok) (q : RS) (r : Sum (Int × Int) (Ex × Nat)) (eb : Nat) (L : Ex → Nat → R Ex) (ok : Bool) (wr : World) : Prop where
  kp : Kept b w wr
  sz : eb < wr.heap.size
  lo : w.heap.size < eb
  xb : wr.heap[w.heap.size]? = some (.cells #[.int .i64 0, .int .i64 0, .string ⟨#[]⟩, .slice none 0 0] 116 (0, 0))
  ec : ∃ v0 v1 v2 a3 l3 c3, wr.heap[eb]? = some (.cells #[.int .i64 v0, .int .i64 v1, .string v2, .slice a3 l3 c3] 116 (0, 0)) ∧
    (ok = true → ∃ x n, AnE (fun g => w.heap.size ≤ g ∧ g ≠ w.heap.size ∧ g ≠ eb) wr (.agg #[.int .i64 v0, .int .i64 v1, .string v2, .slice a3 l3 c3]) x ∧ Rdr wr b bp cap T ps { q with next := n } ∧ L x n = some r) ∧
    (ok = false → ∃ k n', r = .inl k ∧ Rdr wr b bp cap T ps ⟨n', q.depth, k.1, k.2⟩)

theorem AnE.kept {S : Nat → Prop} {w w' : World} {b : Nat} {v : Value} {x : Ex} (h : AnE S w v x) (k : Kept b w w') (hS : ∀ g, S g → g ≠ b) : AnE S w' v x :=
  h.move fun g hg hlt => ⟨hg, k.block g hlt (hS g hg)⟩

/-- a round's end: the expression's block eb is written anew, its row is laid -/
theorem loop_bad {w w7 : World} {b bp cap T eb n' : Nat} {ps : List Tok} {q : RS} {k : Int × Int} {L : Ex → Nat → R Ex} {u0 u1 u2 u3 : Value} {row : Obj} (h : Rdr w b bp cap T ps q) (kp : Kept b w w7) (hlo : w.heap.size < eb)
    (hxb : w7.heap[w.heap.size]? = some (.cells #[.int .i64 0, .int .i64 0, .string ⟨#[]⟩, .slice none 0 0] 116 (0, 0))) (hec : w7.heap[eb]? = some (.cells #[u0, u1, u2, u3] 116 (0, 0))) (hsz : eb < w7.heap.size)
    (hR : Rdr w7 b bp cap T ps ⟨n', q.depth, k.1, k.2⟩) (kd nd : Int) (st : ByteArray) (a : Option Addr) (l c : Nat) :
    LoopI w b bp cap T ps q (.inl k) eb L false (((((w7.setCell ⟨eb, 0, none⟩ (.int .i64 kd)).setCell ⟨eb, 1, none⟩ (.int .i64 nd)).setCell ⟨eb, 2, none⟩ (.string st)).setCell ⟨eb, 3, none⟩ (.slice a l c)).alloc row) := by
  have h1 := h.bsize; have h2 := h.lt; have h3 := h.far
  have kx := (kept4 eb w7 (.int .i64 kd) (.int .i64 nd) (.string st) (.slice a l c)).alloc row
  refine ⟨kp.own kx (by omega), by have := kx.size; omega, hlo, (kx.block _ (by omega) (by omega)).trans hxb, kd, nd, st, a, l, c, blk_alloc (store4 hec _ _ _ _) _, (fun e => by cases e), fun _ => ⟨k, n', rfl, hR.own kx (by omega) (by omega) (by omega)⟩⟩

theorem loop_ok {w w7 : World} {b bp cap T eb n : Nat} {ps : List Tok} {q : RS} {r : Sum (Int × Int) (Ex × Nat)} {L : Ex → Nat → R Ex} {u0 u1 u2 u3 : Value} (h : Rdr w b bp cap T ps q) (kp : Kept b w w7) (hlo : w.heap.size < eb)
    (hxb : w7.heap[w.heap.size]? = some (.cells #[.int .i64 0, .int .i64 0, .string ⟨#[]⟩, .slice none 0 0] 116 (0, 0))) (hec : w7.heap[eb]? = some (.cells #[u0, u1, u2, u3] 116 (0, 0))) (hsz : eb < w7.heap.size)
    (hR : Rdr w7 b bp cap T ps { q with next := n }) (kd : Int) (st : List UInt8) {e0 e1 e2 e3 f0 f1 f2 f3 : Value} {x y : Ex}
    (hx : AnE (fun g => w.heap.size ≤ g ∧ g ≠ w.heap.size ∧ g ≠ eb) w7 (.agg #[e0, e1, e2, e3]) x) (hy : AnE (fun g => w.heap.size ≤ g ∧ g ≠ w.heap.size ∧ g ≠ eb) w7 (.agg #[f0, f1, f2, f3]) y) (hl : L ⟨kd, 0, st, [x, y]⟩ n = some r) :
    LoopI w b bp cap T ps q r eb L true (((((w7.setCell ⟨eb, 0, none⟩ (.int .i64 kd)).setCell ⟨eb, 1, none⟩ (.int .i64 0)).setCell ⟨eb, 2, none⟩ (.string ⟨st.toArray⟩)).setCell ⟨eb, 3, none⟩ (.slice (some ⟨w7.heap.size, 0, none⟩) 2 2)).alloc (.cells #[e0, e1, e2, e3, f0, f1, f2, f3] 116)) := by
  have h1 := h.bsize; have h2 := h.lt; have h3 := h.far
  have kx := (kept4 eb w7 (.int .i64 kd) (.int .i64 0) (.string ⟨st.toArray⟩) (.slice (some ⟨w7.heap.size, 0, none⟩) 2 2)).alloc (.cells #[e0, e1, e2, e3, f0, f1, f2, f3] 116)
  have hrow := heap_alloc_new ((((w7.setCell ⟨eb, 0, none⟩ (.int .i64 kd)).setCell ⟨eb, 1, none⟩ (.int .i64 0)).setCell ⟨eb, 2, none⟩ (.string ⟨st.toArray⟩)).setCell ⟨eb, 3, none⟩ (.slice (some ⟨w7.heap.size, 0, none⟩) 2 2)) (.cells #[e0, e1, e2, e3, f0, f1, f2, f3] 116)
  rw [size_store4] at hrow
  refine ⟨kp.own kx (by omega), by have := kx.size; omega, hlo, (kx.block _ (by omega) (by omega)).trans hxb, kd, 0, ⟨st.toArray⟩, _, _, _, blk_alloc (store4 hec _ _ _ _) _, (fun _ => ⟨_, n, ?_, hR.own kx (by omega) (by omega) (by omega), hl⟩), (fun e => by cases e)⟩
  exact AnE.mk kd 0 st [x, y] (row2 hrow (by omega) (hx.own kx fun g hg => ⟨by omega, hg⟩) (hy.own kx fun g hg => ⟨by omega, hg⟩))

set_option maxHeartbeats 2000000 in
theorem single_loop {ps : List Tok} {E : Nat → Nat → R Ex} (hE : SaidE ps E) (w : World) (b bp cap T f : Nat) (hf : f ≤ 1000000) (q : RS) (r : Sum (Int × Int) (Ex × Nat)) (h : Rdr w b bp cap T ps q)
    (hn1 : isT (cur ps q.next) 5 [45] = false) (hn2 : isT (cur ps q.next) 5 [33] = false)
    (hr : bindR (firstM ps E f q.depth q.next) (fun x n' => idxLoop ps E q.depth f x n') = some r) :
    Calls Tryz.prog 129 #[.pointer (some ⟨b, 0, none⟩)] w (PostE b bp cap T ps q w r) := by
  have hbs := h.bsize
  have hps := h.lt
  have hfar := h.far
  have h0 := h.below ((Below.refl w.heap.size w).alloc (Nat.le_refl _) (.cells #[.int .i64 0, .int .i64 0, .string ⟨#[]⟩, .slice none 0 0] 116))
  go_enter Tryz.func129, Tryz.ntmps129
  go_wp2_with fail
  refine (peek_any _ _ _ _ _ _ _ h0).mono ?_
  rintro e w1 ⟨rfl, hb1⟩
  have h1 := h0.below hb1
  have hs1 := hb1.size
  simp at hs1
  have hx1 := (hb1.block w.heap.size (by simp)).trans (heap_alloc_new w _)
  have hp1 := heap_alloc_new w1 (.cells #[.int .i64 (cur ps q.next).kind, .int .i64 (cur ps q.next).at_, .int .i64 (cur ps q.next).n, .string ⟨(cur ps q.next).s.toArray⟩] 69)
  have hi := is_any (cur ps q.next)
  unfold Tok.val at hi ⊢
  go_wp2_with fail
  refine (hi _ _ _).mono ?_
  rintro e w2 ⟨rfl, hb2⟩
  have hs2 := hb2.size
  simp at hs2
  have hp2 := (hb2.block w1.heap.size (by simp)).trans hp1
  have pc := cells4 hp2
  go_wp2_with fail
  refine (hi _ _ _).mono ?_
  rintro e w3 ⟨rfl, hb3⟩
  have hs3 := hb3.size
  have h3 : Rdr w3 b bp cap T ps q := ((h1.below ((Below.refl w1.heap.size w1).alloc (Nat.le_refl _) _)).below hb2).below hb3
  have k3 : Kept b w w3 := (((((Kept.refl b w).alloc _).trans (Kept.of_below hb1)).alloc _).trans (Kept.of_below hb2)).trans (Kept.of_below hb3)
  have hx3 := (hb3.block w.heap.size (by omega)).trans ((hb2.block w.heap.size (by simp; omega)).trans (blk_alloc hx1 _))
  clear hi hp2 pc hp1 hx1 h1
  go_wp2_with fail
  have hfst : ∃ rf, firstM ps E f q.depth q.next = some rf := by
    rcases bindR_some hr with ⟨k, h5, _⟩ | ⟨x, n, h5, _⟩
    · exact ⟨_, h5⟩
    · exact ⟨_, h5⟩
  obtain ⟨rf, hrf⟩ := hfst
  refine (firstPart_any hE _ b bp cap T f hf q rf h3 hrf).mono ?_
  intro e w4 hP
  have hL : ∃ (v0 v1 : Int) (v2 : ByteArray) (a3 : Option Addr) (l3 c3 : Nat) (ok : Bool), e = .returned (.tuple #[.agg #[.int .i64 v0, .int .i64 v1, .string v2, .slice a3 l3 c3], .bool ok]) ∧
      LoopI w b bp cap T ps q r w4.heap.size (fun x n => idxLoop ps E q.depth f x n) ok (w4.alloc (.cells #[.int .i64 v0, .int .i64 v1, .string v2, .slice a3 l3 c3] 116)) := by
    obtain ⟨k4, hP⟩ := hP
    have hs4 := k4.size
    have hx4 := (k4.block w.heap.size (by omega) (by omega)).trans hx3
    cases rf with
    | inl k =>
      obtain ⟨v, n', ⟨v0, v1, v2, a3, l3, c3, rfl⟩, rfl, hR⟩ := hP
      rcases bindR_some hr with ⟨k', h5, h6⟩ | ⟨x, n, h5, _⟩
      · rw [hrf] at h5
        cases h5
        exact ⟨v0, v1, v2, a3, l3, c3, false, rfl, (k3.trans k4).alloc _, by simp, by omega, blk_alloc hx4 _, v0, v1, v2, a3, l3, c3, heap_alloc_new _ _, (fun e => by cases e), fun _ => ⟨k, n', h6, hR.below ((Below.refl _ _).alloc (Nat.le_refl _) _)⟩⟩
      · rw [hrf] at h5; cases h5
    | inr x =>
      obtain ⟨v, rfl, hA, hR⟩ := hP
      obtain ⟨v0, v1, v2, a3, l3, c3, rfl⟩ := hA.sh
      rcases bindR_some hr with ⟨k', h5, h6⟩ | ⟨y, n, h5, h6⟩
      · rw [hrf] at h5; cases h5
      · rw [hrf] at h5
        cases h5
        exact ⟨v0, v1, v2, a3, l3, c3, true, rfl, (k3.trans k4).alloc _, by simp, by omega, blk_alloc hx4 _, v0, v1, v2, a3, l3, c3, heap_alloc_new _ _, (fun _ => ⟨y, n, hA.move fun g hg hlt => ⟨by omega, Below.heap_alloc _ _ _ hlt⟩, hR.below ((Below.refl _ _).alloc (Nat.le_refl _) _), h6⟩), fun e => by cases e⟩
  clear hP hr hrf
  obtain ⟨v0, v1, v2, a3, l3, c3, ok, rfl, hL⟩ := hL
  go_wp2_with fail
  generalize w4.heap.size = eb at hL ⊢
  go_loopg [6] f (fun g s6 wr => ∃ ok, s6 = .bool ok ∧ LoopI w b bp cap T ps q r eb (fun x n => idxLoop ps E q.depth g x n) ok wr)
  case atStart => exact ⟨ok, rfl, hL⟩
  case round =>
    clear hL
    obtain ⟨ok, rfl, hI⟩ := hrel
    have hsz := hI.sz
    have hlo := hI.lo
    obtain ⟨e0, e1, e2, ea, el, ec, hec, hgood, hbad⟩ := hI.ec
    have hxb := hI.xb
    cases ok with
    | false =>
      obtain ⟨k, n', rfl, hR⟩ := hbad rfl
      clear hgood hbad
      have hx4 := cells4 hxb
      have hxz := thaw4 hxb
      have he4 := cells4 hec
      go_wp2_with fail
      exact fin_expr Tryz.results129 rfl rfl rfl (store4 hxb _ _ _ _) (postE_bad h hI.kp (kept4 _ _ _ _ _ _) (Nat.le_refl _) hR)
    | true =>
      obtain ⟨x, n, hA, hR, hl⟩ := hgood rfl
      clear hgood hbad
      cases gk with
      | zero => cases hl
      | succ g =>
        simp only [idxLoop] at hl
        by_cases hT : isT (cur ps n) 5 [91] = true
        · rw [if_pos hT] at hl
          go_wp2_with fail
          refine (skip_yes _ _ _ _ _ _ _ _ _ hR rfl hT).mono ?_
          rintro e w5 ⟨rfl, hR5, k5⟩
          have hs5 := k5.size
          have hA5 := hA.kept k5 (fun g hg => by omega)
          have hec5 := (k5.block eb (by omega) (by omega)).trans hec
          have hxb5 := (k5.block w.heap.size (by omega) (by omega)).trans hxb
          have kp5 := hI.kp.trans k5
          clear hR hI hxb hec hA
          go_wp2_with fail
          rcases bindR_some hl with ⟨k, h5, rfl⟩ | ⟨y, n5, h5, h6⟩
          · refine (hE _ _ _ _ _ _ _ (hR5.below ((Below.refl _ _).alloc (Nat.le_refl _) _)) h5).mono ?_
            rintro e w6 ⟨k6, v, n', ⟨f0, f1, f2, fa, fl, fc, rfl⟩, rfl, hR6⟩
            have hs6 := k6.size
            simp at hs6
            have hpb6 := (k6.block w5.heap.size (by simp) (by omega)).trans (heap_alloc_new w5 _)
            have hec6 := (k6.block eb (by simp; omega) (by omega)).trans (blk_alloc hec5 _)
            have hxb6 := (k6.block w.heap.size (by simp; omega) (by omega)).trans (blk_alloc hxb5 _)
            have p4 := cells4 hpb6
            have pz := thaw4 hpb6
            have e4 := cells4 hec6
            have ez := thaw4 hec6
            have hne : ¬ eb = w5.heap.size := by omega
            have hne' : ¬ w5.heap.size = eb := by omega
            have hlt6 : eb < w6.heap.size := by omega
            have hlt7 : w5.heap.size < w6.heap.size := by omega
            go_wp2_with fail
            go_roundg g
            case measure => omega
            case rel =>
              have kx := kept4 w5.heap.size w6 (.int .i64 f0) (.int .i64 f1) (.string f2) (.slice fa fl fc)
              have hz6 := kx.size
              exact ⟨false, rfl, loop_bad h ((kp5.trans (((Kept.refl _ _).alloc _).trans k6)).own kx (by omega)) hlo ((kx.block _ (by omega) (by omega)).trans hxb6) ((kx.block _ (by omega) (by omega)).trans hec6) (by omega) (hR6.own kx (by omega) (by omega) (by omega)) _ _ _ _ _ _⟩
          · refine (hE _ _ _ _ _ _ _ (hR5.below ((Below.refl _ _).alloc (Nat.le_refl _) _)) h5).mono ?_
            rintro e w6 ⟨k6, v, rfl, hAy, hR6⟩
            obtain ⟨f0, f1, f2, fa, fl, fc, rfl⟩ := hAy.sh
            have hs6 := k6.size
            simp at hs6
            have hpb6 := (k6.block w5.heap.size (by simp) (by omega)).trans (heap_alloc_new w5 _)
            have hec6 := (k6.block eb (by simp; omega) (by omega)).trans (blk_alloc hec5 _)
            have hxb6 := (k6.block w.heap.size (by simp; omega) (by omega)).trans (blk_alloc hxb5 _)
            have p4 := cells4 hpb6
            have pz := thaw4 hpb6
            have kx := kept4 w5.heap.size w6 (.int .i64 f0) (.int .i64 f1) (.string f2) (.slice fa fl fc)
            have hz6 := kx.size
            have kp7 := ((kp5.trans (((Kept.refl _ _).alloc _).trans k6)).own kx (by omega))
            have hR7 := hR6.own kx (by omega) (by omega) (by omega)
            have hpb7 := store4 hpb6 (.int .i64 f0) (.int .i64 f1) (.string f2) (.slice fa fl fc)
            have hec7 := (kx.block _ (by omega) (by omega)).trans hec6
            have hxb7 := (kx.block _ (by omega) (by omega)).trans hxb6
            have hAx7 : AnE (fun g => w.heap.size ≤ g ∧ g ≠ w.heap.size ∧ g ≠ eb) _ _ x := hA5.move fun g hg hlt => ⟨hg, (kx.block g (by omega) (by omega)).trans ((k6.block g (by simp; omega) (by omega)).trans (Below.heap_alloc _ _ _ hlt))⟩
            have hAy7 : AnE (fun g => w.heap.size ≤ g ∧ g ≠ w.heap.size ∧ g ≠ eb) _ _ y := hAy.move fun g hg hlt => ⟨by simp at hg; omega, kx.block g hlt (by simp at hg; omega)⟩
            clear hAy hA5
            go_wp2_with fail
            generalize ((((w6.setCell ⟨w5.heap.size, 0, none⟩ (.int .i64 f0)).setCell ⟨w5.heap.size, 1, none⟩ (.int .i64 f1)).setCell ⟨w5.heap.size, 2, none⟩ (.string f2)).setCell ⟨w5.heap.size, 3, none⟩ (.slice fa fl fc)) = w7 at *
            rcases bindR_some h6 with ⟨k, h7, rfl⟩ | ⟨u, n7, h7, h8⟩
            · rcases needM_some h7 with ⟨hT7, h9⟩ | ⟨hT7, h9⟩
              · cases h9
              · cases h9
                refine (mark_no _ _ _ _ _ _ _ _ hR7 hT7).mono ?_
                rintro e w8 ⟨rfl, hR8, k8⟩
                have hs8 := k8.size
                have hec8 := (k8.block _ (by omega) (by omega)).trans hec7
                have hpb8 := (k8.block _ (by omega) (by omega)).trans hpb7
                have p48 := cells4 hpb8
                have e48 := cells4 hec8
                have ez8 := thaw4 hec8
                have hlt8 : eb < w8.heap.size := by omega
                go_wp2_with fail
                go_roundg g
                case measure => omega
                case rel =>
                  exact ⟨false, rfl, loop_bad h (kp7.trans k8) hlo ((k8.block _ (by omega) (by omega)).trans hxb7) hec8 (by omega) hR8 _ _ _ _ _ _⟩
            · rcases needM_some h7 with ⟨hT7, h9⟩ | ⟨hT7, h9⟩
              · cases h9
                refine (mark_yes _ _ _ _ _ _ _ _ hR7 hT7).mono ?_
                rintro e w8 ⟨rfl, hR8, k8⟩
                have hs8 := k8.size
                have hec8 := (k8.block _ (by omega) (by omega)).trans hec7
                have hpb8 := (k8.block _ (by omega) (by omega)).trans hpb7
                have p48 := cells4 hpb8
                have e48 := cells4 hec8
                have ez8 := thaw4 hec8
                have hlt8 : eb < w8.heap.size := by omega
                go_wp2_with fail
                go_roundg g
                case measure => omega
                case rel =>
                  exact ⟨true, rfl, loop_ok h (kp7.trans k8) hlo ((k8.block _ (by omega) (by omega)).trans hxb7) hec8 (by omega) hR8 9 [] (hAx7.kept k8 (fun g hg => by omega)) (hAy7.kept k8 (fun g hg => by omega)) h8⟩
              · cases h9
        · rw [if_neg hT] at hl
          have hT' : isT (cur ps n) 5 [91] = false := by simpa using hT
          clear hT
          cases hl
          go_wp2_with fail
          refine (skip_no _ _ _ _ _ _ _ _ _ hR hT').mono ?_
          rintro e w5 ⟨rfl, hR5, k5⟩
          have hs5 := k5.size
          have hec5 := (k5.block eb (by omega) (by omega)).trans hec
          have hxb5 := (k5.block w.heap.size (by omega) (by omega)).trans hxb
          have hx4 := cells4 hxb5
          have hxz := thaw4 hxb5
          have he4 := cells4 hec5
          have hA5 : AnE (fun g => w.heap.size ≤ g ∧ g ≠ w.heap.size) _ _ x := (hA.kept k5 (fun g hg => by omega)).move fun g hg _ => ⟨⟨hg.1, hg.2.1⟩, rfl⟩
          have kp5 := hI.kp.trans k5
          clear hI hA
          go_wp2_with fail
          exact fin_expr Tryz.results129 rfl rfl rfl (store4 hxb5 _ _ _ _) (postE_ok h kp5 (kept4 _ _ _ _ _ _) (Nat.le_refl _) hR5 hA5)
end

section
open Go.RowKit
set_option linter.unusedSimpArgs false
set_option linter.unusedVariables false

set_option maxHeartbeats 2000000 in
theorem single_neg {ps : List Tok} {M : Nat → Nat → R Ex} (hM : SaidS ps M) (w : World) (b bp cap T : Nat) (q : RS) (r : Sum (Int × Int) (Ex × Nat)) (h : Rdr w b bp cap T ps q)
    (hn : (isT (cur ps q.next) 5 [45] || isT (cur ps q.next) 5 [33]) = true) (hr : negatedM ps M q.depth (cur ps q.next).s (q.next + 1) = some r) :
    Calls Tryz.prog 129 #[.pointer (some ⟨b, 0, none⟩)] w (PostE b bp cap T ps q w r) := by
  have hbs := h.bsize
  have hps := h.lt
  have hfar := h.far
  have hkk : ((cur ps q.next).kind != 0) = true := by
    rw [Bool.or_eq_true] at hn
    rcases hn with hn | hn <;> rw [kind_of_isT hn] <;> rfl
  have h0 := h.below ((Below.refl w.heap.size w).alloc (Nat.le_refl _) (.cells #[.int .i64 0, .int .i64 0, .string ⟨#[]⟩, .slice none 0 0] 116))
  have tail : ∀ (w1 w3 : World), w.heap.size + 1 ≤ w1.heap.size → w1.heap.size + 1 ≤ w3.heap.size → Rdr w3 b bp cap T ps q → Kept b w w3 → w3.heap[w.heap.size]? = some (.cells #[.int .i64 0, .int .i64 0, .string ⟨#[]⟩, .slice none 0 0] 116 (0, 0)) →
      w3.heap[w1.heap.size]? = some (.cells #[.int .i64 (cur ps q.next).kind, .int .i64 (cur ps q.next).at_, .int .i64 (cur ps q.next).n, .string ⟨(cur ps q.next).s.toArray⟩] 69 (0, 0)) → True := fun _ _ _ _ _ _ _ _ => trivial
  clear tail
  rcases hn1 : isT (cur ps q.next) 5 [45] with _ | _
  · have hn2 : isT (cur ps q.next) 5 [33] = true := by simpa [hn1] using hn
    clear hn
    go_enter Tryz.func129, Tryz.ntmps129
    go_wp2_with fail
    refine (peek_any _ _ _ _ _ _ _ h0).mono ?_
    rintro e w1 ⟨rfl, hb1⟩
    have h1 := h0.below hb1
    have hs1 := hb1.size
    simp at hs1
    have hx1 := (hb1.block w.heap.size (by simp)).trans (heap_alloc_new w _)
    have hp1 := heap_alloc_new w1 (.cells #[.int .i64 (cur ps q.next).kind, .int .i64 (cur ps q.next).at_, .int .i64 (cur ps q.next).n, .string ⟨(cur ps q.next).s.toArray⟩] 69)
    have hi := is_any (cur ps q.next)
    unfold Tok.val at hi ⊢
    go_wp2_with fail
    refine (hi _ _ _).mono ?_
    rintro e w2 ⟨rfl, hb2⟩
    have hs2 := hb2.size
    simp at hs2
    have hp2 := (hb2.block w1.heap.size (by simp)).trans hp1
    have pc := cells4 hp2
    go_wp2_with fail
    refine (hi _ _ _).mono ?_
    rintro e w3 ⟨rfl, hb3⟩
    have hs3 := hb3.size
    have h3 : Rdr w3 b bp cap T ps q := ((h1.below ((Below.refl w1.heap.size w1).alloc (Nat.le_refl _) _)).below hb2).below hb3
    have k3 : Kept b w w3 := (((((Kept.refl b w).alloc _).trans (Kept.of_below hb1)).alloc _).trans (Kept.of_below hb2)).trans (Kept.of_below hb3)
    have hx3 := (hb3.block w.heap.size (by omega)).trans ((hb2.block w.heap.size (by simp; omega)).trans (blk_alloc hx1 _))
    have hp3 := (hb3.block w1.heap.size (by omega)).trans hp2
    clear hi hp2 pc hp1 hx1 h1
    go_wp2_with fail
    refine (step_any _ _ _ _ _ _ _ h3 hkk).mono ?_
    rintro e w4 ⟨rfl, h4, k4⟩
    have hs4 := k4.size
    have hp4 := cells4 ((k4.block w1.heap.size (by omega) (by omega)).trans hp3)
    have hx4 := (k4.block w.heap.size (by omega) (by omega)).trans hx3
    have kk := k3.trans k4
    go_wp2_with fail
    refine (negated_any hM _ b bp cap T _ _ r h4 hr).mono ?_
    intro e w5 hP
    cases r with
    | inl k =>
      obtain ⟨k5, v, n', ⟨v0, v1, v2, a3, l3, c3, rfl⟩, rfl, hR⟩ := hP
      have hblk := (k5.block w.heap.size (by omega) (by omega)).trans hx4
      have hc := cells4 hblk
      have hz := thaw4 hblk
      go_wp2_with fail
      exact fin_expr Tryz.results129 rfl rfl rfl (store4 hblk _ _ _ _) (postE_bad h (kk.trans k5) (kept4 _ _ _ _ _ _) (by omega) hR)
    | inr x =>
      obtain ⟨k5, v, rfl, hA, hR⟩ := hP
      obtain ⟨v0, v1, v2, a3, l3, c3, rfl⟩ := hA.sh
      have hblk := (k5.block w.heap.size (by omega) (by omega)).trans hx4
      have hc := cells4 hblk
      have hz := thaw4 hblk
      have hA' : AnE (fun g => w.heap.size ≤ g ∧ g ≠ w.heap.size) w5 _ x.1 := hA.move fun g hg _ => ⟨by omega, rfl⟩
      clear hA
      go_wp2_with fail
      exact fin_expr Tryz.results129 rfl rfl rfl (store4 hblk _ _ _ _) (postE_ok h (kk.trans k5) (kept4 _ _ _ _ _ _) (by omega) hR hA')
  · clear hn
    go_enter Tryz.func129, Tryz.ntmps129
    go_wp2_with fail
    refine (peek_any _ _ _ _ _ _ _ h0).mono ?_
    rintro e w1 ⟨rfl, hb1⟩
    have h1 := h0.below hb1
    have hs1 := hb1.size
    simp at hs1
    have hx1 := (hb1.block w.heap.size (by simp)).trans (heap_alloc_new w _)
    have hp1 := heap_alloc_new w1 (.cells #[.int .i64 (cur ps q.next).kind, .int .i64 (cur ps q.next).at_, .int .i64 (cur ps q.next).n, .string ⟨(cur ps q.next).s.toArray⟩] 69)
    have hi := is_any (cur ps q.next)
    unfold Tok.val at hi ⊢
    go_wp2_with fail
    refine (hi _ _ _).mono ?_
    rintro e w3 ⟨rfl, hb3⟩
    have hs3 := hb3.size
    simp at hs3
    have h3 : Rdr w3 b bp cap T ps q := (h1.below ((Below.refl w1.heap.size w1).alloc (Nat.le_refl _) _)).below hb3
    have k3 : Kept b w w3 := ((((Kept.refl b w).alloc _).trans (Kept.of_below hb1)).alloc _).trans (Kept.of_below hb3)
    have hx3 := (hb3.block w.heap.size (by simp; omega)).trans (blk_alloc hx1 _)
    have hp3 := (hb3.block w1.heap.size (by simp)).trans hp1
    clear hi hp1 hx1 h1
    go_wp2_with fail
    refine (step_any _ _ _ _ _ _ _ h3 hkk).mono ?_
    rintro e w4 ⟨rfl, h4, k4⟩
    have hs4 := k4.size
    have hp4 := cells4 ((k4.block w1.heap.size (by omega) (by omega)).trans hp3)
    have hx4 := (k4.block w.heap.size (by omega) (by omega)).trans hx3
    have kk := k3.trans k4
    go_wp2_with fail
    refine (negated_any hM _ b bp cap T _ _ r h4 hr).mono ?_
    intro e w5 hP
    cases r with
    | inl k =>
      obtain ⟨k5, v, n', ⟨v0, v1, v2, a3, l3, c3, rfl⟩, rfl, hR⟩ := hP
      have hblk := (k5.block w.heap.size (by omega) (by omega)).trans hx4
      have hc := cells4 hblk
      have hz := thaw4 hblk
      go_wp2_with fail
      exact fin_expr Tryz.results129 rfl rfl rfl (store4 hblk _ _ _ _) (postE_bad h (kk.trans k5) (kept4 _ _ _ _ _ _) (by omega) hR)
    | inr x =>
      obtain ⟨k5, v, rfl, hA, hR⟩ := hP
      obtain ⟨v0, v1, v2, a3, l3, c3, rfl⟩ := hA.sh
      have hblk := (k5.block w.heap.size (by omega) (by omega)).trans hx4
      have hc := cells4 hblk
      have hz := thaw4 hblk
      have hA' : AnE (fun g => w.heap.size ≤ g ∧ g ≠ w.heap.size) w5 _ x.1 := hA.move fun g hg _ => ⟨by omega, rfl⟩
      clear hA
      go_wp2_with fail
      exact fin_expr Tryz.results129 rfl rfl rfl (store4 hblk _ _ _ _) (postE_ok h (kk.trans k5) (kept4 _ _ _ _ _ _) (by omega) hR hA')

theorem single_said {ps : List Tok} {E : Nat → Nat → R Ex} (hE : SaidE ps E) : ∀ f, f ≤ 1000000 → SaidS ps (singleM ps E f)
  | 0, _ => fun w b bp cap T q r h hr => by simp [singleM] at hr
  | f + 1, hf => fun w b bp cap T q r h hr => by
    unfold singleM at hr
    by_cases hn : (isT (cur ps q.next) 5 [45] || isT (cur ps q.next) 5 [33]) = true
    · rw [if_pos hn] at hr
      exact single_neg (single_said hE f (by omega)) w b bp cap T q r h hn hr
    · rw [if_neg hn] at hr
      have hn' : (isT (cur ps q.next) 5 [45] || isT (cur ps q.next) 5 [33]) = false := by simpa using hn
      rw [Bool.or_eq_false_iff] at hn'
      exact single_loop hE w b bp cap T f (by omega) q r h hn'.1 hn'.2 hr
end

section
open Go.RowKit
set_option linter.unusedSimpArgs false
set_option linter.unusedVariables false

set_option maxHeartbeats 1000000 in
theorem operation_five {ps : List Tok} {M : Nat → Nat → R Ex} (hM : SaidS ps M) : SaidOp ps 5 M := by
  intro w b bp cap T q r h hr
  have hbs := h.bsize
  have h0 := h.below ((Below.refl w.heap.size w).alloc (Nat.le_refl _) (.cells #[.int .i64 0, .int .i64 0, .string ⟨#[]⟩, .slice none 0 0] 116))
  have hx0 := heap_alloc_new w (.cells #[.int .i64 0, .int .i64 0, .string ⟨#[]⟩, .slice none 0 0] 116)
  have hl5 : (((5 : Nat) : Int) == 5) = true := rfl
  go_enter Tryz.func125, Tryz.ntmps125
  go_wp2_with fail
  refine (hM _ b bp cap T q r h0 hr).mono ?_
  intro e w5 hP
  cases r with
  | inl k =>
    obtain ⟨k5, v, n', ⟨v0, v1, v2, a3, l3, c3, rfl⟩, rfl, hR⟩ := hP
    have hblk := (k5.block w.heap.size (by simp) (by omega)).trans hx0
    have hc := cells4 hblk
    have hz := thaw4 hblk
    go_wp2_with fail
    exact fin_expr Tryz.results125 rfl rfl rfl (store4 hblk _ _ _ _) (postE_bad h (((Kept.refl b w).alloc _).trans k5) (kept4 _ _ _ _ _ _) (by omega) hR)
  | inr x =>
    obtain ⟨k5, v, rfl, hA, hR⟩ := hP
    obtain ⟨v0, v1, v2, a3, l3, c3, rfl⟩ := hA.sh
    have hblk := (k5.block w.heap.size (by simp) (by omega)).trans hx0
    have hc := cells4 hblk
    have hz := thaw4 hblk
    have hA' : AnE (fun g => w.heap.size ≤ g ∧ g ≠ w.heap.size) w5 _ x.1 := hA.move fun g hg _ => ⟨by simp at hg; omega, rfl⟩
    clear hA
    go_wp2_with fail
    exact fin_expr Tryz.results125 rfl rfl rfl (store4 hblk _ _ _ _) (postE_ok h (((Kept.refl b w).alloc _).trans k5) (kept4 _ _ _ _ _ _) (by omega) hR hA')

set_option maxHeartbeats 3000000 in
theorem operation_loop {ps : List Tok} {M : Nat → Nat → R Ex} (lv : Nat) (hlv : lv < 5) (hM : SaidOp ps (lv + 1) M) (f : Nat) :
    SaidOp ps lv (fun d n => bindR (M d n) fun x n1 => opLoop ps lv (fun m => M d m) f x n1) := by
  intro w b bp cap T q r h hr
  have hbs := h.bsize
  have hps := h.lt
  have hfar := h.far
  have h0 := h.below ((Below.refl w.heap.size w).alloc (Nat.le_refl _) (.cells #[.int .i64 0, .int .i64 0, .string ⟨#[]⟩, .slice none 0 0] 116))
  have hx0 := heap_alloc_new w (.cells #[.int .i64 0, .int .i64 0, .string ⟨#[]⟩, .slice none 0 0] 116)
  have hl5 : ((lv : Int) == 5) = false := by simp; omega
  have hM' : ∀ (w : World) (q : RS) (r : Sum (Int × Int) (Ex × Nat)), Rdr w b bp cap T ps q → M q.depth q.next = some r →
      Calls Tryz.prog 125 #[.pointer (some ⟨b, 0, none⟩), .int .i64 ((lv : Int) + 1)] w (PostE b bp cap T ps q w r) := by
    intro w q r hR hr
    have := hM w b bp cap T q r hR hr
    rw [show ((lv + 1 : Nat) : Int) = (lv : Int) + 1 by omega] at this
    exact this
  have HM : Hid (∀ (w : World) (q : RS) (r : Sum (Int × Int) (Ex × Nat)), Rdr w b bp cap T ps q → M q.depth q.next = some r →
      Calls Tryz.prog 125 #[.pointer (some ⟨b, 0, none⟩), .int .i64 ((lv : Int) + 1)] w (PostE b bp cap T ps q w r)) := hM'
  clear hM'
  have hlb : (0 : Int) ≤ lv := by omega
  have hlb5 : (lv : Int) < 5 := by omega
  go_enter Tryz.func125, Tryz.ntmps125
  go_wp2_with fail
  have hfst : ∃ rf, M q.depth q.next = some rf := by
    rcases bindR_some hr with ⟨k, h5, _⟩ | ⟨x, n, h5, _⟩
    · exact ⟨_, h5⟩
    · exact ⟨_, h5⟩
  obtain ⟨rf, hrf⟩ := hfst
  refine (HM.out _ q rf h0 hrf).mono ?_
  intro e w4 hP
  have hL : ∃ (v0 v1 : Int) (v2 : ByteArray) (a3 : Option Addr) (l3 c3 : Nat) (ok : Bool), e = .returned (.tuple #[.agg #[.int .i64 v0, .int .i64 v1, .string v2, .slice a3 l3 c3], .bool ok]) ∧
      LoopI w b bp cap T ps q r w4.heap.size (fun x n => opLoop ps lv (fun m => M q.depth m) f x n) ok (w4.alloc (.cells #[.int .i64 v0, .int .i64 v1, .string v2, .slice a3 l3 c3] 116)) := by
    obtain ⟨k4, hP⟩ := hP
    have hs4 := k4.size
    simp at hs4
    have hx4 := (k4.block w.heap.size (by simp) (by omega)).trans hx0
    have k3 : Kept b w w4 := ((Kept.refl b w).alloc _).trans k4
    cases rf with
    | inl k =>
      obtain ⟨v, n', ⟨v0, v1, v2, a3, l3, c3, rfl⟩, rfl, hR⟩ := hP
      rcases bindR_some hr with ⟨k', h5, h6⟩ | ⟨x, n, h5, _⟩
      · rw [hrf] at h5
        cases h5
        exact ⟨v0, v1, v2, a3, l3, c3, false, rfl, k3.alloc _, by simp, by omega, blk_alloc hx4 _, v0, v1, v2, a3, l3, c3, heap_alloc_new _ _, (fun e => by cases e), fun _ => ⟨k, n', h6, hR.below ((Below.refl _ _).alloc (Nat.le_refl _) _)⟩⟩
      · rw [hrf] at h5; cases h5
    | inr x =>
      obtain ⟨v, rfl, hA, hR⟩ := hP
      obtain ⟨v0, v1, v2, a3, l3, c3, rfl⟩ := hA.sh
      rcases bindR_some hr with ⟨k', h5, h6⟩ | ⟨y, n, h5, h6⟩
      · rw [hrf] at h5; cases h5
      · rw [hrf] at h5
        cases h5
        exact ⟨v0, v1, v2, a3, l3, c3, true, rfl, k3.alloc _, by simp, by omega, blk_alloc hx4 _, v0, v1, v2, a3, l3, c3, heap_alloc_new _ _, (fun _ => ⟨y, n, hA.move fun g hg hlt => ⟨by simp at hg; omega, Below.heap_alloc _ _ _ hlt⟩, hR.below ((Below.refl _ _).alloc (Nat.le_refl _) _), h6⟩), fun e => by cases e⟩
  clear hP hr hrf
  obtain ⟨v0, v1, v2, a3, l3, c3, ok, rfl, hL⟩ := hL
  go_wp2_with fail
  generalize w4.heap.size = eb at hL ⊢
  go_loopg [7] f (fun g s7 wr => ∃ ok, s7 = .bool ok ∧ LoopI w b bp cap T ps q r eb (fun x n => opLoop ps lv (fun m => M q.depth m) g x n) ok wr)
  case atStart => exact ⟨ok, rfl, hL⟩
  case round =>
    clear hL
    obtain ⟨ok, rfl, hI⟩ := hrel
    have hsz := hI.sz
    have hlo := hI.lo
    obtain ⟨e0, e1, e2, ea, el, ec, hec, hgood, hbad⟩ := hI.ec
    have hxb := hI.xb
    cases ok with
    | false =>
      obtain ⟨k, n', rfl, hR⟩ := hbad rfl
      clear hgood hbad
      have hx4 := cells4 hxb
      have hxz := thaw4 hxb
      have he4 := cells4 hec
      go_wp2_with fail
      exact fin_expr Tryz.results125 rfl rfl rfl (store4 hxb _ _ _ _) (postE_bad h hI.kp (kept4 _ _ _ _ _ _) (Nat.le_refl _) hR)
    | true =>
      obtain ⟨x, n, hA, hR, hl⟩ := hgood rfl
      clear hgood hbad
      cases gk with
      | zero => cases hl
      | succ g =>
        simp only [opLoop] at hl
        by_cases hT : isOpM (cur ps n) lv = true
        · rw [if_pos hT] at hl
          have hkk : ((cur ps n).kind != 0) = true := by
            have : (cur ps n).kind = 5 := by simp [isOpM] at hT; exact hT.1
            rw [this]; rfl
          go_wp2_with fail
          refine (peek_any _ _ _ _ _ _ _ hR).mono ?_
          rintro e w5 ⟨rfl, hb5⟩
          have hs5 := hb5.size
          have hR5 := hR.below hb5
          have hG5 : 9 ≤ w5.heap.size := by omega
          go_wp2_with fail
          refine (isOperator_any _ lv hlv _ hG5 hR5.tab).mono ?_
          rintro e w6 ⟨rfl, hb6⟩
          have hs6 := hb6.size
          have hR6 := hR5.below hb6
          go_wp2_with fail
          refine (peek_any _ _ _ _ _ _ _ hR6).mono ?_
          rintro e w7 ⟨rfl, hb7⟩
          have hs7 := hb7.size
          have hR7 := hR6.below hb7
          unfold Tok.val
          go_wp2_with fail
          refine (step_any _ _ _ _ _ _ _ hR7 hkk).mono ?_
          rintro e w8 ⟨rfl, hR8, k8⟩
          have hs8 := k8.size
          have kk8 : Kept b wr w8 := (((Kept.of_below hb5).trans (Kept.of_below hb6)).trans (Kept.of_below hb7)).trans k8
          have hA8 := hA.kept kk8 (fun g hg => by omega)
          have hec8 := (kk8.block eb (by omega) (by omega)).trans hec
          have hxb8 := (kk8.block w.heap.size (by omega) (by omega)).trans hxb
          have kp8 := hI.kp.trans kk8
          clear hR hI hxb hec hA hR5 hR6 hR7 hb5 hb6 hb7 k8 kk8
          go_wp2_with fail
          rcases bindR_some hl with ⟨k, h5, rfl⟩ | ⟨y, n5, h5, h6⟩
          · refine (HM.out _ { q with next := n + 1 } _ (hR8.below ((Below.refl _ _).alloc (Nat.le_refl _) _)) h5).mono ?_
            rintro e w9 ⟨k9, v, n', ⟨f0, f1, f2, fa, fl, fc, rfl⟩, rfl, hR9⟩
            have hs9 := k9.size
            simp at hs9
            have hpb9 := (k9.block w8.heap.size (by simp) (by omega)).trans (heap_alloc_new w8 _)
            have hec9 := (k9.block eb (by simp; omega) (by omega)).trans (blk_alloc hec8 _)
            have hxb9 := (k9.block w.heap.size (by simp; omega) (by omega)).trans (blk_alloc hxb8 _)
            have p4 := cells4 hpb9
            have pz := thaw4 hpb9
            have e4 := cells4 hec9
            have ez := thaw4 hec9
            have hne : ¬ eb = w8.heap.size := by omega
            have hne' : ¬ w8.heap.size = eb := by omega
            have hlt6 : eb < w9.heap.size := by omega
            have hlt7 : w8.heap.size < w9.heap.size := by omega
            go_wp2_with fail
            go_roundg g
            case measure => omega
            case rel =>
              have kx := kept4 w8.heap.size w9 (.int .i64 f0) (.int .i64 f1) (.string f2) (.slice fa fl fc)
              have hz9 := kx.size
              exact ⟨false, rfl, loop_bad h ((kp8.trans (((Kept.refl _ _).alloc _).trans k9)).own kx (by omega)) hlo ((kx.block _ (by omega) (by omega)).trans hxb9) ((kx.block _ (by omega) (by omega)).trans hec9) (by omega) (hR9.own kx (by omega) (by omega) (by omega)) _ _ _ _ _ _⟩
          · refine (HM.out _ { q with next := n + 1 } _ (hR8.below ((Below.refl _ _).alloc (Nat.le_refl _) _)) h5).mono ?_
            rintro e w9 ⟨k9, v, rfl, hAy, hR9⟩
            obtain ⟨f0, f1, f2, fa, fl, fc, rfl⟩ := hAy.sh
            have hs9 := k9.size
            simp at hs9
            have hpb9 := (k9.block w8.heap.size (by simp) (by omega)).trans (heap_alloc_new w8 _)
            have hec9 := (k9.block eb (by simp; omega) (by omega)).trans (blk_alloc hec8 _)
            have hxb9 := (k9.block w.heap.size (by simp; omega) (by omega)).trans (blk_alloc hxb8 _)
            have p4 := cells4 hpb9
            have pz := thaw4 hpb9
            have e4 := cells4 hec9
            have ez := thaw4 hec9
            have hne : ¬ eb = w8.heap.size := by omega
            have hne' : ¬ w8.heap.size = eb := by omega
            have hlt6 : eb < w9.heap.size := by omega
            have hlt7 : w8.heap.size < w9.heap.size := by omega
            have kx := kept4 w8.heap.size w9 (.int .i64 f0) (.int .i64 f1) (.string f2) (.slice fa fl fc)
            have hAx9 : AnE (fun g => w.heap.size ≤ g ∧ g ≠ w.heap.size ∧ g ≠ eb) _ _ x := hA8.move fun g hg hlt => ⟨hg, (kx.block g (by omega) (by omega)).trans ((k9.block g (by simp; omega) (by omega)).trans (Below.heap_alloc _ _ _ hlt))⟩
            have hAy9 : AnE (fun g => w.heap.size ≤ g ∧ g ≠ w.heap.size ∧ g ≠ eb) _ _ y := hAy.move fun g hg hlt => ⟨by simp at hg; omega, kx.block g hlt (by simp at hg; omega)⟩
            have HA : Hid (_ ∧ _) := ⟨hAx9, hAy9⟩
            clear hAy hA8 hAx9 hAy9
            go_wp2_with fail
            go_roundg g
            case measure => omega
            case rel =>
              have hz9 := kx.size
              have hl' := loop_ok (L := fun x n => opLoop ps lv (fun m => M q.depth m) g x n) (r := r) h ((kp8.trans (((Kept.refl _ _).alloc _).trans k9)).own kx (by omega)) hlo ((kx.block _ (by omega) (by omega)).trans hxb9) ((kx.block _ (by omega) (by omega)).trans hec9) (by omega) (hR9.own kx (by omega) (by omega) (by omega)) 5 (cur ps n).s HA.out.1 HA.out.2 h6
              rw [size_store4] at hl'
              exact ⟨true, rfl, hl'⟩
        · rw [if_neg hT] at hl
          have hT' : isOpM (cur ps n) lv = false := by simpa using hT
          clear hT
          cases hl
          go_wp2_with fail
          refine (peek_any _ _ _ _ _ _ _ hR).mono ?_
          rintro e w5 ⟨rfl, hb5⟩
          have hs5 := hb5.size
          have hR5 := hR.below hb5
          have hG5 : 9 ≤ w5.heap.size := by omega
          go_wp2_with fail
          refine (isOperator_any _ lv hlv _ hG5 hR5.tab).mono ?_
          rintro e w6 ⟨rfl, hb6⟩
          have hs6 := hb6.size
          have hR6 := hR5.below hb6
          have kk6 : Kept b wr w6 := (Kept.of_below hb5).trans (Kept.of_below hb6)
          have hec6 := (kk6.block eb (by omega) (by omega)).trans hec
          have hxb6 := (kk6.block w.heap.size (by omega) (by omega)).trans hxb
          have hx4 := cells4 hxb6
          have hxz := thaw4 hxb6
          have he4 := cells4 hec6
          have hA6 : AnE (fun g => w.heap.size ≤ g ∧ g ≠ w.heap.size) _ _ x := (hA.kept kk6 (fun g hg => by omega)).move fun g hg _ => ⟨⟨hg.1, hg.2.1⟩, rfl⟩
          have kp6 := hI.kp.trans kk6
          clear hI hA
          go_wp2_with fail
          exact fin_expr Tryz.results125 rfl rfl rfl (store4 hxb6 _ _ _ _) (postE_ok h kp6 (kept4 _ _ _ _ _ _) (Nat.le_refl _) hR6 hA6)

theorem op_said {ps : List Tok} {E : Nat → Nat → R Ex} (hE : SaidE ps E) (f : Nat) (hf : f ≤ 1000000) : ∀ (k lv : Nat), lv + k = 5 → SaidOp ps lv (opM ps E f k)
  | 0, lv, h => by
    obtain rfl : lv = 5 := by omega
    exact operation_five (M := fun d n => singleM ps E f d n) (single_said hE f hf)
  | k + 1, lv, h => by
    have := operation_loop lv (by omega) (op_said hE f hf k (lv + 1) (by omega)) f
    intro w b bp cap T q r hR hr
    refine this w b bp cap T q r hR ?_
    have e : 4 - k = lv := by omega
    simp only [opM, e] at hr
    exact hr

theorem expr_said (ps : List Tok) : ∀ f, f ≤ 1000000 → SaidE ps (exprM ps f)
  | 0, _ => fun w b bp cap T q r h hr => by simp [exprM] at hr
  | f + 1, hf => fun w b bp cap T q r h hr => expression_any (op_said (expr_said ps f (by omega)) f (by omega) 5 0 rfl) w b bp cap T q r h hr
end

section
open Go.RowKit
set_option linter.unusedSimpArgs false
set_option linter.unusedVariables false

/-- a case of a switch: its numbers, its block -/
def IsC (P : Value → St → Prop) (S : Nat → Prop) (w : World) (v : Value) (c : List Int × List St) : Prop :=
  ∃ a l, v = .agg #[a, l] ∧ Row S w (fun u n => u = .int .i64 n) a c.1 ∧ Row S w P l c.2

def IsS : Nat → (Nat → Prop) → World → Value → St → Prop
  | 0, _, _, _, _ => False
  | f + 1, S, w, v, x => ∃ ae ab al ac, v = .agg #[.int .i64 x.kind, .string ⟨x.s.toArray⟩, .string ⟨x.t.toArray⟩, ae, ab, al, ac] ∧ Row S w (AnE S w) ae x.exprs ∧ Row S w (IsS f S w) ab x.body ∧ Row S w (IsS f S w) al x.els ∧
    Row S w (IsC (IsS f S w) S w) ac x.cases

theorem IsC.move {P Q : Value → St → Prop} {S S' : Nat → Prop} {w w' : World} {v : Value} {c : List Int × List St} (h : IsC P S w v c) (hk : ∀ g, S g → g < w.heap.size → S' g ∧ w'.heap[g]? = w.heap[g]?) (hp : ∀ u x, P u x → Q u x) : IsC Q S' w' v c := by
  obtain ⟨a, l, hv, h1, h2⟩ := h
  exact ⟨a, l, hv, h1.move hk (fun _ _ h => h), h2.move hk hp⟩

theorem IsS.move {S S' : Nat → Prop} {w w' : World} (hk : ∀ g, S g → g < w.heap.size → S' g ∧ w'.heap[g]? = w.heap[g]?) :
    ∀ (f : Nat) (v : Value) (x : St), IsS f S w v x → IsS f S' w' v x
  | 0, _, _, h => h.elim
  | f + 1, v, x, ⟨ae, ab, al, ac, hv, h1, h2, h3, h4⟩ => ⟨ae, ab, al, ac, hv, h1.move hk (fun _ _ h => h.move hk), h2.move hk (IsS.move hk f), h3.move hk (IsS.move hk f), h4.move hk (fun _ _ h => h.move hk (IsS.move hk f))⟩

theorem IsS.up {S : Nat → Prop} {w : World} : ∀ (f : Nat) (v : Value) (x : St), IsS f S w v x → IsS (f + 1) S w v x
  | 0, _, _, h => h.elim
  | f + 1, v, x, ⟨ae, ab, al, ac, hv, h1, h2, h3, h4⟩ => ⟨ae, ab, al, ac, hv, h1, h2.move (fun g h _ => ⟨h, rfl⟩) (IsS.up f), h3.move (fun g h _ => ⟨h, rfl⟩) (IsS.up f), h4.move (fun g h _ => ⟨h, rfl⟩) (fun _ _ h => h.move (fun g h _ => ⟨h, rfl⟩) (IsS.up f))⟩

theorem IsS.le {S : Nat → Prop} {w : World} {f g : Nat} (h : f ≤ g) {v : Value} {x : St} (hx : IsS f S w v x) : IsS g S w v x := by
  induction h with
  | refl => exact hx
  | step _ ih => exact IsS.up _ _ _ ih

def AnS (S : Nat → Prop) (w : World) (v : Value) (x : St) : Prop := ∃ f, IsS f S w v x

theorem AnS.move {S S' : Nat → Prop} {w w' : World} {v : Value} {x : St} (h : AnS S w v x) (hk : ∀ g, S g → g < w.heap.size → S' g ∧ w'.heap[g]? = w.heap[g]?) : AnS S' w' v x := by
  obtain ⟨f, h⟩ := h
  exact ⟨f, IsS.move hk f v x h⟩

theorem fuel_allS {S : Nat → Prop} {w : World} : ∀ {vs : List Value} {xs : List St}, AllP (AnS S w) vs xs → ∃ f, AllP (IsS f S w) vs xs
  | [], [], _ => ⟨0, trivial⟩
  | v :: vs, x :: xs, ⟨⟨f, a⟩, b⟩ => by
    obtain ⟨g, b⟩ := fuel_allS b
    exact ⟨max f g, IsS.le (Nat.le_max_left _ _) a, b.imp fun _ _ h => IsS.le (Nat.le_max_right _ _) h⟩
  | [], _ :: _, x => x.elim
  | _ :: _, [], x => x.elim

theorem fuel_rowS {S : Nat → Prop} {w : World} {v : Value} {xs : List St} (h : Row S w (AnS S w) v xs) : ∃ f, Row S w (IsS f S w) v xs := by
  obtain ⟨vs, h1, h2⟩ := h
  obtain ⟨f, h2⟩ := fuel_allS h2
  exact ⟨f, vs, h1, h2⟩

/-- a case, of whatever depth -/
def AnC (S : Nat → Prop) (w : World) (v : Value) (c : List Int × List St) : Prop := IsC (AnS S w) S w v c

theorem fuel_allC {S : Nat → Prop} {w : World} : ∀ {vs : List Value} {xs : List (List Int × List St)}, AllP (AnC S w) vs xs → ∃ f, AllP (IsC (IsS f S w) S w) vs xs
  | [], [], _ => ⟨0, trivial⟩
  | v :: vs, x :: xs, ⟨⟨a, l, hv, h1, h2⟩, b⟩ => by
    obtain ⟨g, b⟩ := fuel_allC b
    obtain ⟨f, h2⟩ := fuel_rowS h2
    exact ⟨max f g, ⟨a, l, hv, h1, h2.move (fun g h _ => ⟨h, rfl⟩) fun _ _ h => IsS.le (Nat.le_max_left _ _) h⟩, b.imp fun _ _ h => h.move (fun g h _ => ⟨h, rfl⟩) fun _ _ h => IsS.le (Nat.le_max_right _ _) h⟩
  | [], _ :: _, x => x.elim
  | _ :: _, [], x => x.elim

theorem AnC.move {S S' : Nat → Prop} {w w' : World} {v : Value} {x : List Int × List St} (h : AnC S w v x) (hk : ∀ g, S g → g < w.heap.size → S' g ∧ w'.heap[g]? = w.heap[g]?) : AnC S' w' v x :=
  IsC.move h hk fun _ _ h => h.move hk

theorem AnS.mk {S : Nat → Prop} {w : World} {ae ab al ac : Value} (k : Int) (s t : List UInt8) (xe : List Ex) (xb xl : List St) (xc : List (List Int × List St)) (h1 : Row S w (AnE S w) ae xe) (h2 : Row S w (AnS S w) ab xb) (h3 : Row S w (AnS S w) al xl)
    (h4 : Row S w (AnC S w) ac xc) : AnS S w (.agg #[.int .i64 k, .string ⟨s.toArray⟩, .string ⟨t.toArray⟩, ae, ab, al, ac]) ⟨k, s, t, xe, xb, xl, xc⟩ := by
  obtain ⟨f, h2⟩ := fuel_rowS h2
  obtain ⟨g, h3⟩ := fuel_rowS h3
  obtain ⟨vs, h5, h6⟩ := h4
  obtain ⟨i, h6⟩ := fuel_allC h6
  refine ⟨max f (max g i) + 1, ae, ab, al, ac, rfl, h1, h2.move (fun g h _ => ⟨h, rfl⟩) fun _ _ h => IsS.le (Nat.le_max_left _ _) h, h3.move (fun g h _ => ⟨h, rfl⟩) fun _ _ h => IsS.le (by omega) h, vs, h5, h6.imp fun _ _ h => h.move (fun g h _ => ⟨h, rfl⟩) fun _ _ h => IsS.le (by omega) h⟩

theorem Row.nil {B : Type} (S : Nat → Prop) (w : World) (P : Value → B → Prop) : Row S w P (.slice none 0 0) [] := ⟨[], .inl ⟨rfl, rfl, rfl⟩, trivial⟩

theorem Row.slice {B : Type} {S : Nat → Prop} {w : World} {P : Value → B → Prop} {v : Value} {xs : List B} (h : Row S w P v xs) : ∃ a c, v = .slice a xs.length c := by
  obtain ⟨vs, h1, _⟩ := h
  rcases h1 with ⟨rfl, h, _⟩ | ⟨g, cap, _, _, _, rfl, _⟩
  · exact ⟨none, 0, by rw [h]⟩
  · exact ⟨_, _, rfl⟩

/-- what a statement's value looks like, whatever it is -/
def ShS (v : Value) : Prop := ∃ k s t a1 l1 c1 a2 l2 c2 a3 l3 c3 a4 l4 c4, v = .agg #[.int .i64 k, .string s, .string t, .slice a1 l1 c1, .slice a2 l2 c2, .slice a3 l3 c3, .slice a4 l4 c4]

theorem AnS.sh {S : Nat → Prop} {w : World} {v : Value} {x : St} (h : AnS S w v x) : ShS v := by
  obtain ⟨f, h⟩ := h
  cases f with
  | zero => exact h.elim
  | succ f =>
    obtain ⟨ae, ab, al, ac, rfl, h1, h2, h3, h4⟩ := h
    obtain ⟨a1, c1, rfl⟩ := h1.slice
    obtain ⟨a2, c2, rfl⟩ := h2.slice
    obtain ⟨a3, c3, rfl⟩ := h3.slice
    obtain ⟨a4, c4, rfl⟩ := h4.slice
    exact ⟨_, _, _, _, _, _, _, _, _, _, _, _, _, _, _, rfl⟩

def st0 (k : Int) (s t : List UInt8) : St := ⟨k, s, t, [], [], [], []⟩

/-- statements up to the bracket -/
def stmtsLoop (ps : List Tok) (M : Nat → R St) : Nat → List St → Nat → R (List St)
  | 0, _, _ => none
  | f + 1, acc, n => if isT (cur ps n) 5 [125] then okR acc (n + 1) else bindR (M n) fun x n1 => stmtsLoop ps M f (acc ++ [x]) n1

def blockM (ps : List Tok) (M : Nat → Nat → R St) (f d n : Nat) : R (List St) :=
  bindR (needM ps 5 [123] n) fun _ n1 => if 30 ≤ d then badR ((cur ps n1).at_, 8) else stmtsLoop ps (M (d + 1)) f [] n1

def headedM (E : Nat → Nat → R Ex) (B : Nat → Nat → R (List St)) (d : Nat) (s : St) (n : Nat) : R St :=
  bindR (E d n) fun x n1 => bindR (B d n1) fun l n2 => okR { s with exprs := [x], body := l } n2

def ifM (ps : List Tok) (E : Nat → Nat → R Ex) (B : Nat → Nat → R (List St)) : Nat → Nat → Nat → R St
  | 0, _, _ => none
  | f + 1, d, n => bindR (headedM E B d (st0 4 [] []) n) fun s n1 =>
    if isT (cur ps n1) 2 [101, 108, 115, 101] then
      (if isT (cur ps (n1 + 1)) 2 [105, 102] then
        (if 30 ≤ d then badR ((cur ps (n1 + 1 + 1)).at_, 8) else bindR (ifM ps E B f (d + 1) (n1 + 1 + 1)) fun s2 n2 => okR { s with els := [s2] } n2)
      else bindR (B d (n1 + 1)) fun l n2 => okR { s with els := l } n2)
    else okR s n1

def nameM (ps : List Tok) (n : Nat) : R (List UInt8) := if (cur ps n).kind == 1 then okR (cur ps n).s (n + 1) else badR (refuseM ps n)

def atRangeM (ps : List Tok) (n : Nat) : Bool := ((cur ps n).kind == 1 || (cur ps n).kind == 2) && isT (cur ps (n + 1)) 5 [44]

def rangeM (ps : List Tok) (E : Nat → Nat → R Ex) (B : Nat → Nat → R (List St)) (d n : Nat) : R St :=
  bindR (nameM ps n) fun s n1 => bindR (needM ps 5 [44] n1) fun _ n2 => bindR (nameM ps n2) fun t n3 => bindR (needM ps 5 [58, 61] n3) fun _ n4 => bindR (needM ps 2 [114, 97, 110, 103, 101] n4) fun _ n5 => headedM E B d (st0 6 s t) n5

def loopM (ps : List Tok) (E : Nat → Nat → R Ex) (B : Nat → Nat → R (List St)) (d n : Nat) : R St := if atRangeM ps n then rangeM ps E B d n else headedM E B d (st0 5 [] []) n

def numM (ps : List Tok) (n : Nat) : R Int :=
  if isT (cur ps n) 5 [45] then (if (cur ps (n + 1)).kind == 3 then okR (IntKind.i64.wrap (-(cur ps (n + 1)).n)) (n + 1 + 1) else badR (refuseM ps (n + 1)))
  else (if (cur ps n).kind == 3 then okR (cur ps n).n (n + 1) else badR (refuseM ps n))

def numsLoop (ps : List Tok) : Nat → List Int → Nat → R (List Int)
  | 0, _, _ => none
  | f + 1, acc, n => bindR (numM ps n) fun k n1 => if isT (cur ps n1) 5 [44] then numsLoop ps f (acc ++ [k]) (n1 + 1) else okR (acc ++ [k]) n1

def caseBodyM (ps : List Tok) (B : Nat → Nat → R (List St)) (d n : Nat) : R (List St) := bindR (needM ps 5 [58] n) fun _ n1 => B d n1

def caseM (ps : List Tok) (B : Nat → Nat → R (List St)) (f d n : Nat) : R (List Int × List St) := bindR (numsLoop ps f [] n) fun ns n1 => bindR (caseBodyM ps B d n1) fun l n2 => okR (ns, l) n2

def casesLoop (ps : List Tok) (B : Nat → Nat → R (List St)) (f d : Nat) : Nat → List (List Int × List St) → Nat → R (List (List Int × List St))
  | 0, _, _ => none
  | g + 1, acc, n => if isT (cur ps n) 2 [99, 97, 115, 101] then bindR (caseM ps B f d (n + 1)) fun c n1 => casesLoop ps B f d g (acc ++ [c]) n1 else okR acc n

def switchM (ps : List Tok) (E : Nat → Nat → R Ex) (B : Nat → Nat → R (List St)) (f d n : Nat) : R St :=
  bindR (E d n) fun x n1 => bindR (needM ps 5 [123] n1) fun _ n2 => bindR (casesLoop ps B f d f [] n2) fun cs n3 =>
    if isT (cur ps n3) 2 [100, 101, 102, 97, 117, 108, 116] then bindR (caseBodyM ps B d (n3 + 1)) fun l n4 => bindR (needM ps 5 [125] n4) fun _ n5 => okR ⟨7, [], [], [x], [], l, cs⟩ n5
    else bindR (needM ps 5 [125] n3) fun _ n5 => okR ⟨7, [], [], [x], [], [], cs⟩ n5

def returnM (ps : List Tok) (E : Nat → Nat → R Ex) (d n : Nat) : R St := if isT (cur ps n) 5 [125] then okR (st0 8 [] []) n else bindR (E d n) fun x n1 => okR { st0 8 [] [] with exprs := [x] } n1

def printM (ps : List Tok) (E : Nat → Nat → R Ex) (f d n : Nat) : R St :=
  bindR (listM ps (E d) f n) fun l n1 => if (l.length : Int) != 1 then badR ((cur ps n).at_, 10) else okR { st0 9 [] [] with exprs := l } n1

def deleteM (ps : List Tok) (E : Nat → Nat → R Ex) (d n : Nat) : R St :=
  bindR (needM ps 5 [40] n) fun _ n1 => bindR (nameM ps n1) fun s n2 => bindR (needM ps 5 [44] n2) fun _ n3 => bindR (E d n3) fun x n4 => bindR (needM ps 5 [41] n4) fun _ n5 => okR { st0 12 s [] with exprs := [x] } n5

def assignedM (E : Nat → Nat → R Ex) (k : Int) (s : List UInt8) (d n : Nat) : R St := bindR (E d n) fun x n1 => okR { st0 k s [] with exprs := [x] } n1

def putM (ps : List Tok) (E : Nat → Nat → R Ex) (s : List UInt8) (d n : Nat) : R St :=
  bindR (E d n) fun x n1 => bindR (needM ps 5 [93] n1) fun _ n2 => bindR (needM ps 5 [61] n2) fun _ n3 => bindR (E d n3) fun y n4 => okR { st0 3 s [] with exprs := [x, y] } n4

/-- a statement that begins with a name, which has been read: p: that piece -/
def nameStM (ps : List Tok) (E : Nat → Nat → R Ex) (f d : Nat) (p : Tok) (n : Nat) : R St :=
  if isT (cur ps n) 5 [58, 61] then assignedM E 1 p.s d (n + 1)
  else if isT (cur ps n) 5 [61] then assignedM E 2 p.s d (n + 1)
  else if isT (cur ps n) 5 [91] then putM ps E p.s d (n + 1)
  else if isT (cur ps n) 5 [40] then bindR (callM ps E f d p.s n) fun x n1 => okR { st0 13 [] [] with exprs := [x] } n1
  else if (cur ps n).kind == 0 then badR (refuseM ps n)
  else badR (p.at_, 4)

def keywordStM (ps : List Tok) (E : Nat → Nat → R Ex) (B : Nat → Nat → R (List St)) (f d : Nat) (p : Tok) (n : Nat) : R St :=
  if p.s == [105, 102] then ifM ps E B f d n
  else if p.s == [102, 111, 114] then loopM ps E B d n
  else if p.s == [115, 119, 105, 116, 99, 104] then switchM ps E B f d n
  else if p.s == [114, 101, 116, 117, 114, 110] then returnM ps E d n
  else if p.s == [112, 114, 105, 110, 116] then printM ps E f d n
  else if p.s == [98, 114, 101, 97, 107] then okR (st0 10 [] []) n
  else if p.s == [99, 111, 110, 116, 105, 110, 117, 101] then okR (st0 11 [] []) n
  else if p.s == [100, 101, 108, 101, 116, 101] then deleteM ps E d n
  else badR (p.at_, 4)

def statementM (ps : List Tok) (E : Nat → Nat → R Ex) (B : Nat → Nat → R (List St)) (f d n : Nat) : R St :=
  if (cur ps n).kind == 1 then nameStM ps E f d (cur ps n) (n + 1)
  else if (cur ps n).kind == 2 then keywordStM ps E B f d (cur ps n) (n + 1)
  else badR (refuseM ps n)

/-- by the fuel: a block within blocks -/
def blockF (ps : List Tok) (E : Nat → Nat → R Ex) (f : Nat) : Nat → Nat → Nat → R (List St)
  | 0, _, _ => none
  | g + 1, d, n => blockM ps (fun d n => statementM ps E (blockF ps E f g) f d n) f d n

/-- what a call that reads a statement leaves -/
def PostS (b bp cap T : Nat) (ps : List Tok) (q : RS) (w : World) (r : Sum (Int × Int) (St × Nat)) (e : Ending) (w' : World) : Prop :=
  Kept b w w' ∧ match r with
  | .inl k => ∃ v n', ShS v ∧ e = .returned (.tuple #[v, .bool false]) ∧ Rdr w' b bp cap T ps ⟨n', q.depth, k.1, k.2⟩
  | .inr x => ∃ v, e = .returned (.tuple #[v, .bool true]) ∧ AnS (fun g => w.heap.size ≤ g) w' v x.1 ∧ Rdr w' b bp cap T ps { q with next := x.2 }

/-- .. and one that reads a block -/
def PostB (b bp cap T : Nat) (ps : List Tok) (q : RS) (w : World) (r : Sum (Int × Int) (List St × Nat)) (e : Ending) (w' : World) : Prop :=
  Kept b w w' ∧ match r with
  | .inl k => ∃ a l c n', e = .returned (.tuple #[.slice a l c, .bool false]) ∧ Rdr w' b bp cap T ps ⟨n', q.depth, k.1, k.2⟩
  | .inr x => ∃ a c, e = .returned (.tuple #[.slice a x.1.length c, .bool true]) ∧ Row (fun g => w.heap.size ≤ g) w' (AnS (fun g => w.heap.size ≤ g) w') (.slice a x.1.length c) x.1 ∧ Rdr w' b bp cap T ps { q with next := x.2 }

def SaidB (ps : List Tok) (B : Nat → Nat → R (List St)) : Prop :=
  ∀ (w : World) (b bp cap T : Nat) (q : RS) (r : Sum (Int × Int) (List St × Nat)), Rdr w b bp cap T ps q → B q.depth q.next = some r →
    Calls Tryz.prog 44 #[.pointer (some ⟨b, 0, none⟩)] w (PostB b bp cap T ps q w r)

def SaidSt (ps : List Tok) (M : Nat → Nat → R St) : Prop :=
  ∀ (w : World) (b bp cap T : Nat) (q : RS) (r : Sum (Int × Int) (St × Nat)), Rdr w b bp cap T ps q → M q.depth q.next = some r →
    Calls Tryz.prog 64 #[.pointer (some ⟨b, 0, none⟩)] w (PostS b bp cap T ps q w r)

/-! seven cells -/
theorem store7 {w : World} {x : Nat} {T : TypeId} {f : Nat × Nat} {c0 c1 c2 c3 c4 c5 c6 : Value} (h : w.heap[x]? = some (.cells #[c0, c1, c2, c3, c4, c5, c6] T f)) (v0 v1 v2 v3 v4 v5 v6 : Value) :
    (((((((w.setCell ⟨x, 0, none⟩ v0).setCell ⟨x, 1, none⟩ v1).setCell ⟨x, 2, none⟩ v2).setCell ⟨x, 3, none⟩ v3).setCell ⟨x, 4, none⟩ v4).setCell ⟨x, 5, none⟩ v5).setCell ⟨x, 6, none⟩ v6).heap[x]? = some (.cells #[v0, v1, v2, v3, v4, v5, v6] T f) := by
  rw [heap_setCell_same (heap_setCell_same (heap_setCell_same (heap_setCell_same (heap_setCell_same (heap_setCell_same (heap_setCell_same h _) _) _) _) _) _)]
  simp

theorem kept7 (x : Nat) (w : World) (v0 v1 v2 v3 v4 v5 v6 : Value) : Kept x w (((((((w.setCell ⟨x, 0, none⟩ v0).setCell ⟨x, 1, none⟩ v1).setCell ⟨x, 2, none⟩ v2).setCell ⟨x, 3, none⟩ v3).setCell ⟨x, 4, none⟩ v4).setCell ⟨x, 5, none⟩ v5).setCell ⟨x, 6, none⟩ v6) :=
  (((((((Kept.refl _ _).setCell _ _).setCell _ _).setCell _ _).setCell _ _).setCell _ _).setCell _ _).setCell _ _

theorem size_store7 (w : World) (x : Nat) (v0 v1 v2 v3 v4 v5 v6 : Value) : (((((((w.setCell ⟨x, 0, none⟩ v0).setCell ⟨x, 1, none⟩ v1).setCell ⟨x, 2, none⟩ v2).setCell ⟨x, 3, none⟩ v3).setCell ⟨x, 4, none⟩ v4).setCell ⟨x, 5, none⟩ v5).setCell ⟨x, 6, none⟩ v6).heap.size = w.heap.size := by
  simp [World.setCell]

theorem cells7 {w : World} {x : Nat} {T : TypeId} {f : Nat × Nat} {c0 c1 c2 c3 c4 c5 c6 : Value} (h : w.heap[x]? = some (.cells #[c0, c1, c2, c3, c4, c5, c6] T f)) :
    w.cell? ⟨x, 0, none⟩ = some c0 ∧ w.cell? ⟨x, 1, none⟩ = some c1 ∧ w.cell? ⟨x, 2, none⟩ = some c2 ∧ w.cell? ⟨x, 3, none⟩ = some c3 ∧ w.cell? ⟨x, 4, none⟩ = some c4 ∧ w.cell? ⟨x, 5, none⟩ = some c5 ∧ w.cell? ⟨x, 6, none⟩ = some c6 := by
  simp [World.cell?, h]

theorem res_stmt {fn : Func} {tmps : Array Value} {w : World} {rt st x : Nat} {v0 v1 v2 v3 v4 v5 v6 : Value} {ok : Bool} {T : TypeId} {f : Nat × Nat}
    (hres : fn.results = #[.cell rt 63, .tmp st]) (hp : tmps.getD rt undef = .pointer (some ⟨x, 0, none⟩)) (ho : tmps.getD st undef = .bool ok)
    (hblk : w.heap[x]? = some (.cells #[v0, v1, v2, v3, v4, v5, v6] T f)) : (results fn tmps).run Tryz.prog w = .ok (.tuple #[.agg #[v0, v1, v2, v3, v4, v5, v6], .bool ok]) w := by
  obtain ⟨q0, q1, q2, q3, q4, q5, q6⟩ := cells7 hblk
  simp only [Array.getD_eq_getD_getElem?] at hp ho
  simp [results, hres, hp, ho, go_sem, q0, q1, q2, q3, q4, q5, q6]

theorem fin_stmt {fn : Func} {Q : Ending → World → Prop} {a : Act} {w : World} {rt st x : Nat} {v0 v1 v2 v3 v4 v5 v6 : Value} {ok : Bool} {T : TypeId} {f : Nat × Nat}
    (hres : fn.results = #[.cell rt 63, .tmp st]) (hp : a.tmps.getD rt undef = .pointer (some ⟨x, 0, none⟩)) (ho : a.tmps.getD st undef = .bool ok) (hd : a.defers = [])
    (hblk : w.heap[x]? = some (.cells #[v0, v1, v2, v3, v4, v5, v6] T f)) (hQ : Q (.returned (.tuple #[.agg #[v0, v1, v2, v3, v4, v5, v6], .bool ok])) w) : bodyPost Tryz.prog fn Q Exit.ret a w :=
  bodyPost_ret (res_stmt hres hp ho hblk) hd hQ

theorem postS_bad {b bp cap T : Nat} {ps : List Tok} {q : RS} {w w2 W : World} {k : Int × Int} {n' x : Nat} {v0 : Int} {v1 v2 : ByteArray} {a3 a4 a5 a6 : Option Addr} {l3 c3 l4 c4 l5 c5 l6 c6 : Nat} (h : Rdr w b bp cap T ps q)
    (kw : Kept b w w2) (kx : Kept x w2 W) (hx : w.heap.size ≤ x) (hR : Rdr w2 b bp cap T ps ⟨n', q.depth, k.1, k.2⟩) :
    PostS b bp cap T ps q w (.inl k) (.returned (.tuple #[.agg #[.int .i64 v0, .string v1, .string v2, .slice a3 l3 c3, .slice a4 l4 c4, .slice a5 l5 c5, .slice a6 l6 c6], .bool false])) W := by
  have h1 := h.bsize; have h2 := h.lt; have h3 := h.far
  exact ⟨kw.own kx hx, _, n', ⟨_, _, _, _, _, _, _, _, _, _, _, _, _, _, _, rfl⟩, rfl, hR.own kx (by omega) (by omega) (by omega)⟩

theorem AnS.own {S S' : Nat → Prop} {w w' : World} {x : Nat} {v : Value} {t : St} (h : AnS S w v t) (k : Kept x w w') (hs : ∀ g, S g → g ≠ x ∧ S' g) : AnS S' w' v t :=
  h.move fun g hS hg => ⟨(hs g hS).2, k.block g hg (hs g hS).1⟩

theorem postS_ok {b bp cap T : Nat} {ps : List Tok} {q : RS} {w w2 W : World} {t : St} {n' x : Nat} {v : Value} (h : Rdr w b bp cap T ps q)
    (kw : Kept b w w2) (kx : Kept x w2 W) (hx : w.heap.size ≤ x) (hR : Rdr w2 b bp cap T ps { q with next := n' }) (hA : AnS (fun g => w.heap.size ≤ g ∧ g ≠ x) w2 v t) :
    PostS b bp cap T ps q w (.inr (t, n')) (.returned (.tuple #[v, .bool true])) W := by
  have h1 := h.bsize; have h2 := h.lt; have h3 := h.far
  exact ⟨kw.own kx hx, v, rfl, hA.own kx fun g hg => ⟨hg.2, hg.1⟩, hR.own kx (by omega) (by omega) (by omega)⟩

theorem postS_okW {b bp cap T : Nat} {ps : List Tok} {q : RS} {w w2 W : World} {t : St} {n' x : Nat} {v : Value} (h : Rdr w b bp cap T ps q)
    (kw : Kept b w w2) (kx : Kept x w2 W) (hx : w.heap.size ≤ x) (hR : Rdr w2 b bp cap T ps { q with next := n' }) (hA : AnS (fun g => w.heap.size ≤ g) W v t) :
    PostS b bp cap T ps q w (.inr (t, n')) (.returned (.tuple #[v, .bool true])) W := by
  have h1 := h.bsize; have h2 := h.lt; have h3 := h.far
  exact ⟨kw.own kx hx, v, rfl, hA, hR.own kx (by omega) (by omega) (by omega)⟩
end

end Go.Proofs.YtbpnfoihonehgabGreatDoor
