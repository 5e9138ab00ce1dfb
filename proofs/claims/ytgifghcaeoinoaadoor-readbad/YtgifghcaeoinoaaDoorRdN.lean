/-
  Expressions: what defers leaving a level (negated, expression).
-/
import Derived.Test.YtgifghcaeoinoaaDoorRdK
import Derived.Defers
namespace Go.Proofs.YtgifghcaeoinoaaDoor
open Go.RowKit
set_option linter.unusedSimpArgs false
set_option linter.unusedVariables false

set_option maxHeartbeats 400000 in
theorem leave_expr (w : World) (b bp cap T bx : Nat) (ps : List Tok) (q : RS) (u : FrameMode) (h : Rdr w b bp cap T ps q) (hx : w.cell? ⟨bx, 0, none⟩ = some (.pointer (some ⟨b, 0, none⟩))) (hd : 0 < q.depth) :
    CallsD Tryd.prog 120 #[.pointer (some ⟨bx, 0, none⟩)] u w fun e u' w' => u' = u ∧ (e = .returned (.tuple #[]) ∧ Rdr w' b bp cap T ps { q with depth := q.depth - 1 } ∧ Kept b w w') := by
  obtain ⟨c0, c1, c2, c3, c4⟩ := h.cells
  have hz := h.thaw 2
  have hdp := h.dp
  go_enter_d Tryd.func120, Tryd.ntmps120
  go_wp2
  go_end0
  exact ⟨rfl, h.setDepth (q.depth - 1) (by omega) _ (by go_num), (Kept.refl _ _).setCell _ _⟩

set_option maxHeartbeats 400000 in
theorem leave_neg (w : World) (b bp cap T bx : Nat) (ps : List Tok) (q : RS) (u : FrameMode) (h : Rdr w b bp cap T ps q) (hx : w.cell? ⟨bx, 0, none⟩ = some (.pointer (some ⟨b, 0, none⟩))) (hd : 0 < q.depth) :
    CallsD Tryd.prog 129 #[.pointer (some ⟨bx, 0, none⟩)] u w fun e u' w' => u' = u ∧ (e = .returned (.tuple #[]) ∧ Rdr w' b bp cap T ps { q with depth := q.depth - 1 } ∧ Kept b w w') := by
  obtain ⟨c0, c1, c2, c3, c4⟩ := h.cells
  have hz := h.thaw 2
  have hdp := h.dp
  go_enter_d Tryd.func129, Tryd.ntmps129
  go_wp2
  go_end0
  exact ⟨rfl, h.setDepth (q.depth - 1) (by omega) _ (by go_num), (Kept.refl _ _).setCell _ _⟩

/-- the contract of operation at a level, at whatever model -/
def SaidOp (ps : List Tok) (lv : Nat) (M : Nat → Nat → R Ex) : Prop :=
  ∀ (w : World) (b bp cap T : Nat) (q : RS) (r : Sum (Int × Int) (Ex × Nat)), Rdr w b bp cap T ps q → M q.depth q.next = some r →
    Calls Tryd.prog 121 #[.pointer (some ⟨b, 0, none⟩), .int .i64 lv] w (PostE b bp cap T ps q w r)

theorem res_expr {fn : Func} {tmps : Array Value} {w : World} {rt st x : Nat} {v0 v1 v2 v3 : Value} {ok : Bool} {T : TypeId} {f : Nat × Nat}
    (hres : fn.results = #[.cell rt 35, .tmp st]) (hp : tmps.getD rt undef = .pointer (some ⟨x, 0, none⟩)) (ho : tmps.getD st undef = .bool ok)
    (hblk : w.heap[x]? = some (.cells #[v0, v1, v2, v3] T f)) : (results fn tmps).run Tryd.prog w = .ok (.tuple #[.agg #[v0, v1, v2, v3], .bool ok]) w := by
  obtain ⟨q0, q1, q2, q3⟩ := cells4 hblk
  simp only [Array.getD_eq_getD_getElem?] at hp ho
  simp [results, hres, hp, ho, go_sem, q0, q1, q2, q3]

/-- the end of a call that leaves a level by a deferred closure -/
theorem postE_badD {b bp cap T : Nat} {ps : List Tok} {q : RS} {w w2 W w3 : World} {k : Int × Int} {n' x : Nat} {v0 v1 : Int} {v2 : ByteArray} {a3 : Option Addr} {l3 c3 : Nat} (h : Rdr w b bp cap T ps q)
    (kw : Kept b w w2) (kx : Kept x w2 W) (hx : w.heap.size ≤ x) (k3 : Kept b W w3) (hR : Rdr w3 b bp cap T ps ⟨n', q.depth, k.1, k.2⟩) :
    PostE b bp cap T ps q w (.inl k) (.returned (.tuple #[.agg #[.int .i64 v0, .int .i64 v1, .string v2, .slice a3 l3 c3], .bool false])) w3 :=
  ⟨(kw.own kx hx).trans k3, _, n', ⟨_, _, _, _, _, _, rfl⟩, rfl, hR⟩

theorem postE_okD {b bp cap T : Nat} {ps : List Tok} {q : RS} {w w2 W w3 : World} {t : Ex} {n' x : Nat} {v : Value} (h : Rdr w b bp cap T ps q)
    (kw : Kept b w w2) (kx : Kept x w2 W) (hx : w.heap.size ≤ x) (k3 : Kept b W w3) (hR : Rdr w3 b bp cap T ps { q with next := n' }) (hA : AnE (fun g => w.heap.size ≤ g ∧ g ≠ x) w2 v t) :
    PostE b bp cap T ps q w (.inr (t, n')) (.returned (.tuple #[v, .bool true])) w3 := by
  have h1 := h.bsize
  exact ⟨(kw.own kx hx).trans k3, v, rfl, (hA.own (S' := fun g => w.heap.size ≤ g) kx fun g hg => ⟨hg.2, hg.1⟩).move fun g hg hlt => ⟨hg, k3.block g hlt (by omega)⟩, hR⟩

set_option maxHeartbeats 1000000 in
theorem expression_any {ps : List Tok} {M : Nat → Nat → R Ex} (hM : SaidOp ps 0 M) (w : World) (b bp cap T : Nat) (q : RS) (r : Sum (Int × Int) (Ex × Nat)) (h : Rdr w b bp cap T ps q)
    (hr : (if 30 ≤ q.depth then badR ((cur ps q.next).at_, 8) else M (q.depth + 1) q.next) = some r) :
    Calls Tryd.prog 110 #[.pointer (some ⟨b, 0, none⟩)] w (PostE b bp cap T ps q w r) := by
  have hbs := h.bsize
  have hps := h.lt
  have hfar := h.far
  have hmf := mkf
  have h0 := fun o1 o2 => h.below (((Below.refl w.heap.size w).alloc (Nat.le_refl _) o1).alloc (by simp) o2)
  by_cases hd : 30 ≤ q.depth
  · rw [if_pos hd] at hr
    cases hr
    go_enter_defers Tryd.func110, Tryd.ntmps110
    go_wp2_with fail
    refine (enter_no _ _ _ _ _ _ _ (h0 _ _) hd).mono ?_
    rintro e w1 ⟨rfl, hR, k1⟩
    have hblk := (k1.block (w.heap.size + 1) (by simp) (by omega)).trans (heap_alloc2 w _ _).2
    have hc := cells4 hblk
    have hz := thaw4 hblk
    go_wp2_with fail
    exact ⟨_, res_expr Tryd.results110 rfl rfl (store4 hblk _ _ _ _), postE_bad h ((((Kept.refl _ _).alloc _).alloc _).trans k1) (kept4 _ _ _ _ _ _) (by omega) hR⟩
  · rw [if_neg hd] at hr
    go_enter_defers Tryd.func110, Tryd.ntmps110
    go_wp2_with fail
    refine (enter_yes _ _ _ _ _ _ _ (h0 _ _) (by omega)).mono ?_
    rintro e w1 ⟨rfl, hR, k1⟩
    have hs1 := k1.size
    simp at hs1
    have hbox := (k1.block w.heap.size (by simp; omega) (by omega)).trans (heap_alloc2 w _ _).1
    have hblk := (k1.block (w.heap.size + 1) (by simp) (by omega)).trans (heap_alloc2 w _ _).2
    have cb : w1.cell? ⟨w.heap.size, 0, none⟩ = some (.pointer (some ⟨b, 0, none⟩)) := by simp [World.cell?, hbox]
    go_wp2_with fail
    refine (hM _ _ _ _ _ _ _ hR hr).mono ?_
    intro e w2 hP
    cases r with
    | inl k =>
      obtain ⟨k2, v, n', ⟨v0, v1, v2, a3, l3, c3, rfl⟩, rfl, hR2⟩ := hP
      have hblk2 := (k2.block (w.heap.size + 1) (by omega) (by omega)).trans hblk
      have hbox2 := (k2.block w.heap.size (by omega) (by omega)).trans hbox
      have hc := cells4 hblk2
      have hz := thaw4 hblk2
      have hcb : w2.cell? ⟨w.heap.size, 0, none⟩ = some (.pointer (some ⟨b, 0, none⟩)) := by simp [World.cell?, hbox2]
      have hs2 := k2.size
      go_wp2_with fail
      have kx := kept4 (w.heap.size + 1) w2 (.int .i64 v0) (.int .i64 v1) (.string v2) (.slice a3 l3 c3)
      refine leaves_cons (f := 120) (args := #[.pointer (some ⟨w.heap.size, 0, none⟩)]) (by simp) (by simp [go_sem]) ?_
      refine (leave_expr _ b bp cap T w.heap.size ps _ .returning (hR2.own kx (by omega) (by omega) (by omega)) ((kx.cell w.heap.size 0 (by omega) (by omega)).trans hcb) (by simp)).mono ?_
      rintro e u' w3 ⟨rfl, rfl, hR3, k3⟩
      exact ⟨_, res_expr Tryd.results110 rfl rfl ((k3.block (w.heap.size + 1) (by have := kx.size; omega) (by omega)).trans (store4 hblk2 _ _ _ _)), postE_badD h ((((Kept.refl _ _).alloc _).alloc _).trans (k1.trans k2)) kx (by omega) k3 (by simpa using hR3)⟩
    | inr x =>
      obtain ⟨k2, v, rfl, hA, hR2⟩ := hP
      obtain ⟨v0, v1, v2, a3, l3, c3, rfl⟩ := hA.sh
      have hblk2 := (k2.block (w.heap.size + 1) (by omega) (by omega)).trans hblk
      have hbox2 := (k2.block w.heap.size (by omega) (by omega)).trans hbox
      have hc := cells4 hblk2
      have hz := thaw4 hblk2
      have hcb : w2.cell? ⟨w.heap.size, 0, none⟩ = some (.pointer (some ⟨b, 0, none⟩)) := by simp [World.cell?, hbox2]
      have hs2 := k2.size
      have hA' : AnE (fun g => w.heap.size ≤ g ∧ g ≠ w.heap.size + 1) w2 _ x.1 := hA.move fun g hg _ => ⟨by omega, rfl⟩
      clear hA
      go_wp2_with fail
      have kx := kept4 (w.heap.size + 1) w2 (.int .i64 v0) (.int .i64 v1) (.string v2) (.slice a3 l3 c3)
      refine leaves_cons (f := 120) (args := #[.pointer (some ⟨w.heap.size, 0, none⟩)]) (by simp) (by simp [go_sem]) ?_
      refine (leave_expr _ b bp cap T w.heap.size ps _ .returning (hR2.own kx (by omega) (by omega) (by omega)) ((kx.cell w.heap.size 0 (by omega) (by omega)).trans hcb) (by simp)).mono ?_
      rintro e u' w3 ⟨rfl, rfl, hR3, k3⟩
      exact ⟨_, res_expr Tryd.results110 rfl rfl ((k3.block (w.heap.size + 1) (by have := kx.size; omega) (by omega)).trans (store4 hblk2 _ _ _ _)), postE_okD h ((((Kept.refl _ _).alloc _).alloc _).trans (k1.trans k2)) kx (by omega) k3 (by simpa using hR3) hA'⟩

end Go.Proofs.YtgifghcaeoinoaaDoor
