/-
  Statements that hold expressions alone.
-/
import Derived.Test.YtgifghcaeoinoaaDoorRdV
namespace Go.Proofs.YtgifghcaeoinoaaDoor
open Go.RowKit
set_option linter.unusedSimpArgs false
set_option linter.unusedVariables false

/-- the end of a statement whose one expression was laid in a row of its own, behind its result's cells -/
theorem one_row {w2 : World} {x : Nat} {v0 v1 v2 v3 : Value} (u0 u1 u2 u4 u5 u6 : Value) (ob : Obj) {S S' : Nat → Prop} {t : Ex} (hA : AnE S w2 (.agg #[v0, v1, v2, v3]) t) (hS : ∀ g, S g → g ≠ x ∧ S' g) (hs : S' (w2.heap.size + 1)) :
    Kept x w2 ((((((((((w2.setCell ⟨x, 0, none⟩ u0).setCell ⟨x, 1, none⟩ u1).setCell ⟨x, 2, none⟩ u2).setCell ⟨x, 3, none⟩ (.slice (some ⟨w2.heap.size + 1, 0, none⟩) 1 1)).setCell ⟨x, 4, none⟩ u4).setCell ⟨x, 5, none⟩ u5).setCell ⟨x, 6, none⟩ u6)).alloc ob).alloc (.cells #[v0, v1, v2, v3] 35)) ∧
    Row S' ((((((((((w2.setCell ⟨x, 0, none⟩ u0).setCell ⟨x, 1, none⟩ u1).setCell ⟨x, 2, none⟩ u2).setCell ⟨x, 3, none⟩ (.slice (some ⟨w2.heap.size + 1, 0, none⟩) 1 1)).setCell ⟨x, 4, none⟩ u4).setCell ⟨x, 5, none⟩ u5).setCell ⟨x, 6, none⟩ u6)).alloc ob).alloc (.cells #[v0, v1, v2, v3] 35)) (AnE S' ((((((((((w2.setCell ⟨x, 0, none⟩ u0).setCell ⟨x, 1, none⟩ u1).setCell ⟨x, 2, none⟩ u2).setCell ⟨x, 3, none⟩ (.slice (some ⟨w2.heap.size + 1, 0, none⟩) 1 1)).setCell ⟨x, 4, none⟩ u4).setCell ⟨x, 5, none⟩ u5).setCell ⟨x, 6, none⟩ u6)).alloc ob).alloc (.cells #[v0, v1, v2, v3] 35))) (.slice (some ⟨w2.heap.size + 1, 0, none⟩) 1 1) [t] := by
  have kx := ((kept7 x w2 u0 u1 u2 (.slice (some ⟨w2.heap.size + 1, 0, none⟩) 1 1) u4 u5 u6).alloc ob).alloc (.cells #[v0, v1, v2, v3] 35)
  have hrow := (heap_alloc2 ((((((((w2.setCell ⟨x, 0, none⟩ u0).setCell ⟨x, 1, none⟩ u1).setCell ⟨x, 2, none⟩ u2).setCell ⟨x, 3, none⟩ (.slice (some ⟨w2.heap.size + 1, 0, none⟩) 1 1)).setCell ⟨x, 4, none⟩ u4).setCell ⟨x, 5, none⟩ u5).setCell ⟨x, 6, none⟩ u6)) ob (.cells #[v0, v1, v2, v3] 35)).2
  rw [size_store7] at hrow
  exact ⟨kx, row1 hrow hs (hA.own kx hS)⟩

set_option maxHeartbeats 1000000 in
theorem assigned_any {ps : List Tok} {E : Nat → Nat → R Ex} (hE : SaidE ps E) (w : World) (b bp cap T : Nat) (q : RS) (kd : Int) (s : List UInt8) (r : Sum (Int × Int) (St × Nat)) (h : Rdr w b bp cap T ps q)
    (hr : assignedM E kd s q.depth q.next = some r) :
    Calls Tryd.prog 95 #[.pointer (some ⟨b, 0, none⟩), .int .i64 kd, .string ⟨s.toArray⟩] w (PostS b bp cap T ps q w r) := by
  have hbs := h.bsize
  have h0 := h.below ((Below.refl w.heap.size w).alloc (Nat.le_refl _) (.cells #[.int .i64 0, .string ⟨#[]⟩, .string ⟨#[]⟩, .slice none 0 0, .slice none 0 0, .slice none 0 0, .slice none 0 0] 39))
  have hx0 := heap_alloc_new w (.cells #[.int .i64 0, .string ⟨#[]⟩, .string ⟨#[]⟩, .slice none 0 0, .slice none 0 0, .slice none 0 0, .slice none 0 0] 39)
  unfold assignedM at hr
  go_enter Tryd.func95, Tryd.ntmps95
  go_wp2_with fail
  rcases bindR_some hr with ⟨k, h1, rfl⟩ | ⟨x, n1, h1, h2⟩
  · refine (hE _ _ _ _ _ _ _ h0 h1).mono ?_
    rintro e w2 ⟨k2, v, n', ⟨v0, v1, v2, a3, l3, c3, rfl⟩, rfl, hR⟩
    have hblk := (k2.block w.heap.size (by simp) (by omega)).trans hx0
    have hs2 := k2.size
    simp at hs2
    have hc := cells7 hblk
    have hz := thaw4 hblk
    have hlt2 : w.heap.size < w2.heap.size := by omega
    go_wp2_with fail
    exact fin_stmt Tryd.results95 rfl rfl rfl (blk_alloc (blk_alloc (store7 hblk _ _ _ _ _ _ _) _) _) (postS_bad h (((Kept.refl _ _).alloc _).trans k2) (((kept7 _ _ _ _ _ _ _ _ _).alloc _).alloc _) (Nat.le_refl _) hR)
  · cases h2
    refine (hE _ _ _ _ _ _ _ h0 h1).mono ?_
    rintro e w2 ⟨k2, v, rfl, hA, hR⟩
    obtain ⟨v0, v1, v2, a3, l3, c3, rfl⟩ := hA.sh
    have hblk := (k2.block w.heap.size (by simp) (by omega)).trans hx0
    have hs2 := k2.size
    simp at hs2
    have hc := cells7 hblk
    have hz := thaw4 hblk
    have hlt2 : w.heap.size < w2.heap.size := by omega
    have HA : Hid (AnE (fun g => (w.alloc (.cells #[.int .i64 0, .string ⟨#[]⟩, .string ⟨#[]⟩, .slice none 0 0, .slice none 0 0, .slice none 0 0, .slice none 0 0] 39)).heap.size ≤ g) w2 (.agg #[.int .i64 v0, .int .i64 v1, .string v2, .slice a3 l3 c3]) x) := hA
    clear hA
    go_wp2_with fail
    have ho := one_row (x := w.heap.size) (.int .i64 kd) (.string ⟨s.toArray⟩) (.string ⟨#[]⟩) (.slice none 0 0) (.slice none 0 0) (.slice none 0 0) (.cells #[.int .i64 v0, .int .i64 v1, .string v2, .slice a3 l3 c3] 35) (S' := fun g => w.heap.size ≤ g) HA.out (fun g hg => by simp at hg; omega) (by omega)
    exact fin_stmt Tryd.results95 rfl rfl rfl (blk_alloc (blk_alloc (store7 hblk _ _ _ _ _ _ _) _) _) (postS_okW h (((Kept.refl _ _).alloc _).trans k2) ho.1 (Nat.le_refl _) hR (AnS.mk kd s [] [x] [] [] [] ho.2 (Row.nil _ _ _) (Row.nil _ _ _) (Row.nil _ _ _)))

set_option maxHeartbeats 1000000 in
theorem print_any {ps : List Tok} {E : Nat → Nat → R Ex} (hE : SaidE ps E) (w : World) (b bp cap T f : Nat) (hf : f ≤ 1000000) (q : RS) (r : Sum (Int × Int) (St × Nat)) (h : Rdr w b bp cap T ps q)
    (hr : printM ps E f q.depth q.next = some r) :
    Calls Tryd.prog 102 #[.pointer (some ⟨b, 0, none⟩)] w (PostS b bp cap T ps q w r) := by
  have hbs := h.bsize
  have h0 := h.below ((Below.refl w.heap.size w).alloc (Nat.le_refl _) (.cells #[.int .i64 0, .string ⟨#[]⟩, .string ⟨#[]⟩, .slice none 0 0, .slice none 0 0, .slice none 0 0, .slice none 0 0] 39))
  have hx0 := heap_alloc_new w (.cells #[.int .i64 0, .string ⟨#[]⟩, .string ⟨#[]⟩, .slice none 0 0, .slice none 0 0, .slice none 0 0, .slice none 0 0] 39)
  unfold printM at hr
  go_enter Tryd.func102, Tryd.ntmps102
  go_wp2_with fail
  refine (peek_any _ _ _ _ _ _ _ h0).mono ?_
  rintro e w1 ⟨rfl, hb1⟩
  have h1 := h0.below hb1
  have hs1 := hb1.size
  simp at hs1
  have hx1 := (hb1.block w.heap.size (by simp)).trans hx0
  have k1 : Kept b w w1 := ((Kept.refl b w).alloc _).trans (Kept.of_below hb1)
  unfold Tok.val
  go_wp2_with fail
  rcases bindR_some hr with ⟨k, h5, rfl⟩ | ⟨l, n1, h5, h6⟩
  · refine (arguments_any hE _ b bp cap T f hf q _ h1 h5).mono ?_
    rintro e w2 ⟨k2, a, l, c, n', rfl, hR⟩
    have hblk := (k2.block w.heap.size (by omega) (by omega)).trans hx1
    have hc := cells7 hblk
    have hz := thaw4 hblk
    go_wp2_with fail
    exact fin_stmt Tryd.results102 rfl rfl rfl (store7 hblk _ _ _ _ _ _ _) (postS_bad h (k1.trans k2) (kept7 _ _ _ _ _ _ _ _ _) (Nat.le_refl _) hR)
  · refine (arguments_any hE _ b bp cap T f hf q _ h1 h5).mono ?_
    rintro e w2 ⟨k2, a, c, rfl, hA, hR⟩
    have hs2 := k2.size
    have hblk := (k2.block w.heap.size (by omega) (by omega)).trans hx1
    have hc := cells7 hblk
    have hz := thaw4 hblk
    rcases hl : ((l.length : Int) != 1) with _ | _
    · rw [hl, if_neg (by simp)] at h6
      cases h6
      have hA' : AnS (fun g => w.heap.size ≤ g ∧ g ≠ w.heap.size) w2 _ _ := AnS.mk 9 [] [] l [] [] [] (hA.weak (S' := fun g => w.heap.size ≤ g ∧ g ≠ w.heap.size) (Q := AnE (fun g => w.heap.size ≤ g ∧ g ≠ w.heap.size) w2) (fun g hg => by omega) (fun u x hx => hx.move fun g hg _ => ⟨by omega, rfl⟩)) (Row.nil _ _ _) (Row.nil _ _ _) (Row.nil _ _ _)
      clear hA
      go_wp2_with fail
      exact fin_stmt Tryd.results102 rfl rfl rfl (store7 hblk _ _ _ _ _ _ _) (postS_ok h (k1.trans k2) (kept7 _ _ _ _ _ _ _ _ _) (Nat.le_refl _) hR hA')
    · rw [hl, if_pos rfl] at h6
      cases h6
      clear hA
      go_wp2_with fail
      refine (fail_any _ _ _ _ _ _ _ _ _ hR).mono ?_
      rintro e w3 ⟨rfl, hR3, k3⟩
      have hblk3 := (k3.block w.heap.size (by omega) (by omega)).trans hblk
      have hc3 := cells7 hblk3
      have hz3 := thaw4 hblk3
      go_wp2_with fail
      exact fin_stmt Tryd.results102 rfl rfl rfl (store7 hblk3 _ _ _ _ _ _ _) (postS_bad h (k1.trans (k2.trans k3)) (kept7 _ _ _ _ _ _ _ _ _) (Nat.le_refl _) hR3)

end Go.Proofs.YtgifghcaeoinoaaDoor
