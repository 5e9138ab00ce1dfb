/-
  Statements by their first word: keywordStatement. The models of the loop and of the switch are given.
-/
import Derived.Test.YtbpnfoihonehgabGreatDoorJRdV
namespace Go.Proofs.YtbpnfoihonehgabGreatDoor
section
open Go.RowKit
set_option linter.unusedSimpArgs false
set_option linter.unusedVariables false

/-- the end of a statement whose one expression was laid in a row of its own, behind its result's cells -/
theorem one_row {w2 : World} {x : Nat} {v0 v1 v2 v3 : Value} (u0 u1 u2 u4 u5 u6 : Value) (ob : Obj) {S S' : Nat → Prop} {t : Ex} (hA : AnE S w2 (.agg #[v0, v1, v2, v3]) t) (hS : ∀ g, S g → g ≠ x ∧ S' g) (hs : S' (w2.heap.size + 1)) :
    Kept x w2 ((((((((((w2.setCell ⟨x, 0, none⟩ u0).setCell ⟨x, 1, none⟩ u1).setCell ⟨x, 2, none⟩ u2).setCell ⟨x, 3, none⟩ (.slice (some ⟨w2.heap.size + 1, 0, none⟩) 1 1)).setCell ⟨x, 4, none⟩ u4).setCell ⟨x, 5, none⟩ u5).setCell ⟨x, 6, none⟩ u6)).alloc ob).alloc (.cells #[v0, v1, v2, v3] 116)) ∧
    Row S' ((((((((((w2.setCell ⟨x, 0, none⟩ u0).setCell ⟨x, 1, none⟩ u1).setCell ⟨x, 2, none⟩ u2).setCell ⟨x, 3, none⟩ (.slice (some ⟨w2.heap.size + 1, 0, none⟩) 1 1)).setCell ⟨x, 4, none⟩ u4).setCell ⟨x, 5, none⟩ u5).setCell ⟨x, 6, none⟩ u6)).alloc ob).alloc (.cells #[v0, v1, v2, v3] 116)) (AnE S' ((((((((((w2.setCell ⟨x, 0, none⟩ u0).setCell ⟨x, 1, none⟩ u1).setCell ⟨x, 2, none⟩ u2).setCell ⟨x, 3, none⟩ (.slice (some ⟨w2.heap.size + 1, 0, none⟩) 1 1)).setCell ⟨x, 4, none⟩ u4).setCell ⟨x, 5, none⟩ u5).setCell ⟨x, 6, none⟩ u6)).alloc ob).alloc (.cells #[v0, v1, v2, v3] 116))) (.slice (some ⟨w2.heap.size + 1, 0, none⟩) 1 1) [t] := by
  have kx := ((kept7 x w2 u0 u1 u2 (.slice (some ⟨w2.heap.size + 1, 0, none⟩) 1 1) u4 u5 u6).alloc ob).alloc (.cells #[v0, v1, v2, v3] 116)
  have hrow := (heap_alloc2 ((((((((w2.setCell ⟨x, 0, none⟩ u0).setCell ⟨x, 1, none⟩ u1).setCell ⟨x, 2, none⟩ u2).setCell ⟨x, 3, none⟩ (.slice (some ⟨w2.heap.size + 1, 0, none⟩) 1 1)).setCell ⟨x, 4, none⟩ u4).setCell ⟨x, 5, none⟩ u5).setCell ⟨x, 6, none⟩ u6)) ob (.cells #[v0, v1, v2, v3] 116)).2
  rw [size_store7] at hrow
  exact ⟨kx, row1 hrow hs (hA.own kx hS)⟩

set_option maxHeartbeats 1000000 in
theorem assigned_any {ps : List Tok} {E : Nat → Nat → R Ex} (hE : SaidE ps E) (w : World) (b bp cap T : Nat) (q : RS) (kd : Int) (s : List UInt8) (r : Sum (Int × Int) (St × Nat)) (h : Rdr w b bp cap T ps q)
    (hr : assignedM E kd s q.depth q.next = some r) :
    Calls Tryz.prog 88 #[.pointer (some ⟨b, 0, none⟩), .int .i64 kd, .string ⟨s.toArray⟩] w (PostS b bp cap T ps q w r) := by
  have hbs := h.bsize
  have h0 := h.below ((Below.refl w.heap.size w).alloc (Nat.le_refl _) (.cells #[.int .i64 0, .string ⟨#[]⟩, .string ⟨#[]⟩, .slice none 0 0, .slice none 0 0, .slice none 0 0, .slice none 0 0] 63))
  have hx0 := heap_alloc_new w (.cells #[.int .i64 0, .string ⟨#[]⟩, .string ⟨#[]⟩, .slice none 0 0, .slice none 0 0, .slice none 0 0, .slice none 0 0] 63)
  unfold assignedM at hr
  go_enter Tryz.func88, Tryz.ntmps88
  go_wp2_with fail
  rcases bindR_some hr with ⟨k, h1, rfl⟩ | ⟨x, n1, h1, h2⟩
  · refine (hE _ _ _ _ _ _ _ h0 h1).mono ?_
    rintro e w2 ⟨k2, v, n', ⟨v0, v1, v2, a3, l3, c3, rfl⟩, rfl, hR⟩
    have hblk := (k2.block w.heap.size (by simp) (by omega)).trans hx0
    have hs2 := k2.size
    simp at hs2
    have hc := cells7 hblk
    have hz := thaw4 hblk
    have hlt2 : w.heap.size < w2.heap.size := by omega
    go_wp2_with fail
    exact fin_stmt Tryz.results88 rfl rfl rfl (blk_alloc (blk_alloc (store7 hblk _ _ _ _ _ _ _) _) _) (postS_bad h (((Kept.refl _ _).alloc _).trans k2) (((kept7 _ _ _ _ _ _ _ _ _).alloc _).alloc _) (Nat.le_refl _) hR)
  · cases h2
    refine (hE _ _ _ _ _ _ _ h0 h1).mono ?_
    rintro e w2 ⟨k2, v, rfl, hA, hR⟩
    obtain ⟨v0, v1, v2, a3, l3, c3, rfl⟩ := hA.sh
    have hblk := (k2.block w.heap.size (by simp) (by omega)).trans hx0
    have hs2 := k2.size
    simp at hs2
    have hc := cells7 hblk
    have hz := thaw4 hblk
    have hlt2 : w.heap.size < w2.heap.size := by omega
    have HA : Hid (AnE (fun g => (w.alloc (.cells #[.int .i64 0, .string ⟨#[]⟩, .string ⟨#[]⟩, .slice none 0 0, .slice none 0 0, .slice none 0 0, .slice none 0 0] 63)).heap.size ≤ g) w2 (.agg #[.int .i64 v0, .int .i64 v1, .string v2, .slice a3 l3 c3]) x) := hA
    clear hA
    go_wp2_with fail
    have ho := one_row (x := w.heap.size) (.int .i64 kd) (.string ⟨s.toArray⟩) (.string ⟨#[]⟩) (.slice none 0 0) (.slice none 0 0) (.slice none 0 0) (.cells #[.int .i64 v0, .int .i64 v1, .string v2, .slice a3 l3 c3] 116) (S' := fun g => w.heap.size ≤ g) HA.out (fun g hg => by simp at hg; omega) (by omega)
    exact fin_stmt Tryz.results88 rfl rfl rfl (blk_alloc (blk_alloc (store7 hblk _ _ _ _ _ _ _) _) _) (postS_okW h (((Kept.refl _ _).alloc _).trans k2) ho.1 (Nat.le_refl _) hR (AnS.mk kd s [] [x] [] [] [] ho.2 (Row.nil _ _ _) (Row.nil _ _ _) (Row.nil _ _ _)))

set_option maxHeartbeats 1000000 in
theorem print_any {ps : List Tok} {E : Nat → Nat → R Ex} (hE : SaidE ps E) (w : World) (b bp cap T f : Nat) (hf : f ≤ 1000000) (q : RS) (r : Sum (Int × Int) (St × Nat)) (h : Rdr w b bp cap T ps q)
    (hr : printM ps E f q.depth q.next = some r) :
    Calls Tryz.prog 95 #[.pointer (some ⟨b, 0, none⟩)] w (PostS b bp cap T ps q w r) := by
  have hbs := h.bsize
  have h0 := h.below ((Below.refl w.heap.size w).alloc (Nat.le_refl _) (.cells #[.int .i64 0, .string ⟨#[]⟩, .string ⟨#[]⟩, .slice none 0 0, .slice none 0 0, .slice none 0 0, .slice none 0 0] 63))
  have hx0 := heap_alloc_new w (.cells #[.int .i64 0, .string ⟨#[]⟩, .string ⟨#[]⟩, .slice none 0 0, .slice none 0 0, .slice none 0 0, .slice none 0 0] 63)
  unfold printM at hr
  go_enter Tryz.func95, Tryz.ntmps95
  go_wp2_with fail
  refine (peek_any _ _ _ _ _ _ _ h0).mono ?_
  rintro e w1 ⟨rfl, hb1⟩
  have h1 := h0.below hb1
  have hs1 := hb1.size
  simp at hs1
  have hx1 := (hb1.block w.heap.size (by simp)).trans hx0
  have k1 : Kept b w w1 := ((Kept.refl b w).alloc _).trans (Kept.of_below hb1)
  unfold Tok.val
  go_wp2_with fail
  rcases bindR_some hr with ⟨k, h5, rfl⟩ | ⟨l, n1, h5, h6⟩
  · refine (arguments_any hE _ b bp cap T f hf q _ h1 h5).mono ?_
    rintro e w2 ⟨k2, a, l, c, n', rfl, hR⟩
    have hblk := (k2.block w.heap.size (by omega) (by omega)).trans hx1
    have hc := cells7 hblk
    have hz := thaw4 hblk
    go_wp2_with fail
    exact fin_stmt Tryz.results95 rfl rfl rfl (store7 hblk _ _ _ _ _ _ _) (postS_bad h (k1.trans k2) (kept7 _ _ _ _ _ _ _ _ _) (Nat.le_refl _) hR)
  · refine (arguments_any hE _ b bp cap T f hf q _ h1 h5).mono ?_
    rintro e w2 ⟨k2, a, c, rfl, hA, hR⟩
    have hs2 := k2.size
    have hblk := (k2.block w.heap.size (by omega) (by omega)).trans hx1
    have hc := cells7 hblk
    have hz := thaw4 hblk
    rcases hl : ((l.length : Int) != 1) with _ | _
    · rw [hl, if_neg (by simp)] at h6
      cases h6
      have hA' : AnS (fun g => w.heap.size ≤ g ∧ g ≠ w.heap.size) w2 _ _ := AnS.mk 9 [] [] l [] [] [] (hA.weak (S' := fun g => w.heap.size ≤ g ∧ g ≠ w.heap.size) (Q := AnE (fun g => w.heap.size ≤ g ∧ g ≠ w.heap.size) w2) (fun g hg => by omega) (fun u x hx => hx.move fun g hg _ => ⟨by omega, rfl⟩)) (Row.nil _ _ _) (Row.nil _ _ _) (Row.nil _ _ _)
      clear hA
      go_wp2_with fail
      exact fin_stmt Tryz.results95 rfl rfl rfl (store7 hblk _ _ _ _ _ _ _) (postS_ok h (k1.trans k2) (kept7 _ _ _ _ _ _ _ _ _) (Nat.le_refl _) hR hA')
    · rw [hl, if_pos rfl] at h6
      cases h6
      clear hA
      go_wp2_with fail
      refine (fail_any _ _ _ _ _ _ _ _ _ hR).mono ?_
      rintro e w3 ⟨rfl, hR3, k3⟩
      have hblk3 := (k3.block w.heap.size (by omega) (by omega)).trans hblk
      have hc3 := cells7 hblk3
      have hz3 := thaw4 hblk3
      go_wp2_with fail
      exact fin_stmt Tryz.results95 rfl rfl rfl (store7 hblk3 _ _ _ _ _ _ _) (postS_bad h (k1.trans (k2.trans k3)) (kept7 _ _ _ _ _ _ _ _ _) (Nat.le_refl _) hR3)
end

section
open Go.RowKit
set_option linter.unusedSimpArgs false
set_option linter.unusedVariables false

theorem size_set (w : World) (a : Addr) (v : Value) : (w.setCell a v).heap.size = w.heap.size := by simp [World.setCell]

theorem two_row {w2 : World} {x : Nat} {v0 v1 v2 v3 y0 y1 y2 y3 : Value} (u0 u1 u2 u4 u5 u6 : Value) (ob : Obj) {S S' : Nat → Prop} {t r : Ex} (hA : AnE S w2 (.agg #[v0, v1, v2, v3]) t) (hB : AnE S w2 (.agg #[y0, y1, y2, y3]) r) (hS : ∀ g, S g → g ≠ x ∧ S' g) (hs : S' (w2.heap.size + 1)) :
    Kept x w2 ((((((((((w2.setCell ⟨x, 0, none⟩ u0).setCell ⟨x, 1, none⟩ u1).setCell ⟨x, 2, none⟩ u2).setCell ⟨x, 3, none⟩ (.slice (some ⟨w2.heap.size + 1, 0, none⟩) 2 2)).setCell ⟨x, 4, none⟩ u4).setCell ⟨x, 5, none⟩ u5).setCell ⟨x, 6, none⟩ u6)).alloc ob).alloc (.cells #[v0, v1, v2, v3, y0, y1, y2, y3] 116)) ∧ Row S' ((((((((((w2.setCell ⟨x, 0, none⟩ u0).setCell ⟨x, 1, none⟩ u1).setCell ⟨x, 2, none⟩ u2).setCell ⟨x, 3, none⟩ (.slice (some ⟨w2.heap.size + 1, 0, none⟩) 2 2)).setCell ⟨x, 4, none⟩ u4).setCell ⟨x, 5, none⟩ u5).setCell ⟨x, 6, none⟩ u6)).alloc ob).alloc (.cells #[v0, v1, v2, v3, y0, y1, y2, y3] 116)) (AnE S' ((((((((((w2.setCell ⟨x, 0, none⟩ u0).setCell ⟨x, 1, none⟩ u1).setCell ⟨x, 2, none⟩ u2).setCell ⟨x, 3, none⟩ (.slice (some ⟨w2.heap.size + 1, 0, none⟩) 2 2)).setCell ⟨x, 4, none⟩ u4).setCell ⟨x, 5, none⟩ u5).setCell ⟨x, 6, none⟩ u6)).alloc ob).alloc (.cells #[v0, v1, v2, v3, y0, y1, y2, y3] 116))) (.slice (some ⟨w2.heap.size + 1, 0, none⟩) 2 2) [t, r] := by
  have kx := ((kept7 x w2 u0 u1 u2 (.slice (some ⟨w2.heap.size + 1, 0, none⟩) 2 2) u4 u5 u6).alloc ob).alloc (.cells #[v0, v1, v2, v3, y0, y1, y2, y3] 116)
  have hrow := (heap_alloc2 ((((((((w2.setCell ⟨x, 0, none⟩ u0).setCell ⟨x, 1, none⟩ u1).setCell ⟨x, 2, none⟩ u2).setCell ⟨x, 3, none⟩ (.slice (some ⟨w2.heap.size + 1, 0, none⟩) 2 2)).setCell ⟨x, 4, none⟩ u4).setCell ⟨x, 5, none⟩ u5).setCell ⟨x, 6, none⟩ u6)) ob (.cells #[v0, v1, v2, v3, y0, y1, y2, y3] 116)).2
  rw [size_store7] at hrow
  exact ⟨kx, row2 hrow hs (hA.own kx hS) (hB.own kx hS)⟩

set_option maxHeartbeats 2000000 in
theorem put_any {ps : List Tok} {E : Nat → Nat → R Ex} (hE : SaidE ps E) (w : World) (b bp cap T : Nat) (q : RS) (s : List UInt8) (r : Sum (Int × Int) (St × Nat)) (h : Rdr w b bp cap T ps q)
    (hr : putM ps E s q.depth q.next = some r) :
    Calls Tryz.prog 89 #[.pointer (some ⟨b, 0, none⟩), .string ⟨s.toArray⟩] w (PostS b bp cap T ps q w r) := by
  have hbs := h.bsize
  have h0 := h.below ((Below.refl w.heap.size w).alloc (Nat.le_refl _) (.cells #[.int .i64 0, .string ⟨#[]⟩, .string ⟨#[]⟩, .slice none 0 0, .slice none 0 0, .slice none 0 0, .slice none 0 0] 63))
  have hx0 := heap_alloc_new w (.cells #[.int .i64 0, .string ⟨#[]⟩, .string ⟨#[]⟩, .slice none 0 0, .slice none 0 0, .slice none 0 0, .slice none 0 0] 63)
  unfold putM at hr
  go_enter Tryz.func89, Tryz.ntmps89
  go_wp2_with fail
  rcases bindR_some hr with ⟨k, h1, rfl⟩ | ⟨x, n1, h1, h2⟩
  · refine (hE _ _ _ _ _ _ _ h0 h1).mono ?_
    rintro e w2 ⟨k2, v, n', ⟨v0, v1, v2, a3, l3, c3, rfl⟩, rfl, hR⟩
    have hblk := (k2.block w.heap.size (by simp) (by omega)).trans hx0
    have hs2 := k2.size
    simp at hs2
    have hc := cells7 hblk
    have hz := thaw4 hblk
    have hlt2 : w.heap.size < w2.heap.size := by omega
    go_wp2_with fail
    exact fin_stmt Tryz.results89 rfl rfl rfl (blk_alloc (store7 hblk _ _ _ _ _ _ _) _) (postS_bad h (((Kept.refl _ _).alloc _).trans k2) ((kept7 _ _ _ _ _ _ _ _ _).alloc _) (Nat.le_refl _) hR)
  · refine (hE _ _ _ _ _ _ _ h0 h1).mono ?_
    rintro e w2 ⟨k2, v, rfl, hA, hR⟩
    obtain ⟨v0, v1, v2, a3, l3, c3, rfl⟩ := hA.sh
    have hblk2 := (k2.block w.heap.size (by simp) (by omega)).trans hx0
    have hs2 := k2.size
    simp at hs2
    have kw2 : Kept b w w2 := ((Kept.refl b w).alloc _).trans k2
    go_wp2_with fail
    rcases bindR_some h2 with ⟨k, h3, rfl⟩ | ⟨u, n3, h3, h4⟩
    · rcases needM_some h3 with ⟨hT, h5⟩ | ⟨hT, h5⟩
      · cases h5
      · cases h5
        refine (mark_no _ _ _ _ _ _ _ _ (hR.below ((Below.refl _ _).alloc (Nat.le_refl _) _)) hT).mono ?_
        rintro e w3 ⟨rfl, hR3, k3⟩
        have hblk := (k3.block w.heap.size (by simp; omega) (by omega)).trans (blk_alloc hblk2 _)
        have hc := cells7 hblk
        have hz := thaw4 hblk
        go_wp2_with fail
        exact fin_stmt Tryz.results89 rfl rfl rfl (store7 hblk _ _ _ _ _ _ _) (postS_bad h ((kw2.alloc _).trans k3) (kept7 _ _ _ _ _ _ _ _ _) (Nat.le_refl _) hR3)
    · rcases needM_some h3 with ⟨hT, h5⟩ | ⟨hT, h5⟩
      · cases h5
        refine (mark_yes _ _ _ _ _ _ _ _ (hR.below ((Below.refl _ _).alloc (Nat.le_refl _) _)) hT).mono ?_
        rintro e w3 ⟨rfl, hR3, k3⟩
        have hs3 := k3.size
        simp at hs3
        have hblk3 := (k3.block w.heap.size (by simp; omega) (by omega)).trans (blk_alloc hblk2 _)
        have hpb3 := (k3.block w2.heap.size (by simp) (by omega)).trans (heap_alloc_new w2 _)
        have kw3 := (kw2.alloc _).trans k3
        have hA3 : AnE (fun g => w.heap.size ≤ g ∧ g ≠ w.heap.size) w3 _ x := hA.move fun g hg hlt => ⟨by simp at hg; omega, (k3.block g (by simp; omega) (by simp at hg; omega)).trans (Below.heap_alloc _ _ _ hlt)⟩
        clear hA
        go_wp2_with fail
        rcases bindR_some h4 with ⟨k, h6, rfl⟩ | ⟨u, n4, h6, h7⟩
        · rcases needM_some h6 with ⟨hT2, h8⟩ | ⟨hT2, h8⟩
          · cases h8
          · cases h8
            refine (mark_no _ _ _ _ _ _ _ _ hR3 hT2).mono ?_
            rintro e w4 ⟨rfl, hR4, k4⟩
            have hblk := (k4.block w.heap.size (by omega) (by omega)).trans hblk3
            have hc := cells7 hblk
            have hz := thaw4 hblk
            go_wp2_with fail
            exact fin_stmt Tryz.results89 rfl rfl rfl (store7 hblk _ _ _ _ _ _ _) (postS_bad h (kw3.trans k4) (kept7 _ _ _ _ _ _ _ _ _) (Nat.le_refl _) hR4)
        · rcases needM_some h6 with ⟨hT2, h8⟩ | ⟨hT2, h8⟩
          · cases h8
            refine (mark_yes _ _ _ _ _ _ _ _ hR3 hT2).mono ?_
            rintro e w4 ⟨rfl, hR4, k4⟩
            have hs4 := k4.size
            have hblk4 := (k4.block w.heap.size (by omega) (by omega)).trans hblk3
            have hpb4 := (k4.block w2.heap.size (by omega) (by omega)).trans hpb3
            have kw4 := kw3.trans k4
            have hA4 := hA3.kept k4 (fun g hg => by omega)
            clear hA3
            go_wp2_with fail
            rcases bindR_some h7 with ⟨k, h9, rfl⟩ | ⟨y, n5, h9, h10⟩
            · refine (hE _ _ _ _ _ _ _ hR4 h9).mono ?_
              rintro e w5 ⟨k5, v, n', ⟨y0, y1, y2, y3, ly, cy, rfl⟩, rfl, hR5⟩
              have hs5 := k5.size
              have hblk := (k5.block w.heap.size (by omega) (by omega)).trans hblk4
              have hpb5 := cells4 ((k5.block w2.heap.size (by omega) (by omega)).trans hpb4)
              have hc := cells7 hblk
              have hz := thaw4 hblk
              have hlt5 : w.heap.size < w5.heap.size := by omega
              have hlt6 : w2.heap.size < w5.heap.size := by omega
              go_wp2_with fail
              exact fin_stmt Tryz.results89 rfl rfl rfl (blk_alloc (blk_alloc (store7 hblk _ _ _ _ _ _ _) _) _) (postS_bad h (kw4.trans k5) (((kept7 _ _ _ _ _ _ _ _ _).alloc _).alloc _) (Nat.le_refl _) hR5)
            · cases h10
              refine (hE _ _ _ _ _ _ _ hR4 h9).mono ?_
              rintro e w5 ⟨k5, v, rfl, hB, hR5⟩
              obtain ⟨y0, y1, y2, y3, ly, cy, rfl⟩ := hB.sh
              have hs5 := k5.size
              have hblk := (k5.block w.heap.size (by omega) (by omega)).trans hblk4
              have hpb5 := cells4 ((k5.block w2.heap.size (by omega) (by omega)).trans hpb4)
              have hc := cells7 hblk
              have hz := thaw4 hblk
              have hlt5 : w.heap.size < w5.heap.size := by omega
              have hlt6 : w2.heap.size < w5.heap.size := by omega
              have hA5 := hA4.kept k5 (fun g hg => by omega)
              have hB5 : AnE (fun g => w.heap.size ≤ g ∧ g ≠ w.heap.size) w5 _ y := hB.move fun g hg _ => ⟨by omega, rfl⟩
              have ho := two_row (x := w.heap.size) (.int .i64 3) (.string ⟨s.toArray⟩) (.string ⟨#[]⟩) (.slice none 0 0) (.slice none 0 0) (.slice none 0 0) (.cells #[.int .i64 y0, .int .i64 y1, .string y2, .slice y3 ly cy] 116) (S' := fun g => w.heap.size ≤ g) hA5 hB5 (fun g hg => by omega) (by omega)
              have HO : Hid (_ ∧ _) := ho
              clear ho hA5 hB5 hA4 hB
              go_wp2_with fail
              exact fin_stmt Tryz.results89 rfl rfl rfl (blk_alloc (blk_alloc (store7 hblk _ _ _ _ _ _ _) _) _) (postS_okW h (kw4.trans k5) HO.out.1 (Nat.le_refl _) hR5 (AnS.mk 3 s [] [x, y] [] [] [] HO.out.2 (Row.nil _ _ _) (Row.nil _ _ _) (Row.nil _ _ _)))
          · cases h8
      · cases h5

set_option maxHeartbeats 2000000 in
theorem return_any {ps : List Tok} {E : Nat → Nat → R Ex} (hE : SaidE ps E) (w : World) (b bp cap T : Nat) (q : RS) (r : Sum (Int × Int) (St × Nat)) (h : Rdr w b bp cap T ps q)
    (hr : returnM ps E q.depth q.next = some r) :
    Calls Tryz.prog 94 #[.pointer (some ⟨b, 0, none⟩)] w (PostS b bp cap T ps q w r) := by
  have hbs := h.bsize
  have hps := h.lt
  have hfar := h.far
  have h0 := h.below (((Below.refl w.heap.size w).alloc (Nat.le_refl _) (.cells #[.int .i64 0, .string ⟨#[]⟩, .string ⟨#[]⟩, .slice none 0 0, .slice none 0 0, .slice none 0 0, .slice none 0 0] 63)).alloc (by simp) (.cells #[.int .i64 8, .string ⟨#[]⟩, .string ⟨#[]⟩, .slice none 0 0, .slice none 0 0, .slice none 0 0, .slice none 0 0] 63))
  have hx0 := heap_alloc2 w (.cells #[.int .i64 0, .string ⟨#[]⟩, .string ⟨#[]⟩, .slice none 0 0, .slice none 0 0, .slice none 0 0, .slice none 0 0] 63) (.cells #[.int .i64 8, .string ⟨#[]⟩, .string ⟨#[]⟩, .slice none 0 0, .slice none 0 0, .slice none 0 0, .slice none 0 0] 63)
  unfold returnM at hr
  by_cases hT : isT (cur ps q.next) 5 [125] = true
  · rw [if_pos hT] at hr
    cases hr
    go_enter Tryz.func94, Tryz.ntmps94
    go_wp2_with fail
    refine (peek_any _ _ _ _ _ _ _ h0).mono ?_
    rintro e w1 ⟨rfl, hb1⟩
    have h1 := h0.below hb1
    have hs1 := hb1.size
    simp at hs1
    go_wp2_with fail
    refine (is_any _ _ _ _).mono ?_
    rintro e w2 ⟨rfl, hb2⟩
    have h2 := h1.below hb2
    have hs2 := hb2.size
    have hx2 := (hb2.block w.heap.size (by omega)).trans ((hb1.block w.heap.size (by simp; omega)).trans hx0.1)
    have hy2 := (hb2.block (w.heap.size + 1) (by omega)).trans ((hb1.block (w.heap.size + 1) (by simp)).trans hx0.2)
    have hc := cells7 hx2
    have hz := thaw4 hx2
    have hc2 := cells7 hy2
    have kw : Kept b w w2 := (((((Kept.refl b w).alloc _).alloc _).trans (Kept.of_below hb1)).trans (Kept.of_below hb2))
    have hA' : AnS (fun g => w.heap.size ≤ g ∧ g ≠ w.heap.size) w2 _ _ := AnS.mk 8 [] [] [] [] [] [] (Row.nil _ _ _) (Row.nil _ _ _) (Row.nil _ _ _) (Row.nil _ _ _)
    go_wp2_with fail
    exact fin_stmt Tryz.results94 rfl rfl rfl (store7 hx2 _ _ _ _ _ _ _) (postS_ok h kw (kept7 _ _ _ _ _ _ _ _ _) (Nat.le_refl _) h2 hA')
  · rw [if_neg hT] at hr
    have hT' : isT (cur ps q.next) 5 [125] = false := by simpa using hT
    clear hT
    go_enter Tryz.func94, Tryz.ntmps94
    go_wp2_with fail
    refine (peek_any _ _ _ _ _ _ _ h0).mono ?_
    rintro e w1 ⟨rfl, hb1⟩
    have h1 := h0.below hb1
    have hs1 := hb1.size
    simp at hs1
    go_wp2_with fail
    refine (is_any _ _ _ _).mono ?_
    rintro e w2 ⟨rfl, hb2⟩
    have h2 := h1.below hb2
    have hs2 := hb2.size
    have hx2 := (hb2.block w.heap.size (by omega)).trans ((hb1.block w.heap.size (by simp; omega)).trans hx0.1)
    have hy2 := (hb2.block (w.heap.size + 1) (by omega)).trans ((hb1.block (w.heap.size + 1) (by simp)).trans hx0.2)
    have kw : Kept b w w2 := (((((Kept.refl b w).alloc _).alloc _).trans (Kept.of_below hb1)).trans (Kept.of_below hb2))
    go_wp2_with fail
    rcases bindR_some hr with ⟨k, h5, rfl⟩ | ⟨x, n5, h5, h6⟩
    · refine (hE _ _ _ _ _ _ _ h2 h5).mono ?_
      rintro e w3 ⟨k3, v, n', ⟨v0, v1, v2, a3, l3, c3, rfl⟩, rfl, hR⟩
      have hs3 := k3.size
      have hx3 := (k3.block w.heap.size (by omega) (by omega)).trans hx2
      have hy3 := (k3.block (w.heap.size + 1) (by omega) (by omega)).trans hy2
      have hc := cells7 hx3
      have hz := thaw4 hx3
      have hc2 := cells7 hy3
      have hz2 := thaw4 hy3
      have hlt3 : w.heap.size < w3.heap.size := by omega
      have hlt4 : w.heap.size + 1 < w3.heap.size := by omega
      go_wp2_with fail
      have kY : Kept (w.heap.size + 1) w3 (w3.setCell ⟨w.heap.size + 1, 3, none⟩ (.slice (some ⟨w3.heap.size + 1, 0, none⟩) 1 1)) := (Kept.refl _ _).setCell _ _
      exact fin_stmt Tryz.results94 rfl rfl rfl (blk_alloc (blk_alloc (store7 ((kY.block _ (by omega) (by omega)).trans hx3) _ _ _ _ _ _ _) _) _) (postS_bad h ((kw.trans k3).own kY (by omega)) (((kept7 _ _ _ _ _ _ _ _ _).alloc _).alloc _) (Nat.le_refl _) (hR.own kY (by omega) (by omega) (by omega)))
    · cases h6
      refine (hE _ _ _ _ _ _ _ h2 h5).mono ?_
      rintro e w3 ⟨k3, v, rfl, hA, hR⟩
      obtain ⟨v0, v1, v2, a3, l3, c3, rfl⟩ := hA.sh
      have hs3 := k3.size
      have hx3 := (k3.block w.heap.size (by omega) (by omega)).trans hx2
      have hy3 := (k3.block (w.heap.size + 1) (by omega) (by omega)).trans hy2
      have hc := cells7 hx3
      have hz := thaw4 hx3
      have hc2 := cells7 hy3
      have hz2 := thaw4 hy3
      have hlt3 : w.heap.size < w3.heap.size := by omega
      have hlt4 : w.heap.size + 1 < w3.heap.size := by omega
      have kY : Kept (w.heap.size + 1) w3 (w3.setCell ⟨w.heap.size + 1, 3, none⟩ (.slice (some ⟨w3.heap.size + 1, 0, none⟩) 1 1)) := (Kept.refl _ _).setCell _ _
      have hA' : AnE (fun g => w.heap.size + 2 ≤ g) _ _ x := hA.own kY (fun g hg => by omega)
      have ho := one_row (x := w.heap.size) (.int .i64 8) (.string ⟨#[]⟩) (.string ⟨#[]⟩) (.slice none 0 0) (.slice none 0 0) (.slice none 0 0) (.cells #[.int .i64 v0, .int .i64 v1, .string v2, .slice a3 l3 c3] 116) (S' := fun g => w.heap.size ≤ g) hA' (fun g hg => by omega) (by have := kY.size; omega)
      rw [size_set] at ho
      have HO : Hid (_ ∧ _) := ho
      clear ho hA hA'
      go_wp2_with fail
      exact fin_stmt Tryz.results94 rfl rfl rfl (blk_alloc (blk_alloc (store7 ((kY.block _ (by omega) (by omega)).trans hx3) _ _ _ _ _ _ _) _) _) (postS_okW h ((kw.trans k3).own kY (by omega)) HO.out.1 (Nat.le_refl _) (hR.own kY (by omega) (by omega) (by omega)) (AnS.mk 8 [] [] [x] [] [] [] HO.out.2 (Row.nil _ _ _) (Row.nil _ _ _) (Row.nil _ _ _)))
end

section
open Go.RowKit
set_option linter.unusedSimpArgs false
set_option linter.unusedVariables false

theorem nameM_some {ps : List Tok} {n : Nat} {r : Sum (Int × Int) (List UInt8 × Nat)} (h : nameM ps n = some r) :
    (((cur ps n).kind != 1) = false ∧ r = .inr ((cur ps n).s, n + 1)) ∨ (((cur ps n).kind != 1) = true ∧ r = .inl (refuseM ps n)) := by
  unfold nameM at h
  split at h
  · rename_i hT; exact .inl ⟨by simpa using hT, by cases h; rfl⟩
  · rename_i hT; exact .inr ⟨by simpa using hT, by cases h; rfl⟩

theorem one_row0 {w2 : World} {x : Nat} {v0 v1 v2 v3 : Value} (u0 u1 u2 u4 u5 u6 : Value) {S S' : Nat → Prop} {t : Ex} (hA : AnE S w2 (.agg #[v0, v1, v2, v3]) t) (hS : ∀ g, S g → g ≠ x ∧ S' g) (hs : S' w2.heap.size) :
    Kept x w2 (((((((((w2.setCell ⟨x, 0, none⟩ u0).setCell ⟨x, 1, none⟩ u1).setCell ⟨x, 2, none⟩ u2).setCell ⟨x, 3, none⟩ (.slice (some ⟨w2.heap.size, 0, none⟩) 1 1)).setCell ⟨x, 4, none⟩ u4).setCell ⟨x, 5, none⟩ u5).setCell ⟨x, 6, none⟩ u6)).alloc (.cells #[v0, v1, v2, v3] 116)) ∧ Row S' (((((((((w2.setCell ⟨x, 0, none⟩ u0).setCell ⟨x, 1, none⟩ u1).setCell ⟨x, 2, none⟩ u2).setCell ⟨x, 3, none⟩ (.slice (some ⟨w2.heap.size, 0, none⟩) 1 1)).setCell ⟨x, 4, none⟩ u4).setCell ⟨x, 5, none⟩ u5).setCell ⟨x, 6, none⟩ u6)).alloc (.cells #[v0, v1, v2, v3] 116)) (AnE S' (((((((((w2.setCell ⟨x, 0, none⟩ u0).setCell ⟨x, 1, none⟩ u1).setCell ⟨x, 2, none⟩ u2).setCell ⟨x, 3, none⟩ (.slice (some ⟨w2.heap.size, 0, none⟩) 1 1)).setCell ⟨x, 4, none⟩ u4).setCell ⟨x, 5, none⟩ u5).setCell ⟨x, 6, none⟩ u6)).alloc (.cells #[v0, v1, v2, v3] 116))) (.slice (some ⟨w2.heap.size, 0, none⟩) 1 1) [t] := by
  have kx := (kept7 x w2 u0 u1 u2 (.slice (some ⟨w2.heap.size, 0, none⟩) 1 1) u4 u5 u6).alloc (.cells #[v0, v1, v2, v3] 116)
  have hrow := heap_alloc_new ((((((((w2.setCell ⟨x, 0, none⟩ u0).setCell ⟨x, 1, none⟩ u1).setCell ⟨x, 2, none⟩ u2).setCell ⟨x, 3, none⟩ (.slice (some ⟨w2.heap.size, 0, none⟩) 1 1)).setCell ⟨x, 4, none⟩ u4).setCell ⟨x, 5, none⟩ u5).setCell ⟨x, 6, none⟩ u6)) (.cells #[v0, v1, v2, v3] 116)
  rw [size_store7] at hrow
  exact ⟨kx, row1 hrow hs (hA.own kx hS)⟩

set_option maxHeartbeats 3000000 in
theorem delete_any {ps : List Tok} {E : Nat → Nat → R Ex} (hE : SaidE ps E) (w : World) (b bp cap T : Nat) (q : RS) (r : Sum (Int × Int) (St × Nat)) (h : Rdr w b bp cap T ps q)
    (hr : deleteM ps E q.depth q.next = some r) :
    Calls Tryz.prog 96 #[.pointer (some ⟨b, 0, none⟩)] w (PostS b bp cap T ps q w r) := by
  have hbs := h.bsize
  have hps := h.lt
  have hfar := h.far
  have h0 := h.below ((Below.refl w.heap.size w).alloc (Nat.le_refl _) (.cells #[.int .i64 0, .string ⟨#[]⟩, .string ⟨#[]⟩, .slice none 0 0, .slice none 0 0, .slice none 0 0, .slice none 0 0] 63))
  have hx0 := heap_alloc_new w (.cells #[.int .i64 0, .string ⟨#[]⟩, .string ⟨#[]⟩, .slice none 0 0, .slice none 0 0, .slice none 0 0, .slice none 0 0] 63)
  unfold deleteM at hr
  go_enter Tryz.func96, Tryz.ntmps96
  go_wp2_with fail
  rcases bindR_some hr with ⟨k, h1, rfl⟩ | ⟨u, n1, h1, h2⟩
  · rcases needM_some h1 with ⟨hT, h3⟩ | ⟨hT, h3⟩
    · cases h3
    · cases h3
      refine (mark_no _ _ _ _ _ _ _ _ h0 hT).mono ?_
      rintro e w1 ⟨rfl, hR, k1⟩
      have hblk := (k1.block w.heap.size (by simp) (by omega)).trans hx0
      have hc := cells7 hblk
      have hz := thaw4 hblk
      go_wp2_with fail
      exact fin_stmt Tryz.results96 rfl rfl rfl (store7 hblk _ _ _ _ _ _ _) (postS_bad h (((Kept.refl _ _).alloc _).trans k1) (kept7 _ _ _ _ _ _ _ _ _) (Nat.le_refl _) hR)
  · rcases needM_some h1 with ⟨hT, h3⟩ | ⟨hT, h3⟩
    · cases h3
      refine (mark_yes _ _ _ _ _ _ _ _ h0 hT).mono ?_
      rintro e w1 ⟨rfl, hR1, k1⟩
      have hs1 := k1.size
      simp at hs1
      have hx1 := (k1.block w.heap.size (by simp) (by omega)).trans hx0
      have kw1 : Kept b w w1 := ((Kept.refl b w).alloc _).trans k1
      go_wp2_with fail
      rcases bindR_some h2 with ⟨k, h4, rfl⟩ | ⟨nm, n2, h4, h5⟩
      · rcases nameM_some h4 with ⟨hN, h6⟩ | ⟨hN, h6⟩
        · cases h6
        · cases h6
          refine (name_no _ _ _ _ _ _ _ hR1 hN).mono ?_
          rintro e w2 ⟨rfl, hR, k2⟩
          have hblk := (k2.block w.heap.size (by omega) (by omega)).trans hx1
          have hc := cells7 hblk
          have hz := thaw4 hblk
          go_wp2_with fail
          exact fin_stmt Tryz.results96 rfl rfl rfl (store7 hblk _ _ _ _ _ _ _) (postS_bad h (kw1.trans k2) (kept7 _ _ _ _ _ _ _ _ _) (Nat.le_refl _) hR)
      · rcases nameM_some h4 with ⟨hN, h6⟩ | ⟨hN, h6⟩
        · cases h6
          refine (name_yes _ _ _ _ _ _ _ hR1 hN).mono ?_
          rintro e w2 ⟨rfl, hR2, k2⟩
          have hs2 := k2.size
          have hx2 := (k2.block w.heap.size (by omega) (by omega)).trans hx1
          have kw2 := kw1.trans k2
          go_wp2_with fail
          rcases bindR_some h5 with ⟨k, h7, rfl⟩ | ⟨u, n3, h7, h8⟩
          · rcases needM_some h7 with ⟨hT2, h9⟩ | ⟨hT2, h9⟩
            · cases h9
            · cases h9
              refine (mark_no _ _ _ _ _ _ _ _ hR2 hT2).mono ?_
              rintro e w3 ⟨rfl, hR, k3⟩
              have hblk := (k3.block w.heap.size (by omega) (by omega)).trans hx2
              have hc := cells7 hblk
              have hz := thaw4 hblk
              go_wp2_with fail
              exact fin_stmt Tryz.results96 rfl rfl rfl (store7 hblk _ _ _ _ _ _ _) (postS_bad h (kw2.trans k3) (kept7 _ _ _ _ _ _ _ _ _) (Nat.le_refl _) hR)
          · rcases needM_some h7 with ⟨hT2, h9⟩ | ⟨hT2, h9⟩
            · cases h9
              refine (mark_yes _ _ _ _ _ _ _ _ hR2 hT2).mono ?_
              rintro e w3 ⟨rfl, hR3, k3⟩
              have hs3 := k3.size
              have hx3 := (k3.block w.heap.size (by omega) (by omega)).trans hx2
              have kw3 := kw2.trans k3
              go_wp2_with fail
              rcases bindR_some h8 with ⟨k, h10, rfl⟩ | ⟨x, n4, h10, h11⟩
              · refine (hE _ _ _ _ _ _ _ hR3 h10).mono ?_
                rintro e w4 ⟨k4, v, n', ⟨v0, v1, v2, a3, l3, c3, rfl⟩, rfl, hR⟩
                have hs4 := k4.size
                have hblk := (k4.block w.heap.size (by omega) (by omega)).trans hx3
                have hc := cells7 hblk
                have hz := thaw4 hblk
                have hlt4 : w.heap.size < w4.heap.size := by omega
                go_wp2_with fail
                go_region
                all_goals
                  go_wp2_with fail
                  exact fin_stmt Tryz.results96 rfl rfl rfl (blk_drew (blk_alloc (blk_alloc (store7 hblk _ _ _ _ _ _ _) _) _)) (postS_bad h (kw3.trans k4) ((((kept7 _ _ _ _ _ _ _ _ _).alloc _).alloc _).drew) (Nat.le_refl _) hR)
              · refine (hE _ _ _ _ _ _ _ hR3 h10).mono ?_
                rintro e w4 ⟨k4, v, rfl, hA, hR4⟩
                obtain ⟨v0, v1, v2, a3, l3, c3, rfl⟩ := hA.sh
                have hs4 := k4.size
                have hblk4 := (k4.block w.heap.size (by omega) (by omega)).trans hx3
                have hc := cells7 hblk4
                have hz := thaw4 hblk4
                have hlt4 : w.heap.size < w4.heap.size := by omega
                go_wp2_with fail
                rcases bindR_some h11 with ⟨k, h12, rfl⟩ | ⟨u, n5, h12, h13⟩
                · rcases needM_some h12 with ⟨hT3, h14⟩ | ⟨hT3, h14⟩
                  · cases h14
                  · cases h14
                    go_region_with (first | (go_at_call 61; refine (mark_no ((w4.alloc (.cells #[.int .i64 v0, .int .i64 v1, .string v2, .slice a3 l3 c3] 116)).drew) b bp cap T ps _ [41] (hR4.below (((Below.refl _ _).alloc (Nat.le_refl _) _).drew)) hT3).mono ?_; rintro e w5 ⟨rfl, hR5, k5⟩; have hs5 := k5.size; simp at hs5; have hx5 := (k5.block w.heap.size (by simp; omega) (by omega)).trans (blk_drew (blk_alloc hblk4 _)); have hy5 := (k5.block w4.heap.size (by simp) (by omega)).trans (heap_alloc_new w4 _); have hc5 := cells7 hx5; have hz5 := thaw4 hx5; have hy4 := cells4 hy5; have hlt5 : w.heap.size < w5.heap.size := by { omega }; have kq := ((((kw3.trans k4).alloc _).drew).trans k5); have kr := ((((Kept.refl b w4).alloc _).drew).trans k5)) | (go_at_call 61; refine (mark_no (((w4.alloc (.cells #[.int .i64 v0, .int .i64 v1, .string v2, .slice a3 l3 c3] 116)).alloc (.cells #[.int .i64 v0, .int .i64 v1, .string v2, .slice a3 l3 c3] 116)).drew) b bp cap T ps _ [41] (hR4.below ((((Below.refl _ _).alloc (Nat.le_refl _) _).alloc (by simp) _).drew)) hT3).mono ?_; rintro e w5 ⟨rfl, hR5, k5⟩; have hs5 := k5.size; simp at hs5; have hx5 := (k5.block w.heap.size (by simp; omega) (by omega)).trans (blk_drew (blk_alloc (blk_alloc hblk4 _) _)); have hy5 := (k5.block w4.heap.size (by simp; omega) (by omega)).trans (heap_alloc2 w4 _ _).1; have hw5 := (k5.block (w4.heap.size + 1) (by simp) (by omega)).trans (heap_alloc2 w4 _ _).2; have hc5 := cells7 hx5; have hz5 := thaw4 hx5; have hy4 := cells4 hy5; have hlt5 : w.heap.size < w5.heap.size := by { omega }; have kq := (((((kw3.trans k4).alloc _).alloc _).drew).trans k5); have kr := (((((Kept.refl b w4).alloc _).alloc _).drew).trans k5)))
                    all_goals
                      go_wp2_with fail
                      first
                        | (have _t := hw5; exact fin_stmt Tryz.results96 rfl rfl rfl (store7 hx5 _ _ _ _ _ _ _) (postS_bad h kq (kept7 _ _ _ _ _ _ _ _ _) (Nat.le_refl _) hR5))
                        | (exact fin_stmt Tryz.results96 rfl rfl rfl (blk_alloc (store7 hx5 _ _ _ _ _ _ _) _) (postS_bad h kq ((kept7 _ _ _ _ _ _ _ _ _).alloc _) (Nat.le_refl _) hR5))
                · rcases needM_some h12 with ⟨hT3, h14⟩ | ⟨hT3, h14⟩
                  · cases h14
                    cases h13
                    have HA : Hid (AnE (fun g => w3.heap.size ≤ g) w4 (.agg #[.int .i64 v0, .int .i64 v1, .string v2, .slice a3 l3 c3]) x) := hA
                    clear hA
                    go_region_with (first | (go_at_call 61; refine (mark_yes ((w4.alloc (.cells #[.int .i64 v0, .int .i64 v1, .string v2, .slice a3 l3 c3] 116)).drew) b bp cap T ps _ [41] (hR4.below (((Below.refl _ _).alloc (Nat.le_refl _) _).drew)) hT3).mono ?_; rintro e w5 ⟨rfl, hR5, k5⟩; have hs5 := k5.size; simp at hs5; have hx5 := (k5.block w.heap.size (by simp; omega) (by omega)).trans (blk_drew (blk_alloc hblk4 _)); have hy5 := (k5.block w4.heap.size (by simp) (by omega)).trans (heap_alloc_new w4 _); have hc5 := cells7 hx5; have hz5 := thaw4 hx5; have hy4 := cells4 hy5; have hlt5 : w.heap.size < w5.heap.size := by { omega }; have kq := ((((kw3.trans k4).alloc _).drew).trans k5); have kr := ((((Kept.refl b w4).alloc _).drew).trans k5)) | (go_at_call 61; refine (mark_yes (((w4.alloc (.cells #[.int .i64 v0, .int .i64 v1, .string v2, .slice a3 l3 c3] 116)).alloc (.cells #[.int .i64 v0, .int .i64 v1, .string v2, .slice a3 l3 c3] 116)).drew) b bp cap T ps _ [41] (hR4.below ((((Below.refl _ _).alloc (Nat.le_refl _) _).alloc (by simp) _).drew)) hT3).mono ?_; rintro e w5 ⟨rfl, hR5, k5⟩; have hs5 := k5.size; simp at hs5; have hx5 := (k5.block w.heap.size (by simp; omega) (by omega)).trans (blk_drew (blk_alloc (blk_alloc hblk4 _) _)); have hy5 := (k5.block w4.heap.size (by simp; omega) (by omega)).trans (heap_alloc2 w4 _ _).1; have hw5 := (k5.block (w4.heap.size + 1) (by simp) (by omega)).trans (heap_alloc2 w4 _ _).2; have hc5 := cells7 hx5; have hz5 := thaw4 hx5; have hy4 := cells4 hy5; have hlt5 : w.heap.size < w5.heap.size := by { omega }; have kq := (((((kw3.trans k4).alloc _).alloc _).drew).trans k5); have kr := (((((Kept.refl b w4).alloc _).alloc _).drew).trans k5)))
                    all_goals
                      go_wp2_with fail
                      have hA5 : AnE (fun g => w.heap.size ≤ g ∧ g ≠ w.heap.size) w5 (.agg #[.int .i64 v0, .int .i64 v1, .string v2, .slice a3 l3 c3]) x := HA.out.move fun g hg hlt => ⟨by omega, kr.block g hlt (by omega)⟩
                      first
                        | (have _t := hw5
                           have kx := kept7 w.heap.size w5 (.int .i64 12) (.string ⟨(cur ps (q.next + 1)).s.toArray⟩) (.string ⟨#[]⟩) (.slice (some ⟨w4.heap.size + 1, 0, none⟩) 1 1) (.slice none 0 0) (.slice none 0 0) (.slice none 0 0)
                           have hrw := row1 (S := fun g => w.heap.size ≤ g) ((kx.block (w4.heap.size + 1) (by omega) (by omega)).trans hw5) (by omega) (hA5.own kx fun g hg => ⟨hg.2, hg.1⟩)
                           exact fin_stmt Tryz.results96 rfl rfl rfl (store7 hx5 _ _ _ _ _ _ _) (postS_okW h kq kx (Nat.le_refl _) hR5 (AnS.mk 12 (cur ps (q.next + 1)).s [] [x] [] [] [] hrw (Row.nil _ _ _) (Row.nil _ _ _) (Row.nil _ _ _))))
                        | (have ho := one_row0 (x := w.heap.size) (.int .i64 12) (.string ⟨(cur ps (q.next + 1)).s.toArray⟩) (.string ⟨#[]⟩) (.slice none 0 0) (.slice none 0 0) (.slice none 0 0) (S' := fun g => w.heap.size ≤ g) hA5 (fun g hg => by omega) (by omega)
                           exact fin_stmt Tryz.results96 rfl rfl rfl (blk_alloc (store7 hx5 _ _ _ _ _ _ _) _) (postS_okW h kq ho.1 (Nat.le_refl _) hR5 (AnS.mk 12 (cur ps (q.next + 1)).s [] [x] [] [] [] ho.2 (Row.nil _ _ _) (Row.nil _ _ _) (Row.nil _ _ _))))
                  · cases h14
            · cases h9
        · cases h6
    · cases h3
end

section
open Go.RowKit
set_option linter.unusedSimpArgs false
set_option linter.unusedVariables false

theorem Row.own {B : Type} {S S' : Nat → Prop} {w w' : World} {x : Nat} {P Q : Value → B → Prop} {v : Value} {xs : List B} (h : Row S w P v xs) (k : Kept x w w') (hs : ∀ g, S g → g ≠ x ∧ S' g) (hp : ∀ u y, P u y → Q u y) : Row S' w' Q v xs :=
  h.move (fun g hS hg => ⟨(hs g hS).2, k.block g hg (hs g hS).1⟩) hp

theorem RowE.own {S S' : Nat → Prop} {w w' : World} {x : Nat} {v : Value} {xs : List Ex} (h : Row S w (AnE S w) v xs) (k : Kept x w w') (hs : ∀ g, S g → g ≠ x ∧ S' g) : Row S' w' (AnE S' w') v xs := h.own k hs fun _ _ h => h.own k hs
theorem RowS.own {S S' : Nat → Prop} {w w' : World} {x : Nat} {v : Value} {xs : List St} (h : Row S w (AnS S w) v xs) (k : Kept x w w') (hs : ∀ g, S g → g ≠ x ∧ S' g) : Row S' w' (AnS S' w') v xs := h.own k hs fun _ _ h => h.own k hs

theorem size_alloc2 (w : World) (o1 o2 : Obj) : ((w.alloc o1).alloc o2).heap.size = w.heap.size + 2 := by simp

set_option maxHeartbeats 2000000 in
theorem headed_any {ps : List Tok} {E : Nat → Nat → R Ex} {B : Nat → Nat → R (List St)} (hE : SaidE ps E) (hB : SaidB ps B) (w : World) (b bp cap T : Nat) (q : RS) (kd : Int) (s t : List UInt8) (r : Sum (Int × Int) (St × Nat)) (h : Rdr w b bp cap T ps q)
    (hr : headedM E B q.depth (st0 kd s t) q.next = some r) :
    Calls Tryz.prog 110 #[.pointer (some ⟨b, 0, none⟩), .agg #[.int .i64 kd, .string ⟨s.toArray⟩, .string ⟨t.toArray⟩, .slice none 0 0, .slice none 0 0, .slice none 0 0, .slice none 0 0]] w (PostS b bp cap T ps q w r) := by
  have hbs := h.bsize
  have hps := h.lt
  have hfar := h.far
  have h0 := h.below (((Below.refl w.heap.size w).alloc (Nat.le_refl _) (.cells #[.int .i64 kd, .string ⟨s.toArray⟩, .string ⟨t.toArray⟩, .slice none 0 0, .slice none 0 0, .slice none 0 0, .slice none 0 0] 63)).alloc (by simp) (.cells #[.int .i64 0, .string ⟨#[]⟩, .string ⟨#[]⟩, .slice none 0 0, .slice none 0 0, .slice none 0 0, .slice none 0 0] 63))
  have hx0 := heap_alloc2 w (.cells #[.int .i64 kd, .string ⟨s.toArray⟩, .string ⟨t.toArray⟩, .slice none 0 0, .slice none 0 0, .slice none 0 0, .slice none 0 0] 63) (.cells #[.int .i64 0, .string ⟨#[]⟩, .string ⟨#[]⟩, .slice none 0 0, .slice none 0 0, .slice none 0 0, .slice none 0 0] 63)
  unfold headedM at hr
  go_enter Tryz.func110, Tryz.ntmps110
  go_wp2_with fail
  rcases bindR_some hr with ⟨k, h1, rfl⟩ | ⟨x, n1, h1, h2⟩
  · refine (hE _ _ _ _ _ _ _ h0 h1).mono ?_
    rintro e w2 ⟨k2, v, n', ⟨v0, v1, v2, a3, l3, c3, rfl⟩, rfl, hR⟩
    have hs2 := k2.size
    rw [size_alloc2] at hs2
    have hblk := (k2.block (w.heap.size + 1) (by simp) (by omega)).trans hx0.2
    have hc := cells7 hblk
    have hz := thaw4 hblk
    have hlt2 : w.heap.size + 1 < w2.heap.size := by omega
    go_wp2_with fail
    exact fin_stmt Tryz.results110 rfl rfl rfl (blk_alloc (store7 hblk _ _ _ _ _ _ _) _) (postS_bad h ((((Kept.refl _ _).alloc _).alloc _).trans k2) ((kept7 _ _ _ _ _ _ _ _ _).alloc _) (by omega) hR)
  · refine (hE _ _ _ _ _ _ _ h0 h1).mono ?_
    rintro e w2 ⟨k2, v, rfl, hA, hR⟩
    obtain ⟨v0, v1, v2, a3, l3, c3, rfl⟩ := hA.sh
    have hs2 := k2.size
    rw [size_alloc2] at hs2
    have hsb2 := (k2.block w.heap.size (by simp; omega) (by omega)).trans hx0.1
    have hxb2 := (k2.block (w.heap.size + 1) (by simp) (by omega)).trans hx0.2
    have hc := cells7 hsb2
    have hz := thaw4 hsb2
    have hlt2 : w.heap.size + 1 < w2.heap.size := by omega
    have hlt3 : w.heap.size < w2.heap.size := by omega
    have kw2 : Kept b w w2 := ((((Kept.refl b w).alloc _).alloc _).trans k2)
    have kY : Kept w.heap.size w2 (((w2.setCell ⟨w.heap.size, 3, none⟩ (.slice (some ⟨w2.heap.size + 1, 0, none⟩) 1 1)).alloc (.cells #[.int .i64 v0, .int .i64 v1, .string v2, .slice a3 l3 c3] 116)).alloc (.cells #[.int .i64 v0, .int .i64 v1, .string v2, .slice a3 l3 c3] 116)) := ((((Kept.refl _ _).setCell _ _).alloc _).alloc _)
    have hrow := (heap_alloc2 (w2.setCell ⟨w.heap.size, 3, none⟩ (.slice (some ⟨w2.heap.size + 1, 0, none⟩) 1 1)) (.cells #[.int .i64 v0, .int .i64 v1, .string v2, .slice a3 l3 c3] 116) (.cells #[.int .i64 v0, .int .i64 v1, .string v2, .slice a3 l3 c3] 116)).2
    rw [size_set] at hrow
    have hsb3 := blk_alloc (blk_alloc (heap_setCell_same (o := 3) hsb2 (.slice (some ⟨w2.heap.size + 1, 0, none⟩) 1 1)) (.cells #[.int .i64 v0, .int .i64 v1, .string v2, .slice a3 l3 c3] 116)) (.cells #[.int .i64 v0, .int .i64 v1, .string v2, .slice a3 l3 c3] 116)
    have hre : Row (fun g => w.heap.size + 2 ≤ g) _ (AnE (fun g => w.heap.size + 2 ≤ g) _) _ [x] := row1 hrow (by omega) (hA.own kY fun g hg => by simp at hg; omega)
    have hR3 := hR.own kY (by omega) (by omega) (by omega)
    have hxb3 := (kY.block (w.heap.size + 1) (by omega) (by omega)).trans hxb2
    have kw3 := kw2.own kY (Nat.le_refl _)
    have hs3 := kY.size
    clear hA
    go_wp2_with fail
    generalize (((w2.setCell ⟨w.heap.size, 3, none⟩ (.slice (some ⟨w2.heap.size + 1, 0, none⟩) 1 1)).alloc (.cells #[.int .i64 v0, .int .i64 v1, .string v2, .slice a3 l3 c3] 116)).alloc (.cells #[.int .i64 v0, .int .i64 v1, .string v2, .slice a3 l3 c3] 116)) = w3 at *
    rcases bindR_some h2 with ⟨k, h5, rfl⟩ | ⟨l, n2, h5, h6⟩
    · refine (hB _ _ _ _ _ _ _ hR3 h5).mono ?_
      rintro e w4 ⟨k4, a, l, c, n', rfl, hR4⟩
      have hsb4 := (k4.block w.heap.size (by omega) (by omega)).trans hsb3
      have hxb4 := (k4.block (w.heap.size + 1) (by omega) (by omega)).trans hxb3
      have hc4 := cells7 hsb4
      have hz4 := thaw4 hsb4
      have hd4 := cells7 hxb4
      have hy4 := thaw4 hxb4
      have kZ : Kept w.heap.size w4 (w4.setCell ⟨w.heap.size, 4, none⟩ (.slice a l c)) := (Kept.refl _ _).setCell _ _
      have hs4 := k4.size
      go_wp2_with fail
      exact fin_stmt Tryz.results110 rfl rfl rfl (store7 ((kZ.block _ (by omega) (by omega)).trans hxb4) _ _ _ _ _ _ _) (postS_bad h ((kw3.trans k4).own kZ (Nat.le_refl _)) (kept7 _ _ _ _ _ _ _ _ _) (by omega) (hR4.own kZ (by omega) (by omega) (by omega)))
    · cases h6
      refine (hB _ _ _ _ _ _ _ hR3 h5).mono ?_
      rintro e w4 ⟨k4, a, c, rfl, hrl, hR4⟩
      have hsb4 := (k4.block w.heap.size (by omega) (by omega)).trans hsb3
      have hxb4 := (k4.block (w.heap.size + 1) (by omega) (by omega)).trans hxb3
      have hc4 := cells7 hsb4
      have hz4 := thaw4 hsb4
      have hd4 := cells7 hxb4
      have hy4 := thaw4 hxb4
      have kZ : Kept w.heap.size w4 (w4.setCell ⟨w.heap.size, 4, none⟩ (.slice a l.length c)) := (Kept.refl _ _).setCell _ _
      have hs4 := k4.size
      have hre4 := RowE.own (S' := fun g => w.heap.size + 2 ≤ g) hre k4 (fun g hg => by omega)
      have hre5 := RowE.own (S' := fun g => w.heap.size ≤ g ∧ g ≠ w.heap.size + 1) hre4 kZ (fun g hg => by omega)
      have hrl5 := RowS.own (S' := fun g => w.heap.size ≤ g ∧ g ≠ w.heap.size + 1) hrl kZ (fun g hg => by omega)
      have HO : Hid (_ ∧ _) := ⟨hre5, hrl5⟩
      clear hre hre4 hre5 hrl hrl5
      go_wp2_with fail
      exact fin_stmt Tryz.results110 rfl rfl rfl (store7 ((kZ.block _ (by omega) (by omega)).trans hxb4) _ _ _ _ _ _ _) (postS_ok h ((kw3.trans k4).own kZ (Nat.le_refl _)) (kept7 _ _ _ _ _ _ _ _ _) (by omega) (hR4.own kZ (by omega) (by omega) (by omega)) (AnS.mk kd s t [x] l [] [] HO.out.1 HO.out.2 (Row.nil _ _ _) (Row.nil _ _ _)))
end

section
open Go.RowKit
set_option linter.unusedSimpArgs false
set_option linter.unusedVariables false

def SaidIf (ps : List Tok) (M : Nat → Nat → R St) : Prop :=
  ∀ (w : World) (b bp cap T : Nat) (q : RS) (r : Sum (Int × Int) (St × Nat)), Rdr w b bp cap T ps q → M q.depth q.next = some r →
    Calls Tryz.prog 91 #[.pointer (some ⟨b, 0, none⟩)] w (PostS b bp cap T ps q w r)

def elseIfM (ps : List Tok) (M : Nat → Nat → R St) (d n : Nat) : R (List St) :=
  if 30 ≤ d then badR ((cur ps n).at_, 8) else bindR (M (d + 1) n) fun s n' => okR [s] n'

set_option maxHeartbeats 400000 in
theorem leave_else (w : World) (b bp cap T bx : Nat) (ps : List Tok) (q : RS) (u : FrameMode) (h : Rdr w b bp cap T ps q) (hx : w.cell? ⟨bx, 0, none⟩ = some (.pointer (some ⟨b, 0, none⟩))) (hd : 0 < q.depth) :
    CallsD Tryz.prog 127 #[.pointer (some ⟨bx, 0, none⟩)] u w fun e u' w' => u' = u ∧ (e = .returned (.tuple #[]) ∧ Rdr w' b bp cap T ps { q with depth := q.depth - 1 } ∧ Kept b w w') := by
  obtain ⟨c0, c1, c2, c3, c4⟩ := h.cells
  have hz := h.thaw 2
  have hdp := h.dp
  go_enter_d Tryz.func127, Tryz.ntmps127
  go_wp2
  go_end0
  exact ⟨rfl, h.setDepth (q.depth - 1) (by omega) _ (by go_num), (Kept.refl _ _).setCell _ _⟩

set_option maxHeartbeats 400000 in
theorem leave_block (w : World) (b bp cap T bx : Nat) (ps : List Tok) (q : RS) (u : FrameMode) (h : Rdr w b bp cap T ps q) (hx : w.cell? ⟨bx, 0, none⟩ = some (.pointer (some ⟨b, 0, none⟩))) (hd : 0 < q.depth) :
    CallsD Tryz.prog 63 #[.pointer (some ⟨bx, 0, none⟩)] u w fun e u' w' => u' = u ∧ (e = .returned (.tuple #[]) ∧ Rdr w' b bp cap T ps { q with depth := q.depth - 1 } ∧ Kept b w w') := by
  obtain ⟨c0, c1, c2, c3, c4⟩ := h.cells
  have hz := h.thaw 2
  have hdp := h.dp
  go_enter_d Tryz.func63, Tryz.ntmps63
  go_wp2
  go_end0
  exact ⟨rfl, h.setDepth (q.depth - 1) (by omega) _ (by go_num), (Kept.refl _ _).setCell _ _⟩

theorem rowS1 {S : Nat → Prop} {W : World} {g : Nat} {v0 v1 v2 v3 v4 v5 v6 : Value} {T : TypeId} {f : Nat × Nat} {x : St} (hb : W.heap[g]? = some (.cells #[v0, v1, v2, v3, v4, v5, v6] T f)) (hS : S g) (hx : AnS S W (.agg #[v0, v1, v2, v3, v4, v5, v6]) x) :
    Row S W (AnS S W) (.slice (some ⟨g, 0, none⟩) 1 1) [x] :=
  ⟨[.agg #[v0, v1, v2, v3, v4, v5, v6]], .inr ⟨g, 1, _, T, f, rfl, hS, hb, by simp [flat, Value.cells]⟩, hx, trivial⟩

set_option maxHeartbeats 1000000 in
theorem elseIf_any {ps : List Tok} {M : Nat → Nat → R St} (hM : SaidIf ps M) (w : World) (b bp cap T : Nat) (q : RS) (r : Sum (Int × Int) (List St × Nat)) (h : Rdr w b bp cap T ps q)
    (hr : elseIfM ps M q.depth q.next = some r) :
    Calls Tryz.prog 111 #[.pointer (some ⟨b, 0, none⟩)] w (PostB b bp cap T ps q w r) := by
  have hbs := h.bsize
  have hps := h.lt
  have hfar := h.far
  have hmf := mkf
  have h0 := h.below ((Below.refl w.heap.size w).alloc (Nat.le_refl _) (.cells #[.pointer (some ⟨b, 0, none⟩)] 43))
  have hx0 := heap_alloc_new w (.cells #[.pointer (some ⟨b, 0, none⟩)] 43)
  unfold elseIfM at hr
  by_cases hd : 30 ≤ q.depth
  · rw [if_pos hd] at hr
    cases hr
    go_enter_defers Tryz.func111, Tryz.ntmps111
    go_wp2_with fail
    refine (enter_no _ _ _ _ _ _ _ h0 hd).mono ?_
    rintro e w1 ⟨rfl, hR, k1⟩
    go_wp2_with fail
    exact ⟨_, results_tmp2 Tryz.results111 _ _ _, ((Kept.refl _ _).alloc _).trans k1, _, _, _, _, rfl, hR⟩
  · rw [if_neg hd] at hr
    go_enter_defers Tryz.func111, Tryz.ntmps111
    go_wp2_with fail
    refine (enter_yes _ _ _ _ _ _ _ h0 (by omega)).mono ?_
    rintro e w1 ⟨rfl, hR, k1⟩
    have hs1 := k1.size
    simp at hs1
    have hbox := (k1.block w.heap.size (by simp) (by omega)).trans hx0
    have cb : w1.cell? ⟨w.heap.size, 0, none⟩ = some (.pointer (some ⟨b, 0, none⟩)) := by simp [World.cell?, hbox]
    have kw1 : Kept b w w1 := ((Kept.refl b w).alloc _).trans k1
    go_wp2_with fail
    rcases bindR_some hr with ⟨k, h1, rfl⟩ | ⟨x, n1, h1, h2⟩
    · refine (hM _ _ _ _ _ _ _ hR h1).mono ?_
      rintro e w2 ⟨k2, v, n', ⟨v0, v1, v2, a3, l3, c3, a4, l4, c4, a5, l5, c5, a6, l6, c6, rfl⟩, rfl, hR2⟩
      have hbox2 := (k2.block w.heap.size (by omega) (by omega)).trans hbox
      have hcb : w2.cell? ⟨w.heap.size, 0, none⟩ = some (.pointer (some ⟨b, 0, none⟩)) := by simp [World.cell?, hbox2]
      have hs2 := k2.size
      go_wp2_with fail
      have kx : Kept b w2 ((w2.alloc (.cells #[.int .i64 v0, .string v1, .string v2, .slice a3 l3 c3, .slice a4 l4 c4, .slice a5 l5 c5, .slice a6 l6 c6] 63)).alloc (.cells #[.int .i64 v0, .string v1, .string v2, .slice a3 l3 c3, .slice a4 l4 c4, .slice a5 l5 c5, .slice a6 l6 c6] 63)) := ((Kept.refl b w2).alloc _).alloc _
      refine leaves_cons (f := 127) (args := #[.pointer (some ⟨w.heap.size, 0, none⟩)]) (by simp) (by simp [go_sem]) ?_
      refine (leave_else _ b bp cap T w.heap.size ps _ .returning (hR2.below (((Below.refl _ _).alloc (Nat.le_refl _) _).alloc (by simp) _)) ((kx.cell w.heap.size 0 (by omega) (by omega)).trans hcb) (by simp)).mono ?_
      rintro e u' w3 ⟨rfl, rfl, hR3, k3⟩
      exact ⟨_, results_tmp2 Tryz.results111 _ _ _, kw1.trans (k2.trans (kx.trans k3)), _, _, _, _, rfl, (by simpa using hR3)⟩
    · cases h2
      refine (hM _ _ _ _ _ _ _ hR h1).mono ?_
      rintro e w2 ⟨k2, v, rfl, hA, hR2⟩
      obtain ⟨v0, v1, v2, a3, l3, c3, a4, l4, c4, a5, l5, c5, a6, l6, c6, rfl⟩ := hA.sh
      have hbox2 := (k2.block w.heap.size (by omega) (by omega)).trans hbox
      have hcb : w2.cell? ⟨w.heap.size, 0, none⟩ = some (.pointer (some ⟨b, 0, none⟩)) := by simp [World.cell?, hbox2]
      have hs2 := k2.size
      have kx : Kept b w2 ((w2.alloc (.cells #[.int .i64 v0, .string v1, .string v2, .slice a3 l3 c3, .slice a4 l4 c4, .slice a5 l5 c5, .slice a6 l6 c6] 63)).alloc (.cells #[.int .i64 v0, .string v1, .string v2, .slice a3 l3 c3, .slice a4 l4 c4, .slice a5 l5 c5, .slice a6 l6 c6] 63)) := ((Kept.refl b w2).alloc _).alloc _
      have hrow := rowS1 (S := fun g => w.heap.size ≤ g) (heap_alloc2 w2 (.cells #[.int .i64 v0, .string v1, .string v2, .slice a3 l3 c3, .slice a4 l4 c4, .slice a5 l5 c5, .slice a6 l6 c6] 63) (.cells #[.int .i64 v0, .string v1, .string v2, .slice a3 l3 c3, .slice a4 l4 c4, .slice a5 l5 c5, .slice a6 l6 c6] 63)).2 (by omega) (hA.own kx fun g hg => by omega)
      clear hA
      go_wp2_with fail
      refine leaves_cons (f := 127) (args := #[.pointer (some ⟨w.heap.size, 0, none⟩)]) (by simp) (by simp [go_sem]) ?_
      refine (leave_else _ b bp cap T w.heap.size ps _ .returning (hR2.below (((Below.refl _ _).alloc (Nat.le_refl _) _).alloc (by simp) _)) ((kx.cell w.heap.size 0 (by omega) (by omega)).trans hcb) (by simp)).mono ?_
      rintro e u' w3 ⟨rfl, rfl, hR3, k3⟩
      exact ⟨_, results_tmp2 Tryz.results111 _ _ _, kw1.trans (k2.trans (kx.trans k3)), _, _, rfl, RowS.own hrow k3 (fun g hg => by omega), (by simpa using hR3)⟩

def ifOneM (ps : List Tok) (E : Nat → Nat → R Ex) (B : Nat → Nat → R (List St)) (M : Nat → Nat → R St) (d n : Nat) : R St :=
  bindR (headedM E B d (st0 4 [] []) n) fun s n1 =>
    if isT (cur ps n1) 2 [101, 108, 115, 101] then
      (if isT (cur ps (n1 + 1)) 2 [105, 102] then bindR (elseIfM ps M d (n1 + 1 + 1)) fun l n2 => okR { s with els := l } n2
      else bindR (B d (n1 + 1)) fun l n2 => okR { s with els := l } n2)
    else okR s n1

/-- a statement whose Else is set: the rest is as it was -/
theorem AnS.setElse {S : Nat → Prop} {w : World} {u0 u1 u2 u3 u4 u5 u6 al : Value} {x : St} {xl : List St} (h : AnS S w (.agg #[u0, u1, u2, u3, u4, u5, u6]) x) (hl : Row S w (AnS S w) al xl) :
    AnS S w (.agg #[u0, u1, u2, u3, u4, al, u6]) { x with els := xl } := by
  obtain ⟨f, h⟩ := h
  cases f with
  | zero => exact h.elim
  | succ f =>
    obtain ⟨be, bb, bl, bc, hv, h1, h2, h3, h4⟩ := h
    simp at hv
    obtain ⟨rfl, rfl, rfl, rfl, rfl, rfl, rfl⟩ := hv
    exact AnS.mk x.kind x.s x.t x.exprs x.body xl x.cases h1 (h2.move (fun g h _ => ⟨h, rfl⟩) fun _ _ h => ⟨f, h⟩) hl (h4.move (fun g h _ => ⟨h, rfl⟩) fun _ _ h => h.move (fun g h _ => ⟨h, rfl⟩) fun _ _ h => ⟨f, h⟩)

set_option maxHeartbeats 3000000 in
theorem if_any {ps : List Tok} {E : Nat → Nat → R Ex} {B : Nat → Nat → R (List St)} {M : Nat → Nat → R St} (hE : SaidE ps E) (hB : SaidB ps B) (hM : SaidIf ps M) : SaidIf ps (ifOneM ps E B M) := by
  intro w b bp cap T q r h hr
  have hbs := h.bsize
  have hps := h.lt
  have hfar := h.far
  have h0 := h.below ((Below.refl w.heap.size w).alloc (Nat.le_refl _) (.cells #[.int .i64 0, .string ⟨#[]⟩, .string ⟨#[]⟩, .slice none 0 0, .slice none 0 0, .slice none 0 0, .slice none 0 0] 63))
  have hx0 := heap_alloc_new w (.cells #[.int .i64 0, .string ⟨#[]⟩, .string ⟨#[]⟩, .slice none 0 0, .slice none 0 0, .slice none 0 0, .slice none 0 0] 63)
  unfold ifOneM at hr
  go_enter Tryz.func91, Tryz.ntmps91
  go_wp2_with fail
  rcases bindR_some hr with ⟨k, h1, rfl⟩ | ⟨x, n1, h1, h2⟩
  · refine (headed_any hE hB _ b bp cap T q 4 [] [] _ h0 h1).mono ?_
    rintro e w2 ⟨k2, v, n', ⟨v0, v1, v2, a3, l3, c3, a4, l4, c4, a5, l5, c5, a6, l6, c6, rfl⟩, rfl, hR⟩
    have hs2 := k2.size
    simp at hs2
    have hblk := (k2.block w.heap.size (by simp) (by omega)).trans hx0
    have hc := cells7 hblk
    have hz := thaw4 hblk
    have hlt2 : w.heap.size < w2.heap.size := by omega
    go_wp2_with fail
    exact fin_stmt Tryz.results91 rfl rfl rfl (blk_alloc (store7 hblk _ _ _ _ _ _ _) _) (postS_bad h (((Kept.refl _ _).alloc _).trans k2) ((kept7 _ _ _ _ _ _ _ _ _).alloc _) (Nat.le_refl _) hR)
  · refine (headed_any hE hB _ b bp cap T q 4 [] [] _ h0 h1).mono ?_
    rintro e w2 ⟨k2, v, rfl, hA, hR⟩
    obtain ⟨v0, v1, v2, a3, l3, c3, a4, l4, c4, a5, l5, c5, a6, l6, c6, rfl⟩ := hA.sh
    have hs2 := k2.size
    simp at hs2
    have hblk2 := (k2.block w.heap.size (by simp) (by omega)).trans hx0
    have kw2 : Kept b w w2 := ((Kept.refl b w).alloc _).trans k2
    have hlt2 : w.heap.size < w2.heap.size := by omega
    have hR2 := hR.below ((Below.refl w2.heap.size w2).alloc (Nat.le_refl _) (.cells #[.int .i64 v0, .string v1, .string v2, .slice a3 l3 c3, .slice a4 l4 c4, .slice a5 l5 c5, .slice a6 l6 c6] 63))
    by_cases hT : isT (cur ps n1) 2 [101, 108, 115, 101] = true
    · rw [if_pos hT] at h2
      have HA2 : Hid (AnS (fun g => w.heap.size + 1 ≤ g) w2 (.agg #[.int .i64 v0, .string v1, .string v2, .slice a3 l3 c3, .slice a4 l4 c4, .slice a5 l5 c5, .slice a6 l6 c6]) x) := hA.move fun g hg _ => ⟨by simp at hg; omega, rfl⟩
      clear hA
      go_wp2_with fail
      refine (skip_yes _ _ _ _ _ _ _ _ _ hR2 rfl hT).mono ?_
      rintro e w3 ⟨rfl, hR3, k3⟩
      have hs3 := k3.size
      simp at hs3
      have hsb3 := (k3.block w2.heap.size (by simp) (by omega)).trans (heap_alloc_new w2 _)
      have hxb3 := (k3.block w.heap.size (by simp; omega) (by omega)).trans (blk_alloc hblk2 _)
      have kw3 : Kept b w w3 := (kw2.alloc _).trans k3
      by_cases hT2 : isT (cur ps (n1 + 1)) 2 [105, 102] = true
      · rw [if_pos hT2] at h2
        go_wp2_with fail
        refine (skip_yes _ _ _ _ _ _ _ _ _ hR3 rfl hT2).mono ?_
        rintro e w4 ⟨rfl, hR4, k4⟩
        have hs4 := k4.size
        have hsb4 := (k4.block w2.heap.size (by omega) (by omega)).trans hsb3
        have hxb4 := (k4.block w.heap.size (by omega) (by omega)).trans hxb3
        have kw4 := kw3.trans k4
        have hA4 : AnS (fun g => w.heap.size < g ∧ g ≠ w2.heap.size) w4 _ x := HA2.out.move fun g hg hlt => ⟨by omega, (k4.block g (by omega) (by omega)).trans ((k3.block g (by simp; omega) (by omega)).trans (Below.heap_alloc _ _ _ hlt))⟩
        go_wp2_with fail
        rcases bindR_some h2 with ⟨k, h8, rfl⟩ | ⟨l, n8, h8, h9⟩
        · refine (elseIf_any hM _ b bp cap T _ _ hR4 h8).mono ?_
          rintro e w5 ⟨k5, a, l, c, n', rfl, hR5⟩
          have hs5 := k5.size
          have hsb5 := (k5.block w2.heap.size (by omega) (by omega)).trans hsb4
          have hxb5 := (k5.block w.heap.size (by omega) (by omega)).trans hxb4
          have hc5 := cells7 hsb5
          have hz5 := thaw4 hsb5
          have hd5 := cells7 hxb5
          have hy5 := thaw4 hxb5
          have kZ : Kept w2.heap.size w5 (w5.setCell ⟨w2.heap.size, 5, none⟩ (.slice a l c)) := (Kept.refl _ _).setCell _ _
          go_wp2_with fail
          exact fin_stmt Tryz.results91 rfl rfl rfl (store7 ((kZ.block _ (by omega) (by omega)).trans hxb5) _ _ _ _ _ _ _) (postS_bad h ((kw4.trans k5).own kZ (by omega)) (kept7 _ _ _ _ _ _ _ _ _) (by omega) (hR5.own kZ (by omega) (by omega) (by omega)))
        · cases h9
          refine (elseIf_any hM _ b bp cap T _ _ hR4 h8).mono ?_
          rintro e w5 ⟨k5, a, c, rfl, hrl, hR5⟩
          have hs5 := k5.size
          have hsb5 := (k5.block w2.heap.size (by omega) (by omega)).trans hsb4
          have hxb5 := (k5.block w.heap.size (by omega) (by omega)).trans hxb4
          have hc5 := cells7 hsb5
          have hz5 := thaw4 hsb5
          have hd5 := cells7 hxb5
          have hy5 := thaw4 hxb5
          have kZ : Kept w2.heap.size w5 (w5.setCell ⟨w2.heap.size, 5, none⟩ (.slice a l.length c)) := (Kept.refl _ _).setCell _ _
          have hA5 : AnS (fun g => w.heap.size < g ∧ g ≠ w2.heap.size) w5 _ x := hA4.own k5 (fun g hg => ⟨by omega, hg⟩)
          have hA6 := (hA5.own (S' := fun g => w.heap.size ≤ g ∧ g ≠ w.heap.size) kZ (fun g hg => by omega)).setElse (RowS.own hrl kZ (fun g hg => by omega))
          have HA : Hid (_) := hA6
          clear hA5 hA6 hrl hA4
          go_wp2_with fail
          exact fin_stmt Tryz.results91 rfl rfl rfl (store7 ((kZ.block _ (by omega) (by omega)).trans hxb5) _ _ _ _ _ _ _) (postS_ok h ((kw4.trans k5).own kZ (by omega)) (kept7 _ _ _ _ _ _ _ _ _) (by omega) (hR5.own kZ (by omega) (by omega) (by omega)) HA.out)
      · rw [if_neg hT2] at h2
        have hT2' : isT (cur ps (n1 + 1)) 2 [105, 102] = false := by simpa using hT2
        clear hT2
        go_wp2_with fail
        refine (skip_no _ _ _ _ _ _ _ _ _ hR3 hT2').mono ?_
        rintro e w4 ⟨rfl, hR4, k4⟩
        have hs4 := k4.size
        have hsb4 := (k4.block w2.heap.size (by omega) (by omega)).trans hsb3
        have hxb4 := (k4.block w.heap.size (by omega) (by omega)).trans hxb3
        have kw4 := kw3.trans k4
        have hA4 : AnS (fun g => w.heap.size < g ∧ g ≠ w2.heap.size) w4 _ x := HA2.out.move fun g hg hlt => ⟨by omega, (k4.block g (by omega) (by omega)).trans ((k3.block g (by simp; omega) (by omega)).trans (Below.heap_alloc _ _ _ hlt))⟩
        go_wp2_with fail
        rcases bindR_some h2 with ⟨k, h8, rfl⟩ | ⟨l, n8, h8, h9⟩
        · refine (hB _ b bp cap T _ _ hR4 h8).mono ?_
          rintro e w5 ⟨k5, a, l, c, n', rfl, hR5⟩
          have hs5 := k5.size
          have hsb5 := (k5.block w2.heap.size (by omega) (by omega)).trans hsb4
          have hxb5 := (k5.block w.heap.size (by omega) (by omega)).trans hxb4
          have hc5 := cells7 hsb5
          have hz5 := thaw4 hsb5
          have hd5 := cells7 hxb5
          have hy5 := thaw4 hxb5
          have kZ : Kept w2.heap.size w5 (w5.setCell ⟨w2.heap.size, 5, none⟩ (.slice a l c)) := (Kept.refl _ _).setCell _ _
          go_wp2_with fail
          exact fin_stmt Tryz.results91 rfl rfl rfl (store7 ((kZ.block _ (by omega) (by omega)).trans hxb5) _ _ _ _ _ _ _) (postS_bad h ((kw4.trans k5).own kZ (by omega)) (kept7 _ _ _ _ _ _ _ _ _) (by omega) (hR5.own kZ (by omega) (by omega) (by omega)))
        · cases h9
          refine (hB _ b bp cap T _ _ hR4 h8).mono ?_
          rintro e w5 ⟨k5, a, c, rfl, hrl, hR5⟩
          have hs5 := k5.size
          have hsb5 := (k5.block w2.heap.size (by omega) (by omega)).trans hsb4
          have hxb5 := (k5.block w.heap.size (by omega) (by omega)).trans hxb4
          have hc5 := cells7 hsb5
          have hz5 := thaw4 hsb5
          have hd5 := cells7 hxb5
          have hy5 := thaw4 hxb5
          have kZ : Kept w2.heap.size w5 (w5.setCell ⟨w2.heap.size, 5, none⟩ (.slice a l.length c)) := (Kept.refl _ _).setCell _ _
          have hA5 : AnS (fun g => w.heap.size < g ∧ g ≠ w2.heap.size) w5 _ x := hA4.own k5 (fun g hg => ⟨by omega, hg⟩)
          have hA6 := (hA5.own (S' := fun g => w.heap.size ≤ g ∧ g ≠ w.heap.size) kZ (fun g hg => by omega)).setElse (RowS.own hrl kZ (fun g hg => by omega))
          have HA : Hid (_) := hA6
          clear hA5 hA6 hrl hA4
          go_wp2_with fail
          exact fin_stmt Tryz.results91 rfl rfl rfl (store7 ((kZ.block _ (by omega) (by omega)).trans hxb5) _ _ _ _ _ _ _) (postS_ok h ((kw4.trans k5).own kZ (by omega)) (kept7 _ _ _ _ _ _ _ _ _) (by omega) (hR5.own kZ (by omega) (by omega) (by omega)) HA.out)
    · rw [if_neg hT] at h2
      have hT' : isT (cur ps n1) 2 [101, 108, 115, 101] = false := by simpa using hT
      clear hT
      cases h2
      have HA2 : Hid (AnS (fun g => w.heap.size + 1 ≤ g) w2 (.agg #[.int .i64 v0, .string v1, .string v2, .slice a3 l3 c3, .slice a4 l4 c4, .slice a5 l5 c5, .slice a6 l6 c6]) x) := hA.move fun g hg _ => ⟨by simp at hg; omega, rfl⟩
      clear hA
      go_wp2_with fail
      refine (skip_no _ _ _ _ _ _ _ _ _ hR2 hT').mono ?_
      rintro e w3 ⟨rfl, hR3, k3⟩
      have hs3 := k3.size
      simp at hs3
      have hsb3 := cells7 ((k3.block w2.heap.size (by simp) (by omega)).trans (heap_alloc_new w2 _))
      have hxb3 := (k3.block w.heap.size (by simp; omega) (by omega)).trans (blk_alloc hblk2 _)
      have kw3 : Kept b w w3 := (kw2.alloc _).trans k3
      have hc3 := cells7 hxb3
      have hz3 := thaw4 hxb3
      have hA3 : AnS (fun g => w.heap.size ≤ g ∧ g ≠ w.heap.size) w3 _ x := HA2.out.move fun g hg hlt => ⟨by omega, (k3.block g (by simp; omega) (by omega)).trans (Below.heap_alloc _ _ _ hlt)⟩
      have HA : Hid _ := hA3
      clear hA3
      go_wp2_with fail
      exact fin_stmt Tryz.results91 rfl rfl rfl (store7 hxb3 _ _ _ _ _ _ _) (postS_ok h kw3 (kept7 _ _ _ _ _ _ _ _ _) (by omega) hR3 HA.out)

theorem if_said {ps : List Tok} {E : Nat → Nat → R Ex} {B : Nat → Nat → R (List St)} (hE : SaidE ps E) (hB : SaidB ps B) : ∀ f, SaidIf ps (ifM ps E B f)
  | 0 => fun w b bp cap T q r h hr => by simp [ifM] at hr
  | f + 1 => fun w b bp cap T q r h hr => by
    refine if_any hE hB (if_said hE hB f) w b bp cap T q r h ?_
    unfold ifM at hr
    unfold ifOneM
    rcases bindR_some hr with ⟨k, h1, rfl⟩ | ⟨x, n1, h1, h2⟩
    · rw [h1]; rfl
    · rw [h1]
      show (if _ then _ else _) = _
      by_cases hT : isT (cur ps n1) 2 [101, 108, 115, 101] = true
      · rw [if_pos hT] at h2 ⊢
        by_cases hT2 : isT (cur ps (n1 + 1)) 2 [105, 102] = true
        · rw [if_pos hT2] at h2 ⊢
          unfold elseIfM
          by_cases hd : 30 ≤ q.depth
          · rw [if_pos hd] at h2 ⊢
            cases h2; rfl
          · rw [if_neg hd] at h2 ⊢
            rcases bindR_some h2 with ⟨k, h3, rfl⟩ | ⟨y, n2, h3, h4⟩
            · rw [h3]; rfl
            · rw [h3]; exact h4
        · rw [if_neg hT2] at h2 ⊢
          exact h2
      · rw [if_neg hT] at h2 ⊢
        exact h2
end

section
open Go.RowKit
set_option linter.unusedSimpArgs false
set_option linter.unusedVariables false

def SaidF (F : Nat) (ps : List Tok) (M : Nat → Nat → R St) : Prop :=
  ∀ (w : World) (b bp cap T : Nat) (q : RS) (r : Sum (Int × Int) (St × Nat)), Rdr w b bp cap T ps q → M q.depth q.next = some r →
    Calls Tryz.prog F #[.pointer (some ⟨b, 0, none⟩)] w (PostS b bp cap T ps q w r)

theorem PostS.sh {b bp cap T : Nat} {ps : List Tok} {q : RS} {w w' : World} {r : Sum (Int × Int) (St × Nat)} {e : Ending} (h : PostS b bp cap T ps q w r e w') :
    Kept b w w' ∧ ∃ k s t a1 l1 c1 a2 l2 c2 a3 l3 c3 a4 l4 c4 ok, e = .returned (.tuple #[.agg #[.int .i64 k, .string s, .string t, .slice a1 l1 c1, .slice a2 l2 c2, .slice a3 l3 c3, .slice a4 l4 c4], .bool ok]) := by
  obtain ⟨hk, h⟩ := h
  refine ⟨hk, ?_⟩
  rcases r with k | x
  · obtain ⟨v, n', ⟨k, s, t, a1, l1, c1, a2, l2, c2, a3, l3, c3, a4, l4, c4, rfl⟩, rfl, _⟩ := h
    exact ⟨k, s, t, a1, l1, c1, a2, l2, c2, a3, l3, c3, a4, l4, c4, _, rfl⟩
  · obtain ⟨v, rfl, hA, _⟩ := h
    obtain ⟨k, s, t, a1, l1, c1, a2, l2, c2, a3, l3, c3, a4, l4, c4, rfl⟩ := hA.sh
    exact ⟨k, s, t, a1, l1, c1, a2, l2, c2, a3, l3, c3, a4, l4, c4, _, rfl⟩

/-- what a call left is what the caller leaves, if the caller writes to its own block x alone -/
theorem PostS.fwd {b bp cap T : Nat} {ps : List Tok} {q : RS} {w w1 w2 W : World} {r : Sum (Int × Int) (St × Nat)} {e : Ending} {x n : Nat} (h : Rdr w b bp cap T ps q) (kw : Kept b w w1) (hx : w.heap.size ≤ x) (hx1 : x < w1.heap.size)
    (hP : PostS b bp cap T ps { q with next := n } w1 r e w2) (kx : Kept x w2 W) : PostS b bp cap T ps q w r e W := by
  have h1 := h.bsize; have h2 := h.lt; have h3 := h.far
  obtain ⟨hk, hP⟩ := hP
  refine ⟨(kw.trans hk).own kx hx, ?_⟩
  rcases r with k | y
  · obtain ⟨v, n', hv, he, hR⟩ := hP
    exact ⟨v, n', hv, he, hR.own kx (by omega) (by omega) (by omega)⟩
  · obtain ⟨v, he, hA, hR⟩ := hP
    exact ⟨v, he, hA.own kx fun g hg => ⟨by omega, by have := kw.size; omega⟩, hR.own kx (by omega) (by omega) (by omega)⟩
end

section
open Go.RowKit
set_option linter.unusedSimpArgs false
set_option linter.unusedVariables false

def keywordStN (ps : List Tok) (E : Nat → Nat → R Ex) (I LP SW : Nat → Nat → R St) (f d : Nat) (p : Tok) (n : Nat) : R St :=
  if p.s == [105, 102] then I d n
  else if p.s == [102, 111, 114] then LP d n
  else if p.s == [115, 119, 105, 116, 99, 104] then SW d n
  else if p.s == [114, 101, 116, 117, 114, 110] then returnM ps E d n
  else if p.s == [112, 114, 105, 110, 116] then printM ps E f d n
  else if p.s == [98, 114, 101, 97, 107] then okR (st0 10 [] []) n
  else if p.s == [99, 111, 110, 116, 105, 110, 117, 101] then okR (st0 11 [] []) n
  else if p.s == [100, 101, 108, 101, 116, 101] then deleteM ps E d n
  else badR (p.at_, 4)

set_option maxHeartbeats 20000000 in
theorem keywordSt_any {ps : List Tok} {E : Nat → Nat → R Ex} {I LP SW : Nat → Nat → R St} (hE : SaidE ps E) (hI : SaidIf ps I) (hLP : SaidF 92 ps LP) (hSW : SaidF 93 ps SW)
    (w : World) (b bp cap T f : Nat) (hf : f ≤ 1000000) (q : RS) (p : Tok) (r : Sum (Int × Int) (St × Nat)) (h : Rdr w b bp cap T ps q) (hr : keywordStN ps E I LP SW f q.depth p q.next = some r) :
    Calls Tryz.prog 77 #[.pointer (some ⟨b, 0, none⟩), p.val] w (PostS b bp cap T ps q w r) := by
  have hbs := h.bsize
  have hps := h.lt
  have hfar := h.far
  have h0 := h.below (((Below.refl w.heap.size w).alloc (Nat.le_refl _) (.cells #[.int .i64 p.kind, .int .i64 p.at_, .int .i64 p.n, .string ⟨p.s.toArray⟩] 69)).alloc (by simp) (.cells #[.int .i64 0, .string ⟨#[]⟩, .string ⟨#[]⟩, .slice none 0 0, .slice none 0 0, .slice none 0 0, .slice none 0 0] 63))
  have k0 : Kept b w ((w.alloc (.cells #[.int .i64 p.kind, .int .i64 p.at_, .int .i64 p.n, .string ⟨p.s.toArray⟩] 69)).alloc (.cells #[.int .i64 0, .string ⟨#[]⟩, .string ⟨#[]⟩, .slice none 0 0, .slice none 0 0, .slice none 0 0, .slice none 0 0] 63)) := ((Kept.refl _ _).alloc _).alloc _
  have hx0 := (heap_alloc2 w (.cells #[.int .i64 p.kind, .int .i64 p.at_, .int .i64 p.n, .string ⟨p.s.toArray⟩] 69) (.cells #[.int .i64 0, .string ⟨#[]⟩, .string ⟨#[]⟩, .slice none 0 0, .slice none 0 0, .slice none 0 0, .slice none 0 0] 63)).2
  unfold keywordStN at hr
  unfold Tok.val
  by_cases h1 : (p.s == [105, 102]) = true
  · rw [if_pos h1] at hr
    go_enter Tryz.func77, Tryz.ntmps77
    go_wp2_with fail
    refine (hI _ _ _ _ _ _ _ h0 hr).mono ?_
    intro e w2 hP
    obtain ⟨k2, v0, v1, v2, a3, l3, c3, a4, l4, c4, a5, l5, c5, a6, l6, c6, ok, rfl⟩ := hP.sh
    have hblk := (k2.block (w.heap.size + 1) (by simp) (by omega)).trans hx0
    have hc := cells7 hblk
    have hz := thaw4 hblk
    have HP : Hid (_) := hP
    clear hP
    go_wp2_with fail
    exact fin_stmt Tryz.results77 rfl rfl rfl (store7 hblk _ _ _ _ _ _ _) (PostS.fwd h k0 (by omega) (by simp) HP.out (kept7 _ _ _ _ _ _ _ _ _))
  · rw [if_neg h1] at hr
    have h1' : (p.s == [105, 102]) = false := by simpa using h1
    clear h1
    by_cases h2 : (p.s == [102, 111, 114]) = true
    · rw [if_pos h2] at hr
      go_enter Tryz.func77, Tryz.ntmps77
      go_wp2_with fail
      refine (hLP _ _ _ _ _ _ _ h0 hr).mono ?_
      intro e w2 hP
      obtain ⟨k2, v0, v1, v2, a3, l3, c3, a4, l4, c4, a5, l5, c5, a6, l6, c6, ok, rfl⟩ := hP.sh
      have hblk := (k2.block (w.heap.size + 1) (by simp) (by omega)).trans hx0
      have hc := cells7 hblk
      have hz := thaw4 hblk
      have HP : Hid (_) := hP
      clear hP
      go_wp2_with fail
      exact fin_stmt Tryz.results77 rfl rfl rfl (store7 hblk _ _ _ _ _ _ _) (PostS.fwd h k0 (by omega) (by simp) HP.out (kept7 _ _ _ _ _ _ _ _ _))
    · rw [if_neg h2] at hr
      have h2' : (p.s == [102, 111, 114]) = false := by simpa using h2
      clear h2
      by_cases h3 : (p.s == [115, 119, 105, 116, 99, 104]) = true
      · rw [if_pos h3] at hr
        go_enter Tryz.func77, Tryz.ntmps77
        go_wp2_with fail
        refine (hSW _ _ _ _ _ _ _ h0 hr).mono ?_
        intro e w2 hP
        obtain ⟨k2, v0, v1, v2, a3, l3, c3, a4, l4, c4, a5, l5, c5, a6, l6, c6, ok, rfl⟩ := hP.sh
        have hblk := (k2.block (w.heap.size + 1) (by simp) (by omega)).trans hx0
        have hc := cells7 hblk
        have hz := thaw4 hblk
        have HP : Hid (_) := hP
        clear hP
        go_wp2_with fail
        exact fin_stmt Tryz.results77 rfl rfl rfl (store7 hblk _ _ _ _ _ _ _) (PostS.fwd h k0 (by omega) (by simp) HP.out (kept7 _ _ _ _ _ _ _ _ _))
      · rw [if_neg h3] at hr
        have h3' : (p.s == [115, 119, 105, 116, 99, 104]) = false := by simpa using h3
        clear h3
        by_cases h4 : (p.s == [114, 101, 116, 117, 114, 110]) = true
        · rw [if_pos h4] at hr
          go_enter Tryz.func77, Tryz.ntmps77
          go_wp2_with fail
          refine (return_any hE _ _ _ _ _ _ _ h0 hr).mono ?_
          intro e w2 hP
          obtain ⟨k2, v0, v1, v2, a3, l3, c3, a4, l4, c4, a5, l5, c5, a6, l6, c6, ok, rfl⟩ := hP.sh
          have hblk := (k2.block (w.heap.size + 1) (by simp) (by omega)).trans hx0
          have hc := cells7 hblk
          have hz := thaw4 hblk
          have HP : Hid (_) := hP
          clear hP
          go_wp2_with fail
          exact fin_stmt Tryz.results77 rfl rfl rfl (store7 hblk _ _ _ _ _ _ _) (PostS.fwd h k0 (by omega) (by simp) HP.out (kept7 _ _ _ _ _ _ _ _ _))
        · rw [if_neg h4] at hr
          have h4' : (p.s == [114, 101, 116, 117, 114, 110]) = false := by simpa using h4
          clear h4
          by_cases h5 : (p.s == [112, 114, 105, 110, 116]) = true
          · rw [if_pos h5] at hr
            go_enter Tryz.func77, Tryz.ntmps77
            go_wp2_with fail
            refine (print_any hE _ _ _ _ _ f hf _ _ h0 hr).mono ?_
            intro e w2 hP
            obtain ⟨k2, v0, v1, v2, a3, l3, c3, a4, l4, c4, a5, l5, c5, a6, l6, c6, ok, rfl⟩ := hP.sh
            have hblk := (k2.block (w.heap.size + 1) (by simp) (by omega)).trans hx0
            have hc := cells7 hblk
            have hz := thaw4 hblk
            have HP : Hid (_) := hP
            clear hP
            go_wp2_with fail
            exact fin_stmt Tryz.results77 rfl rfl rfl (store7 hblk _ _ _ _ _ _ _) (PostS.fwd h k0 (by omega) (by simp) HP.out (kept7 _ _ _ _ _ _ _ _ _))
          · rw [if_neg h5] at hr
            have h5' : (p.s == [112, 114, 105, 110, 116]) = false := by simpa using h5
            clear h5
            by_cases h6 : (p.s == [98, 114, 101, 97, 107]) = true
            · rw [if_pos h6] at hr
              cases hr
              go_enter Tryz.func77, Tryz.ntmps77
              have hc := cells7 hx0
              have hz := thaw4 hx0
              go_wp2_with fail
              exact fin_stmt Tryz.results77 rfl rfl rfl (heap_alloc2 w _ _).2 (postS_ok (x := w.heap.size + 1) h (Kept.refl _ _) (((Kept.refl _ _).alloc _).alloc _) (by omega) h (AnS.mk 10 [] [] [] [] [] [] (Row.nil _ _ _) (Row.nil _ _ _) (Row.nil _ _ _) (Row.nil _ _ _)))
            · rw [if_neg h6] at hr
              have h6' : (p.s == [98, 114, 101, 97, 107]) = false := by simpa using h6
              clear h6
              by_cases h7 : (p.s == [99, 111, 110, 116, 105, 110, 117, 101]) = true
              · rw [if_pos h7] at hr
                cases hr
                go_enter Tryz.func77, Tryz.ntmps77
                have hc := cells7 hx0
                have hz := thaw4 hx0
                go_wp2_with fail
                exact fin_stmt Tryz.results77 rfl rfl rfl (heap_alloc2 w _ _).2 (postS_ok (x := w.heap.size + 1) h (Kept.refl _ _) (((Kept.refl _ _).alloc _).alloc _) (by omega) h (AnS.mk 11 [] [] [] [] [] [] (Row.nil _ _ _) (Row.nil _ _ _) (Row.nil _ _ _) (Row.nil _ _ _)))
              · rw [if_neg h7] at hr
                have h7' : (p.s == [99, 111, 110, 116, 105, 110, 117, 101]) = false := by simpa using h7
                clear h7
                by_cases h8 : (p.s == [100, 101, 108, 101, 116, 101]) = true
                · rw [if_pos h8] at hr
                  go_enter Tryz.func77, Tryz.ntmps77
                  go_wp2_with fail
                  refine (delete_any hE _ _ _ _ _ _ _ h0 hr).mono ?_
                  intro e w2 hP
                  obtain ⟨k2, v0, v1, v2, a3, l3, c3, a4, l4, c4, a5, l5, c5, a6, l6, c6, ok, rfl⟩ := hP.sh
                  have hblk := (k2.block (w.heap.size + 1) (by simp) (by omega)).trans hx0
                  have hc := cells7 hblk
                  have hz := thaw4 hblk
                  have HP : Hid (_) := hP
                  clear hP
                  go_wp2_with fail
                  exact fin_stmt Tryz.results77 rfl rfl rfl (store7 hblk _ _ _ _ _ _ _) (PostS.fwd h k0 (by omega) (by simp) HP.out (kept7 _ _ _ _ _ _ _ _ _))
                · rw [if_neg h8] at hr
                  have h8' : (p.s == [100, 101, 108, 101, 116, 101]) = false := by simpa using h8
                  clear h8
                  cases hr
                  go_enter Tryz.func77, Tryz.ntmps77
                  go_wp2_with fail
                  refine (fail_any _ _ _ _ _ _ _ _ _ h0).mono ?_
                  rintro e w2 ⟨rfl, hR, k2⟩
                  have hblk := (k2.block (w.heap.size + 1) (by simp) (by omega)).trans hx0
                  have hc := cells7 hblk
                  have hz := thaw4 hblk
                  go_wp2_with fail
                  exact fin_stmt Tryz.results77 rfl rfl rfl (store7 hblk _ _ _ _ _ _ _) (postS_bad h (k0.trans k2) (kept7 _ _ _ _ _ _ _ _ _) (by omega) hR)
end

end Go.Proofs.YtbpnfoihonehgabGreatDoor
