/-
  Statements that hold expressions alone: put, return, delete.
-/
import Derived.Test.YtgifghcaeoinoaaDoorRdW
namespace Go.Proofs.YtgifghcaeoinoaaDoor
open Go.RowKit
set_option linter.unusedSimpArgs false
set_option linter.unusedVariables false

theorem size_set (w : World) (a : Addr) (v : Value) : (w.setCell a v).heap.size = w.heap.size := by simp [World.setCell]

theorem two_row {w2 : World} {x : Nat} {v0 v1 v2 v3 y0 y1 y2 y3 : Value} (u0 u1 u2 u4 u5 u6 : Value) (ob : Obj) {S S' : Nat → Prop} {t r : Ex} (hA : AnE S w2 (.agg #[v0, v1, v2, v3]) t) (hB : AnE S w2 (.agg #[y0, y1, y2, y3]) r) (hS : ∀ g, S g → g ≠ x ∧ S' g) (hs : S' (w2.heap.size + 1)) :
    Kept x w2 ((((((((((w2.setCell ⟨x, 0, none⟩ u0).setCell ⟨x, 1, none⟩ u1).setCell ⟨x, 2, none⟩ u2).setCell ⟨x, 3, none⟩ (.slice (some ⟨w2.heap.size + 1, 0, none⟩) 2 2)).setCell ⟨x, 4, none⟩ u4).setCell ⟨x, 5, none⟩ u5).setCell ⟨x, 6, none⟩ u6)).alloc ob).alloc (.cells #[v0, v1, v2, v3, y0, y1, y2, y3] 35)) ∧ Row S' ((((((((((w2.setCell ⟨x, 0, none⟩ u0).setCell ⟨x, 1, none⟩ u1).setCell ⟨x, 2, none⟩ u2).setCell ⟨x, 3, none⟩ (.slice (some ⟨w2.heap.size + 1, 0, none⟩) 2 2)).setCell ⟨x, 4, none⟩ u4).setCell ⟨x, 5, none⟩ u5).setCell ⟨x, 6, none⟩ u6)).alloc ob).alloc (.cells #[v0, v1, v2, v3, y0, y1, y2, y3] 35)) (AnE S' ((((((((((w2.setCell ⟨x, 0, none⟩ u0).setCell ⟨x, 1, none⟩ u1).setCell ⟨x, 2, none⟩ u2).setCell ⟨x, 3, none⟩ (.slice (some ⟨w2.heap.size + 1, 0, none⟩) 2 2)).setCell ⟨x, 4, none⟩ u4).setCell ⟨x, 5, none⟩ u5).setCell ⟨x, 6, none⟩ u6)).alloc ob).alloc (.cells #[v0, v1, v2, v3, y0, y1, y2, y3] 35))) (.slice (some ⟨w2.heap.size + 1, 0, none⟩) 2 2) [t, r] := by
  have kx := ((kept7 x w2 u0 u1 u2 (.slice (some ⟨w2.heap.size + 1, 0, none⟩) 2 2) u4 u5 u6).alloc ob).alloc (.cells #[v0, v1, v2, v3, y0, y1, y2, y3] 35)
  have hrow := (heap_alloc2 ((((((((w2.setCell ⟨x, 0, none⟩ u0).setCell ⟨x, 1, none⟩ u1).setCell ⟨x, 2, none⟩ u2).setCell ⟨x, 3, none⟩ (.slice (some ⟨w2.heap.size + 1, 0, none⟩) 2 2)).setCell ⟨x, 4, none⟩ u4).setCell ⟨x, 5, none⟩ u5).setCell ⟨x, 6, none⟩ u6)) ob (.cells #[v0, v1, v2, v3, y0, y1, y2, y3] 35)).2
  rw [size_store7] at hrow
  exact ⟨kx, row2 hrow hs (hA.own kx hS) (hB.own kx hS)⟩

set_option maxHeartbeats 2000000 in
theorem put_any {ps : List Tok} {E : Nat → Nat → R Ex} (hE : SaidE ps E) (w : World) (b bp cap T : Nat) (q : RS) (s : List UInt8) (r : Sum (Int × Int) (St × Nat)) (h : Rdr w b bp cap T ps q)
    (hr : putM ps E s q.depth q.next = some r) :
    Calls Tryd.prog 96 #[.pointer (some ⟨b, 0, none⟩), .string ⟨s.toArray⟩] w (PostS b bp cap T ps q w r) := by
  have hbs := h.bsize
  have h0 := h.below ((Below.refl w.heap.size w).alloc (Nat.le_refl _) (.cells #[.int .i64 0, .string ⟨#[]⟩, .string ⟨#[]⟩, .slice none 0 0, .slice none 0 0, .slice none 0 0, .slice none 0 0] 39))
  have hx0 := heap_alloc_new w (.cells #[.int .i64 0, .string ⟨#[]⟩, .string ⟨#[]⟩, .slice none 0 0, .slice none 0 0, .slice none 0 0, .slice none 0 0] 39)
  unfold putM at hr
  go_enter Tryd.func96, Tryd.ntmps96
  go_wp2_with fail
  rcases bindR_some hr with ⟨k, h1, rfl⟩ | ⟨x, n1, h1, h2⟩
  · refine (hE _ _ _ _ _ _ _ h0 h1).mono ?_
    rintro e w2 ⟨k2, v, n', ⟨v0, v1, v2, a3, l3, c3, rfl⟩, rfl, hR⟩
    have hblk := (k2.block w.heap.size (by simp) (by omega)).trans hx0
    have hs2 := k2.size
    simp at hs2
    have hc := cells7 hblk
    have hz := thaw4 hblk
    have hlt2 : w.heap.size < w2.heap.size := by omega
    go_wp2_with fail
    exact fin_stmt Tryd.results96 rfl rfl rfl (blk_alloc (store7 hblk _ _ _ _ _ _ _) _) (postS_bad h (((Kept.refl _ _).alloc _).trans k2) ((kept7 _ _ _ _ _ _ _ _ _).alloc _) (Nat.le_refl _) hR)
  · refine (hE _ _ _ _ _ _ _ h0 h1).mono ?_
    rintro e w2 ⟨k2, v, rfl, hA, hR⟩
    obtain ⟨v0, v1, v2, a3, l3, c3, rfl⟩ := hA.sh
    have hblk2 := (k2.block w.heap.size (by simp) (by omega)).trans hx0
    have hs2 := k2.size
    simp at hs2
    have kw2 : Kept b w w2 := ((Kept.refl b w).alloc _).trans k2
    go_wp2_with fail
    rcases bindR_some h2 with ⟨k, h3, rfl⟩ | ⟨u, n3, h3, h4⟩
    · rcases needM_some h3 with ⟨hT, h5⟩ | ⟨hT, h5⟩
      · cases h5
      · cases h5
        refine (mark_no _ _ _ _ _ _ _ _ (hR.below ((Below.refl _ _).alloc (Nat.le_refl _) _)) hT).mono ?_
        rintro e w3 ⟨rfl, hR3, k3⟩
        have hblk := (k3.block w.heap.size (by simp; omega) (by omega)).trans (blk_alloc hblk2 _)
        have hc := cells7 hblk
        have hz := thaw4 hblk
        go_wp2_with fail
        exact fin_stmt Tryd.results96 rfl rfl rfl (store7 hblk _ _ _ _ _ _ _) (postS_bad h ((kw2.alloc _).trans k3) (kept7 _ _ _ _ _ _ _ _ _) (Nat.le_refl _) hR3)
    · rcases needM_some h3 with ⟨hT, h5⟩ | ⟨hT, h5⟩
      · cases h5
        refine (mark_yes _ _ _ _ _ _ _ _ (hR.below ((Below.refl _ _).alloc (Nat.le_refl _) _)) hT).mono ?_
        rintro e w3 ⟨rfl, hR3, k3⟩
        have hs3 := k3.size
        simp at hs3
        have hblk3 := (k3.block w.heap.size (by simp; omega) (by omega)).trans (blk_alloc hblk2 _)
        have hpb3 := (k3.block w2.heap.size (by simp) (by omega)).trans (heap_alloc_new w2 _)
        have kw3 := (kw2.alloc _).trans k3
        have hA3 : AnE (fun g => w.heap.size ≤ g ∧ g ≠ w.heap.size) w3 _ x := hA.move fun g hg hlt => ⟨by simp at hg; omega, (k3.block g (by simp; omega) (by simp at hg; omega)).trans (Below.heap_alloc _ _ _ hlt)⟩
        clear hA
        go_wp2_with fail
        rcases bindR_some h4 with ⟨k, h6, rfl⟩ | ⟨u, n4, h6, h7⟩
        · rcases needM_some h6 with ⟨hT2, h8⟩ | ⟨hT2, h8⟩
          · cases h8
          · cases h8
            refine (mark_no _ _ _ _ _ _ _ _ hR3 hT2).mono ?_
            rintro e w4 ⟨rfl, hR4, k4⟩
            have hblk := (k4.block w.heap.size (by omega) (by omega)).trans hblk3
            have hc := cells7 hblk
            have hz := thaw4 hblk
            go_wp2_with fail
            exact fin_stmt Tryd.results96 rfl rfl rfl (store7 hblk _ _ _ _ _ _ _) (postS_bad h (kw3.trans k4) (kept7 _ _ _ _ _ _ _ _ _) (Nat.le_refl _) hR4)
        · rcases needM_some h6 with ⟨hT2, h8⟩ | ⟨hT2, h8⟩
          · cases h8
            refine (mark_yes _ _ _ _ _ _ _ _ hR3 hT2).mono ?_
            rintro e w4 ⟨rfl, hR4, k4⟩
            have hs4 := k4.size
            have hblk4 := (k4.block w.heap.size (by omega) (by omega)).trans hblk3
            have hpb4 := (k4.block w2.heap.size (by omega) (by omega)).trans hpb3
            have kw4 := kw3.trans k4
            have hA4 := hA3.kept k4 (fun g hg => by omega)
            clear hA3
            go_wp2_with fail
            rcases bindR_some h7 with ⟨k, h9, rfl⟩ | ⟨y, n5, h9, h10⟩
            · refine (hE _ _ _ _ _ _ _ hR4 h9).mono ?_
              rintro e w5 ⟨k5, v, n', ⟨y0, y1, y2, y3, ly, cy, rfl⟩, rfl, hR5⟩
              have hs5 := k5.size
              have hblk := (k5.block w.heap.size (by omega) (by omega)).trans hblk4
              have hpb5 := cells4 ((k5.block w2.heap.size (by omega) (by omega)).trans hpb4)
              have hc := cells7 hblk
              have hz := thaw4 hblk
              have hlt5 : w.heap.size < w5.heap.size := by omega
              have hlt6 : w2.heap.size < w5.heap.size := by omega
              go_wp2_with fail
              exact fin_stmt Tryd.results96 rfl rfl rfl (blk_alloc (blk_alloc (store7 hblk _ _ _ _ _ _ _) _) _) (postS_bad h (kw4.trans k5) (((kept7 _ _ _ _ _ _ _ _ _).alloc _).alloc _) (Nat.le_refl _) hR5)
            · cases h10
              refine (hE _ _ _ _ _ _ _ hR4 h9).mono ?_
              rintro e w5 ⟨k5, v, rfl, hB, hR5⟩
              obtain ⟨y0, y1, y2, y3, ly, cy, rfl⟩ := hB.sh
              have hs5 := k5.size
              have hblk := (k5.block w.heap.size (by omega) (by omega)).trans hblk4
              have hpb5 := cells4 ((k5.block w2.heap.size (by omega) (by omega)).trans hpb4)
              have hc := cells7 hblk
              have hz := thaw4 hblk
              have hlt5 : w.heap.size < w5.heap.size := by omega
              have hlt6 : w2.heap.size < w5.heap.size := by omega
              have hA5 := hA4.kept k5 (fun g hg => by omega)
              have hB5 : AnE (fun g => w.heap.size ≤ g ∧ g ≠ w.heap.size) w5 _ y := hB.move fun g hg _ => ⟨by omega, rfl⟩
              have ho := two_row (x := w.heap.size) (.int .i64 3) (.string ⟨s.toArray⟩) (.string ⟨#[]⟩) (.slice none 0 0) (.slice none 0 0) (.slice none 0 0) (.cells #[.int .i64 y0, .int .i64 y1, .string y2, .slice y3 ly cy] 35) (S' := fun g => w.heap.size ≤ g) hA5 hB5 (fun g hg => by omega) (by omega)
              have HO : Hid (_ ∧ _) := ho
              clear ho hA5 hB5 hA4 hB
              go_wp2_with fail
              exact fin_stmt Tryd.results96 rfl rfl rfl (blk_alloc (blk_alloc (store7 hblk _ _ _ _ _ _ _) _) _) (postS_okW h (kw4.trans k5) HO.out.1 (Nat.le_refl _) hR5 (AnS.mk 3 s [] [x, y] [] [] [] HO.out.2 (Row.nil _ _ _) (Row.nil _ _ _) (Row.nil _ _ _)))
          · cases h8
      · cases h5

set_option maxHeartbeats 2000000 in
theorem return_any {ps : List Tok} {E : Nat → Nat → R Ex} (hE : SaidE ps E) (w : World) (b bp cap T : Nat) (q : RS) (r : Sum (Int × Int) (St × Nat)) (h : Rdr w b bp cap T ps q)
    (hr : returnM ps E q.depth q.next = some r) :
    Calls Tryd.prog 101 #[.pointer (some ⟨b, 0, none⟩)] w (PostS b bp cap T ps q w r) := by
  have hbs := h.bsize
  have hps := h.lt
  have hfar := h.far
  have h0 := h.below (((Below.refl w.heap.size w).alloc (Nat.le_refl _) (.cells #[.int .i64 0, .string ⟨#[]⟩, .string ⟨#[]⟩, .slice none 0 0, .slice none 0 0, .slice none 0 0, .slice none 0 0] 39)).alloc (by simp) (.cells #[.int .i64 8, .string ⟨#[]⟩, .string ⟨#[]⟩, .slice none 0 0, .slice none 0 0, .slice none 0 0, .slice none 0 0] 39))
  have hx0 := heap_alloc2 w (.cells #[.int .i64 0, .string ⟨#[]⟩, .string ⟨#[]⟩, .slice none 0 0, .slice none 0 0, .slice none 0 0, .slice none 0 0] 39) (.cells #[.int .i64 8, .string ⟨#[]⟩, .string ⟨#[]⟩, .slice none 0 0, .slice none 0 0, .slice none 0 0, .slice none 0 0] 39)
  unfold returnM at hr
  by_cases hT : isT (cur ps q.next) 5 [125] = true
  · rw [if_pos hT] at hr
    cases hr
    go_enter Tryd.func101, Tryd.ntmps101
    go_wp2_with fail
    refine (peek_any _ _ _ _ _ _ _ h0).mono ?_
    rintro e w1 ⟨rfl, hb1⟩
    have h1 := h0.below hb1
    have hs1 := hb1.size
    simp at hs1
    go_wp2_with fail
    refine (is_any _ _ _ _).mono ?_
    rintro e w2 ⟨rfl, hb2⟩
    have h2 := h1.below hb2
    have hs2 := hb2.size
    have hx2 := (hb2.block w.heap.size (by omega)).trans ((hb1.block w.heap.size (by simp; omega)).trans hx0.1)
    have hy2 := (hb2.block (w.heap.size + 1) (by omega)).trans ((hb1.block (w.heap.size + 1) (by simp)).trans hx0.2)
    have hc := cells7 hx2
    have hz := thaw4 hx2
    have hc2 := cells7 hy2
    have kw : Kept b w w2 := (((((Kept.refl b w).alloc _).alloc _).trans (Kept.of_below hb1)).trans (Kept.of_below hb2))
    have hA' : AnS (fun g => w.heap.size ≤ g ∧ g ≠ w.heap.size) w2 _ _ := AnS.mk 8 [] [] [] [] [] [] (Row.nil _ _ _) (Row.nil _ _ _) (Row.nil _ _ _) (Row.nil _ _ _)
    go_wp2_with fail
    exact fin_stmt Tryd.results101 rfl rfl rfl (store7 hx2 _ _ _ _ _ _ _) (postS_ok h kw (kept7 _ _ _ _ _ _ _ _ _) (Nat.le_refl _) h2 hA')
  · rw [if_neg hT] at hr
    have hT' : isT (cur ps q.next) 5 [125] = false := by simpa using hT
    clear hT
    go_enter Tryd.func101, Tryd.ntmps101
    go_wp2_with fail
    refine (peek_any _ _ _ _ _ _ _ h0).mono ?_
    rintro e w1 ⟨rfl, hb1⟩
    have h1 := h0.below hb1
    have hs1 := hb1.size
    simp at hs1
    go_wp2_with fail
    refine (is_any _ _ _ _).mono ?_
    rintro e w2 ⟨rfl, hb2⟩
    have h2 := h1.below hb2
    have hs2 := hb2.size
    have hx2 := (hb2.block w.heap.size (by omega)).trans ((hb1.block w.heap.size (by simp; omega)).trans hx0.1)
    have hy2 := (hb2.block (w.heap.size + 1) (by omega)).trans ((hb1.block (w.heap.size + 1) (by simp)).trans hx0.2)
    have kw : Kept b w w2 := (((((Kept.refl b w).alloc _).alloc _).trans (Kept.of_below hb1)).trans (Kept.of_below hb2))
    go_wp2_with fail
    rcases bindR_some hr with ⟨k, h5, rfl⟩ | ⟨x, n5, h5, h6⟩
    · refine (hE _ _ _ _ _ _ _ h2 h5).mono ?_
      rintro e w3 ⟨k3, v, n', ⟨v0, v1, v2, a3, l3, c3, rfl⟩, rfl, hR⟩
      have hs3 := k3.size
      have hx3 := (k3.block w.heap.size (by omega) (by omega)).trans hx2
      have hy3 := (k3.block (w.heap.size + 1) (by omega) (by omega)).trans hy2
      have hc := cells7 hx3
      have hz := thaw4 hx3
      have hc2 := cells7 hy3
      have hz2 := thaw4 hy3
      have hlt3 : w.heap.size < w3.heap.size := by omega
      have hlt4 : w.heap.size + 1 < w3.heap.size := by omega
      go_wp2_with fail
      have kY : Kept (w.heap.size + 1) w3 (w3.setCell ⟨w.heap.size + 1, 3, none⟩ (.slice (some ⟨w3.heap.size + 1, 0, none⟩) 1 1)) := (Kept.refl _ _).setCell _ _
      exact fin_stmt Tryd.results101 rfl rfl rfl (blk_alloc (blk_alloc (store7 ((kY.block _ (by omega) (by omega)).trans hx3) _ _ _ _ _ _ _) _) _) (postS_bad h ((kw.trans k3).own kY (by omega)) (((kept7 _ _ _ _ _ _ _ _ _).alloc _).alloc _) (Nat.le_refl _) (hR.own kY (by omega) (by omega) (by omega)))
    · cases h6
      refine (hE _ _ _ _ _ _ _ h2 h5).mono ?_
      rintro e w3 ⟨k3, v, rfl, hA, hR⟩
      obtain ⟨v0, v1, v2, a3, l3, c3, rfl⟩ := hA.sh
      have hs3 := k3.size
      have hx3 := (k3.block w.heap.size (by omega) (by omega)).trans hx2
      have hy3 := (k3.block (w.heap.size + 1) (by omega) (by omega)).trans hy2
      have hc := cells7 hx3
      have hz := thaw4 hx3
      have hc2 := cells7 hy3
      have hz2 := thaw4 hy3
      have hlt3 : w.heap.size < w3.heap.size := by omega
      have hlt4 : w.heap.size + 1 < w3.heap.size := by omega
      have kY : Kept (w.heap.size + 1) w3 (w3.setCell ⟨w.heap.size + 1, 3, none⟩ (.slice (some ⟨w3.heap.size + 1, 0, none⟩) 1 1)) := (Kept.refl _ _).setCell _ _
      have hA' : AnE (fun g => w.heap.size + 2 ≤ g) _ _ x := hA.own kY (fun g hg => by omega)
      have ho := one_row (x := w.heap.size) (.int .i64 8) (.string ⟨#[]⟩) (.string ⟨#[]⟩) (.slice none 0 0) (.slice none 0 0) (.slice none 0 0) (.cells #[.int .i64 v0, .int .i64 v1, .string v2, .slice a3 l3 c3] 35) (S' := fun g => w.heap.size ≤ g) hA' (fun g hg => by omega) (by have := kY.size; omega)
      rw [size_set] at ho
      have HO : Hid (_ ∧ _) := ho
      clear ho hA hA'
      go_wp2_with fail
      exact fin_stmt Tryd.results101 rfl rfl rfl (blk_alloc (blk_alloc (store7 ((kY.block _ (by omega) (by omega)).trans hx3) _ _ _ _ _ _ _) _) _) (postS_okW h ((kw.trans k3).own kY (by omega)) HO.out.1 (Nat.le_refl _) (hR.own kY (by omega) (by omega) (by omega)) (AnS.mk 8 [] [] [x] [] [] [] HO.out.2 (Row.nil _ _ _) (Row.nil _ _ _) (Row.nil _ _ _)))

end Go.Proofs.YtgifghcaeoinoaaDoor
