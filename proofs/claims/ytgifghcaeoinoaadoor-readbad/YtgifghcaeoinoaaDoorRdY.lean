/-
  Statements that hold expressions alone: delete.
-/
import Derived.Test.YtgifghcaeoinoaaDoorRdX
namespace Go.Proofs.YtgifghcaeoinoaaDoor
open Go.RowKit
set_option linter.unusedSimpArgs false
set_option linter.unusedVariables false

theorem nameM_some {ps : List Tok} {n : Nat} {r : Sum (Int × Int) (List UInt8 × Nat)} (h : nameM ps n = some r) :
    (((cur ps n).kind != 1) = false ∧ r = .inr ((cur ps n).s, n + 1)) ∨ (((cur ps n).kind != 1) = true ∧ r = .inl (refuseM ps n)) := by
  unfold nameM at h
  split at h
  · rename_i hT; exact .inl ⟨by simpa using hT, by cases h; rfl⟩
  · rename_i hT; exact .inr ⟨by simpa using hT, by cases h; rfl⟩

theorem one_row0 {w2 : World} {x : Nat} {v0 v1 v2 v3 : Value} (u0 u1 u2 u4 u5 u6 : Value) {S S' : Nat → Prop} {t : Ex} (hA : AnE S w2 (.agg #[v0, v1, v2, v3]) t) (hS : ∀ g, S g → g ≠ x ∧ S' g) (hs : S' w2.heap.size) :
    Kept x w2 (((((((((w2.setCell ⟨x, 0, none⟩ u0).setCell ⟨x, 1, none⟩ u1).setCell ⟨x, 2, none⟩ u2).setCell ⟨x, 3, none⟩ (.slice (some ⟨w2.heap.size, 0, none⟩) 1 1)).setCell ⟨x, 4, none⟩ u4).setCell ⟨x, 5, none⟩ u5).setCell ⟨x, 6, none⟩ u6)).alloc (.cells #[v0, v1, v2, v3] 35)) ∧ Row S' (((((((((w2.setCell ⟨x, 0, none⟩ u0).setCell ⟨x, 1, none⟩ u1).setCell ⟨x, 2, none⟩ u2).setCell ⟨x, 3, none⟩ (.slice (some ⟨w2.heap.size, 0, none⟩) 1 1)).setCell ⟨x, 4, none⟩ u4).setCell ⟨x, 5, none⟩ u5).setCell ⟨x, 6, none⟩ u6)).alloc (.cells #[v0, v1, v2, v3] 35)) (AnE S' (((((((((w2.setCell ⟨x, 0, none⟩ u0).setCell ⟨x, 1, none⟩ u1).setCell ⟨x, 2, none⟩ u2).setCell ⟨x, 3, none⟩ (.slice (some ⟨w2.heap.size, 0, none⟩) 1 1)).setCell ⟨x, 4, none⟩ u4).setCell ⟨x, 5, none⟩ u5).setCell ⟨x, 6, none⟩ u6)).alloc (.cells #[v0, v1, v2, v3] 35))) (.slice (some ⟨w2.heap.size, 0, none⟩) 1 1) [t] := by
  have kx := (kept7 x w2 u0 u1 u2 (.slice (some ⟨w2.heap.size, 0, none⟩) 1 1) u4 u5 u6).alloc (.cells #[v0, v1, v2, v3] 35)
  have hrow := heap_alloc_new ((((((((w2.setCell ⟨x, 0, none⟩ u0).setCell ⟨x, 1, none⟩ u1).setCell ⟨x, 2, none⟩ u2).setCell ⟨x, 3, none⟩ (.slice (some ⟨w2.heap.size, 0, none⟩) 1 1)).setCell ⟨x, 4, none⟩ u4).setCell ⟨x, 5, none⟩ u5).setCell ⟨x, 6, none⟩ u6)) (.cells #[v0, v1, v2, v3] 35)
  rw [size_store7] at hrow
  exact ⟨kx, row1 hrow hs (hA.own kx hS)⟩

set_option maxHeartbeats 3000000 in
theorem delete_any {ps : List Tok} {E : Nat → Nat → R Ex} (hE : SaidE ps E) (w : World) (b bp cap T : Nat) (q : RS) (r : Sum (Int × Int) (St × Nat)) (h : Rdr w b bp cap T ps q)
    (hr : deleteM ps E q.depth q.next = some r) :
    Calls Tryd.prog 103 #[.pointer (some ⟨b, 0, none⟩)] w (PostS b bp cap T ps q w r) := by
  have hbs := h.bsize
  have hps := h.lt
  have hfar := h.far
  have h0 := h.below ((Below.refl w.heap.size w).alloc (Nat.le_refl _) (.cells #[.int .i64 0, .string ⟨#[]⟩, .string ⟨#[]⟩, .slice none 0 0, .slice none 0 0, .slice none 0 0, .slice none 0 0] 39))
  have hx0 := heap_alloc_new w (.cells #[.int .i64 0, .string ⟨#[]⟩, .string ⟨#[]⟩, .slice none 0 0, .slice none 0 0, .slice none 0 0, .slice none 0 0] 39)
  unfold deleteM at hr
  go_enter Tryd.func103, Tryd.ntmps103
  go_wp2_with fail
  rcases bindR_some hr with ⟨k, h1, rfl⟩ | ⟨u, n1, h1, h2⟩
  · rcases needM_some h1 with ⟨hT, h3⟩ | ⟨hT, h3⟩
    · cases h3
    · cases h3
      refine (mark_no _ _ _ _ _ _ _ _ h0 hT).mono ?_
      rintro e w1 ⟨rfl, hR, k1⟩
      have hblk := (k1.block w.heap.size (by simp) (by omega)).trans hx0
      have hc := cells7 hblk
      have hz := thaw4 hblk
      go_wp2_with fail
      exact fin_stmt Tryd.results103 rfl rfl rfl (store7 hblk _ _ _ _ _ _ _) (postS_bad h (((Kept.refl _ _).alloc _).trans k1) (kept7 _ _ _ _ _ _ _ _ _) (Nat.le_refl _) hR)
  · rcases needM_some h1 with ⟨hT, h3⟩ | ⟨hT, h3⟩
    · cases h3
      refine (mark_yes _ _ _ _ _ _ _ _ h0 hT).mono ?_
      rintro e w1 ⟨rfl, hR1, k1⟩
      have hs1 := k1.size
      simp at hs1
      have hx1 := (k1.block w.heap.size (by simp) (by omega)).trans hx0
      have kw1 : Kept b w w1 := ((Kept.refl b w).alloc _).trans k1
      go_wp2_with fail
      rcases bindR_some h2 with ⟨k, h4, rfl⟩ | ⟨nm, n2, h4, h5⟩
      · rcases nameM_some h4 with ⟨hN, h6⟩ | ⟨hN, h6⟩
        · cases h6
        · cases h6
          refine (name_no _ _ _ _ _ _ _ hR1 hN).mono ?_
          rintro e w2 ⟨rfl, hR, k2⟩
          have hblk := (k2.block w.heap.size (by omega) (by omega)).trans hx1
          have hc := cells7 hblk
          have hz := thaw4 hblk
          go_wp2_with fail
          exact fin_stmt Tryd.results103 rfl rfl rfl (store7 hblk _ _ _ _ _ _ _) (postS_bad h (kw1.trans k2) (kept7 _ _ _ _ _ _ _ _ _) (Nat.le_refl _) hR)
      · rcases nameM_some h4 with ⟨hN, h6⟩ | ⟨hN, h6⟩
        · cases h6
          refine (name_yes _ _ _ _ _ _ _ hR1 hN).mono ?_
          rintro e w2 ⟨rfl, hR2, k2⟩
          have hs2 := k2.size
          have hx2 := (k2.block w.heap.size (by omega) (by omega)).trans hx1
          have kw2 := kw1.trans k2
          go_wp2_with fail
          rcases bindR_some h5 with ⟨k, h7, rfl⟩ | ⟨u, n3, h7, h8⟩
          · rcases needM_some h7 with ⟨hT2, h9⟩ | ⟨hT2, h9⟩
            · cases h9
            · cases h9
              refine (mark_no _ _ _ _ _ _ _ _ hR2 hT2).mono ?_
              rintro e w3 ⟨rfl, hR, k3⟩
              have hblk := (k3.block w.heap.size (by omega) (by omega)).trans hx2
              have hc := cells7 hblk
              have hz := thaw4 hblk
              go_wp2_with fail
              exact fin_stmt Tryd.results103 rfl rfl rfl (store7 hblk _ _ _ _ _ _ _) (postS_bad h (kw2.trans k3) (kept7 _ _ _ _ _ _ _ _ _) (Nat.le_refl _) hR)
          · rcases needM_some h7 with ⟨hT2, h9⟩ | ⟨hT2, h9⟩
            · cases h9
              refine (mark_yes _ _ _ _ _ _ _ _ hR2 hT2).mono ?_
              rintro e w3 ⟨rfl, hR3, k3⟩
              have hs3 := k3.size
              have hx3 := (k3.block w.heap.size (by omega) (by omega)).trans hx2
              have kw3 := kw2.trans k3
              go_wp2_with fail
              rcases bindR_some h8 with ⟨k, h10, rfl⟩ | ⟨x, n4, h10, h11⟩
              · refine (hE _ _ _ _ _ _ _ hR3 h10).mono ?_
                rintro e w4 ⟨k4, v, n', ⟨v0, v1, v2, a3, l3, c3, rfl⟩, rfl, hR⟩
                have hs4 := k4.size
                have hblk := (k4.block w.heap.size (by omega) (by omega)).trans hx3
                have hc := cells7 hblk
                have hz := thaw4 hblk
                have hlt4 : w.heap.size < w4.heap.size := by omega
                go_wp2_with fail
                go_region
                all_goals
                  go_wp2_with fail
                  exact fin_stmt Tryd.results103 rfl rfl rfl (blk_drew (blk_alloc (blk_alloc (store7 hblk _ _ _ _ _ _ _) _) _)) (postS_bad h (kw3.trans k4) ((((kept7 _ _ _ _ _ _ _ _ _).alloc _).alloc _).drew) (Nat.le_refl _) hR)
              · refine (hE _ _ _ _ _ _ _ hR3 h10).mono ?_
                rintro e w4 ⟨k4, v, rfl, hA, hR4⟩
                obtain ⟨v0, v1, v2, a3, l3, c3, rfl⟩ := hA.sh
                have hs4 := k4.size
                have hblk4 := (k4.block w.heap.size (by omega) (by omega)).trans hx3
                have hc := cells7 hblk4
                have hz := thaw4 hblk4
                have hlt4 : w.heap.size < w4.heap.size := by omega
                go_wp2_with fail
                rcases bindR_some h11 with ⟨k, h12, rfl⟩ | ⟨u, n5, h12, h13⟩
                · rcases needM_some h12 with ⟨hT3, h14⟩ | ⟨hT3, h14⟩
                  · cases h14
                  · cases h14
                    go_region_with (first | (go_at_call 79; refine (mark_no ((w4.alloc (.cells #[.int .i64 v0, .int .i64 v1, .string v2, .slice a3 l3 c3] 35)).drew) b bp cap T ps _ [41] (hR4.below (((Below.refl _ _).alloc (Nat.le_refl _) _).drew)) hT3).mono ?_; rintro e w5 ⟨rfl, hR5, k5⟩; have hs5 := k5.size; simp at hs5; have hx5 := (k5.block w.heap.size (by simp; omega) (by omega)).trans (blk_drew (blk_alloc hblk4 _)); have hy5 := (k5.block w4.heap.size (by simp) (by omega)).trans (heap_alloc_new w4 _); have hc5 := cells7 hx5; have hz5 := thaw4 hx5; have hy4 := cells4 hy5; have hlt5 : w.heap.size < w5.heap.size := by { omega }; have kq := ((((kw3.trans k4).alloc _).drew).trans k5); have kr := ((((Kept.refl b w4).alloc _).drew).trans k5)) | (go_at_call 79; refine (mark_no (((w4.alloc (.cells #[.int .i64 v0, .int .i64 v1, .string v2, .slice a3 l3 c3] 35)).alloc (.cells #[.int .i64 v0, .int .i64 v1, .string v2, .slice a3 l3 c3] 35)).drew) b bp cap T ps _ [41] (hR4.below ((((Below.refl _ _).alloc (Nat.le_refl _) _).alloc (by simp) _).drew)) hT3).mono ?_; rintro e w5 ⟨rfl, hR5, k5⟩; have hs5 := k5.size; simp at hs5; have hx5 := (k5.block w.heap.size (by simp; omega) (by omega)).trans (blk_drew (blk_alloc (blk_alloc hblk4 _) _)); have hy5 := (k5.block w4.heap.size (by simp; omega) (by omega)).trans (heap_alloc2 w4 _ _).1; have hw5 := (k5.block (w4.heap.size + 1) (by simp) (by omega)).trans (heap_alloc2 w4 _ _).2; have hc5 := cells7 hx5; have hz5 := thaw4 hx5; have hy4 := cells4 hy5; have hlt5 : w.heap.size < w5.heap.size := by { omega }; have kq := (((((kw3.trans k4).alloc _).alloc _).drew).trans k5); have kr := (((((Kept.refl b w4).alloc _).alloc _).drew).trans k5)))
                    all_goals
                      go_wp2_with fail
                      first
                        | (have _t := hw5; exact fin_stmt Tryd.results103 rfl rfl rfl (store7 hx5 _ _ _ _ _ _ _) (postS_bad h kq (kept7 _ _ _ _ _ _ _ _ _) (Nat.le_refl _) hR5))
                        | (exact fin_stmt Tryd.results103 rfl rfl rfl (blk_alloc (store7 hx5 _ _ _ _ _ _ _) _) (postS_bad h kq ((kept7 _ _ _ _ _ _ _ _ _).alloc _) (Nat.le_refl _) hR5))
                · rcases needM_some h12 with ⟨hT3, h14⟩ | ⟨hT3, h14⟩
                  · cases h14
                    cases h13
                    have HA : Hid (AnE (fun g => w3.heap.size ≤ g) w4 (.agg #[.int .i64 v0, .int .i64 v1, .string v2, .slice a3 l3 c3]) x) := hA
                    clear hA
                    go_region_with (first | (go_at_call 79; refine (mark_yes ((w4.alloc (.cells #[.int .i64 v0, .int .i64 v1, .string v2, .slice a3 l3 c3] 35)).drew) b bp cap T ps _ [41] (hR4.below (((Below.refl _ _).alloc (Nat.le_refl _) _).drew)) hT3).mono ?_; rintro e w5 ⟨rfl, hR5, k5⟩; have hs5 := k5.size; simp at hs5; have hx5 := (k5.block w.heap.size (by simp; omega) (by omega)).trans (blk_drew (blk_alloc hblk4 _)); have hy5 := (k5.block w4.heap.size (by simp) (by omega)).trans (heap_alloc_new w4 _); have hc5 := cells7 hx5; have hz5 := thaw4 hx5; have hy4 := cells4 hy5; have hlt5 : w.heap.size < w5.heap.size := by { omega }; have kq := ((((kw3.trans k4).alloc _).drew).trans k5); have kr := ((((Kept.refl b w4).alloc _).drew).trans k5)) | (go_at_call 79; refine (mark_yes (((w4.alloc (.cells #[.int .i64 v0, .int .i64 v1, .string v2, .slice a3 l3 c3] 35)).alloc (.cells #[.int .i64 v0, .int .i64 v1, .string v2, .slice a3 l3 c3] 35)).drew) b bp cap T ps _ [41] (hR4.below ((((Below.refl _ _).alloc (Nat.le_refl _) _).alloc (by simp) _).drew)) hT3).mono ?_; rintro e w5 ⟨rfl, hR5, k5⟩; have hs5 := k5.size; simp at hs5; have hx5 := (k5.block w.heap.size (by simp; omega) (by omega)).trans (blk_drew (blk_alloc (blk_alloc hblk4 _) _)); have hy5 := (k5.block w4.heap.size (by simp; omega) (by omega)).trans (heap_alloc2 w4 _ _).1; have hw5 := (k5.block (w4.heap.size + 1) (by simp) (by omega)).trans (heap_alloc2 w4 _ _).2; have hc5 := cells7 hx5; have hz5 := thaw4 hx5; have hy4 := cells4 hy5; have hlt5 : w.heap.size < w5.heap.size := by { omega }; have kq := (((((kw3.trans k4).alloc _).alloc _).drew).trans k5); have kr := (((((Kept.refl b w4).alloc _).alloc _).drew).trans k5)))
                    all_goals
                      go_wp2_with fail
                      have hA5 : AnE (fun g => w.heap.size ≤ g ∧ g ≠ w.heap.size) w5 (.agg #[.int .i64 v0, .int .i64 v1, .string v2, .slice a3 l3 c3]) x := HA.out.move fun g hg hlt => ⟨by omega, kr.block g hlt (by omega)⟩
                      first
                        | (have _t := hw5
                           have kx := kept7 w.heap.size w5 (.int .i64 12) (.string ⟨(cur ps (q.next + 1)).s.toArray⟩) (.string ⟨#[]⟩) (.slice (some ⟨w4.heap.size + 1, 0, none⟩) 1 1) (.slice none 0 0) (.slice none 0 0) (.slice none 0 0)
                           have hrw := row1 (S := fun g => w.heap.size ≤ g) ((kx.block (w4.heap.size + 1) (by omega) (by omega)).trans hw5) (by omega) (hA5.own kx fun g hg => ⟨hg.2, hg.1⟩)
                           exact fin_stmt Tryd.results103 rfl rfl rfl (store7 hx5 _ _ _ _ _ _ _) (postS_okW h kq kx (Nat.le_refl _) hR5 (AnS.mk 12 (cur ps (q.next + 1)).s [] [x] [] [] [] hrw (Row.nil _ _ _) (Row.nil _ _ _) (Row.nil _ _ _))))
                        | (have ho := one_row0 (x := w.heap.size) (.int .i64 12) (.string ⟨(cur ps (q.next + 1)).s.toArray⟩) (.string ⟨#[]⟩) (.slice none 0 0) (.slice none 0 0) (.slice none 0 0) (S' := fun g => w.heap.size ≤ g) hA5 (fun g hg => by omega) (by omega)
                           exact fin_stmt Tryd.results103 rfl rfl rfl (blk_alloc (store7 hx5 _ _ _ _ _ _ _) _) (postS_okW h kq ho.1 (Nat.le_refl _) hR5 (AnS.mk 12 (cur ps (q.next + 1)).s [] [x] [] [] [] ho.2 (Row.nil _ _ _) (Row.nil _ _ _) (Row.nil _ _ _))))
                  · cases h14
            · cases h9
        · cases h6
    · cases h3

end Go.Proofs.YtgifghcaeoinoaaDoor
