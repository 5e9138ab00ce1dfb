/-
  Statements that begin with a name.
-/
import Derived.Test.YtgifghcaeoinoaaDoorReC0
namespace Go.Proofs.YtgifghcaeoinoaaDoor
open Go.RowKit
set_option linter.unusedSimpArgs false
set_option linter.unusedVariables false

set_option maxHeartbeats 20000000 in
theorem nameSt_any {ps : List Tok} {E : Nat → Nat → R Ex} (hE : SaidE ps E) (w : World) (b bp cap T f : Nat) (hf : f ≤ 1000000) (q : RS) (p : Tok) (r : Sum (Int × Int) (St × Nat)) (h : Rdr w b bp cap T ps q)
    (hr : nameStM ps E f q.depth p q.next = some r) :
    Calls Tryd.prog 87 #[.pointer (some ⟨b, 0, none⟩), p.val] w (PostS b bp cap T ps q w r) := by
  have hbs := h.bsize
  have hps := h.lt
  have hfar := h.far
  have h0 := h.below (((Below.refl w.heap.size w).alloc (Nat.le_refl _) (.cells #[.int .i64 p.kind, .int .i64 p.at_, .int .i64 p.n, .string ⟨p.s.toArray⟩] 78)).alloc (by simp) (.cells #[.int .i64 0, .string ⟨#[]⟩, .string ⟨#[]⟩, .slice none 0 0, .slice none 0 0, .slice none 0 0, .slice none 0 0] 39))
  have hp0 := (heap_alloc2 w (.cells #[.int .i64 p.kind, .int .i64 p.at_, .int .i64 p.n, .string ⟨p.s.toArray⟩] 78) (.cells #[.int .i64 0, .string ⟨#[]⟩, .string ⟨#[]⟩, .slice none 0 0, .slice none 0 0, .slice none 0 0, .slice none 0 0] 39)).1
  have hx0 := (heap_alloc2 w (.cells #[.int .i64 p.kind, .int .i64 p.at_, .int .i64 p.n, .string ⟨p.s.toArray⟩] 78) (.cells #[.int .i64 0, .string ⟨#[]⟩, .string ⟨#[]⟩, .slice none 0 0, .slice none 0 0, .slice none 0 0, .slice none 0 0] 39)).2
  unfold nameStM at hr
  unfold Tok.val
  go_enter Tryd.func87, Tryd.ntmps87
  go_wp2_with fail
  refine (peek_any _ _ _ _ _ _ _ h0).mono ?_
  rintro e w1 ⟨rfl, hb1⟩
  unfold Tok.val
  have h1 := h0.below hb1
  have hs1 := hb1.size
  simp at hs1
  have hR1 := h1.below ((Below.refl w1.heap.size w1).alloc (Nat.le_refl _) (.cells #[.int .i64 (cur ps q.next).kind, .int .i64 (cur ps q.next).at_, .int .i64 (cur ps q.next).n, .string ⟨(cur ps q.next).s.toArray⟩] 78))
  have hp1 := blk_alloc ((hb1.block w.heap.size (by simp; omega)).trans hp0) (.cells #[.int .i64 (cur ps q.next).kind, .int .i64 (cur ps q.next).at_, .int .i64 (cur ps q.next).n, .string ⟨(cur ps q.next).s.toArray⟩] 78)
  have hx1 := blk_alloc ((hb1.block (w.heap.size + 1) (by simp)).trans hx0) (.cells #[.int .i64 (cur ps q.next).kind, .int .i64 (cur ps q.next).at_, .int .i64 (cur ps q.next).n, .string ⟨(cur ps q.next).s.toArray⟩] 78)
  have hy1 := heap_alloc_new w1 (.cells #[.int .i64 (cur ps q.next).kind, .int .i64 (cur ps q.next).at_, .int .i64 (cur ps q.next).n, .string ⟨(cur ps q.next).s.toArray⟩] 78)
  have kw1 : Kept b w (w1.alloc (.cells #[.int .i64 (cur ps q.next).kind, .int .i64 (cur ps q.next).at_, .int .i64 (cur ps q.next).n, .string ⟨(cur ps q.next).s.toArray⟩] 78)) := ((((Kept.refl b w).alloc (.cells #[.int .i64 p.kind, .int .i64 p.at_, .int .i64 p.n, .string ⟨p.s.toArray⟩] 78)).alloc (.cells #[.int .i64 0, .string ⟨#[]⟩, .string ⟨#[]⟩, .slice none 0 0, .slice none 0 0, .slice none 0 0, .slice none 0 0] 39)).trans (Kept.of_below hb1)).alloc (.cells #[.int .i64 (cur ps q.next).kind, .int .i64 (cur ps q.next).at_, .int .i64 (cur ps q.next).n, .string ⟨(cur ps q.next).s.toArray⟩] 78)
  clear h1 h0 hp0 hx0 hb1
  go_wp2_with fail
  by_cases hT0 : isT (cur ps q.next) 5 [58, 61] = true
  · rw [if_pos hT0] at hr
    refine (skip_yes _ _ _ _ _ _ _ _ _ hR1 rfl hT0).mono ?_
    rintro e w2 ⟨rfl, hR2, k2⟩
    have hs2 := k2.size
    simp at hs2
    have hp2 := (k2.block w.heap.size (by simp; omega) (by omega)).trans hp1
    have hx2 := (k2.block (w.heap.size + 1) (by simp; omega) (by omega)).trans hx1
    have hy2 := (k2.block w1.heap.size (by simp) (by omega)).trans hy1
    have kw2 := kw1.trans k2
    obtain ⟨_, _, _, p3⟩ := cells4 hp2
    go_wp2_with fail
    refine (assigned_any hE _ _ _ _ _ _ _ _ _ hR2 hr).mono ?_
    intro e wz hP
    obtain ⟨kz, v0, v1, v2, a3, l3, c3, a4, l4, c4, a5, l5, c5, a6, l6, c6, ok, rfl⟩ := hP.sh
    have hblk := (kz.block (w.heap.size + 1) (by omega) (by omega)).trans hx2
    have hc := cells7 hblk
    have hz := thaw4 hblk
    have HP : Hid (_) := hP
    clear hP
    go_wp2_with fail
    exact fin_stmt Tryd.results87 rfl rfl rfl (store7 hblk _ _ _ _ _ _ _) (PostS.fwd h kw2 (by omega) (by omega) HP.out (kept7 _ _ _ _ _ _ _ _ _))
  · rw [if_neg hT0] at hr
    have hT0' : isT (cur ps q.next) 5 [58, 61] = false := by simpa using hT0
    clear hT0
    refine (skip_no _ _ _ _ _ _ _ _ _ hR1 hT0').mono ?_
    rintro e w2 ⟨rfl, hR2, k2⟩
    have hs2 := k2.size
    simp at hs2
    have hp2 := (k2.block w.heap.size (by simp; omega) (by omega)).trans hp1
    have hx2 := (k2.block (w.heap.size + 1) (by simp; omega) (by omega)).trans hx1
    have hy2 := (k2.block w1.heap.size (by simp) (by omega)).trans hy1
    have kw2 := kw1.trans k2
    clear hR1 hp1 hx1 hy1
    go_wp2_with fail
    by_cases hT1 : isT (cur ps q.next) 5 [61] = true
    · rw [if_pos hT1] at hr
      refine (skip_yes _ _ _ _ _ _ _ _ _ hR2 rfl hT1).mono ?_
      rintro e w3 ⟨rfl, hR3, k3⟩
      have hs3 := k3.size
      have hp3 := (k3.block w.heap.size (by omega) (by omega)).trans hp2
      have hx3 := (k3.block (w.heap.size + 1) (by omega) (by omega)).trans hx2
      have hy3 := (k3.block w1.heap.size (by omega) (by omega)).trans hy2
      have kw3 := kw2.trans k3
      obtain ⟨_, _, _, p3⟩ := cells4 hp3
      go_wp2_with fail
      refine (assigned_any hE _ _ _ _ _ _ _ _ _ hR3 hr).mono ?_
      intro e wz hP
      obtain ⟨kz, v0, v1, v2, a3, l3, c3, a4, l4, c4, a5, l5, c5, a6, l6, c6, ok, rfl⟩ := hP.sh
      have hblk := (kz.block (w.heap.size + 1) (by omega) (by omega)).trans hx3
      have hc := cells7 hblk
      have hz := thaw4 hblk
      have HP : Hid (_) := hP
      clear hP
      go_wp2_with fail
      exact fin_stmt Tryd.results87 rfl rfl rfl (store7 hblk _ _ _ _ _ _ _) (PostS.fwd h kw3 (by omega) (by omega) HP.out (kept7 _ _ _ _ _ _ _ _ _))
    · rw [if_neg hT1] at hr
      have hT1' : isT (cur ps q.next) 5 [61] = false := by simpa using hT1
      clear hT1
      refine (skip_no _ _ _ _ _ _ _ _ _ hR2 hT1').mono ?_
      rintro e w3 ⟨rfl, hR3, k3⟩
      have hs3 := k3.size
      have hp3 := (k3.block w.heap.size (by omega) (by omega)).trans hp2
      have hx3 := (k3.block (w.heap.size + 1) (by omega) (by omega)).trans hx2
      have hy3 := (k3.block w1.heap.size (by omega) (by omega)).trans hy2
      have kw3 := kw2.trans k3
      clear hR2 hp2 hx2 hy2
      go_wp2_with fail
      by_cases hT2 : isT (cur ps q.next) 5 [91] = true
      · rw [if_pos hT2] at hr
        refine (skip_yes _ _ _ _ _ _ _ _ _ hR3 rfl hT2).mono ?_
        rintro e w4 ⟨rfl, hR4, k4⟩
        have hs4 := k4.size
        have hp4 := (k4.block w.heap.size (by omega) (by omega)).trans hp3
        have hx4 := (k4.block (w.heap.size + 1) (by omega) (by omega)).trans hx3
        have hy4 := (k4.block w1.heap.size (by omega) (by omega)).trans hy3
        have kw4 := kw3.trans k4
        obtain ⟨_, _, _, p3⟩ := cells4 hp4
        go_wp2_with fail
        refine (put_any hE _ _ _ _ _ _ _ _ hR4 hr).mono ?_
        intro e wz hP
        obtain ⟨kz, v0, v1, v2, a3, l3, c3, a4, l4, c4, a5, l5, c5, a6, l6, c6, ok, rfl⟩ := hP.sh
        have hblk := (kz.block (w.heap.size + 1) (by omega) (by omega)).trans hx4
        have hc := cells7 hblk
        have hz := thaw4 hblk
        have HP : Hid (_) := hP
        clear hP
        go_wp2_with fail
        exact fin_stmt Tryd.results87 rfl rfl rfl (store7 hblk _ _ _ _ _ _ _) (PostS.fwd h kw4 (by omega) (by omega) HP.out (kept7 _ _ _ _ _ _ _ _ _))
      · rw [if_neg hT2] at hr
        have hT2' : isT (cur ps q.next) 5 [91] = false := by simpa using hT2
        clear hT2
        refine (skip_no _ _ _ _ _ _ _ _ _ hR3 hT2').mono ?_
        rintro e w4 ⟨rfl, hR4, k4⟩
        have hs4 := k4.size
        have hp4 := (k4.block w.heap.size (by omega) (by omega)).trans hp3
        have hx4 := (k4.block (w.heap.size + 1) (by omega) (by omega)).trans hx3
        have hy4 := (k4.block w1.heap.size (by omega) (by omega)).trans hy3
        have kw4 := kw3.trans k4
        clear hR3 hp3 hx3 hy3
        obtain ⟨y0, y1, y2, y3⟩ := cells4 hy4
        go_wp2_with fail
        refine (is_any (cur ps q.next) _ _ _).mono ?_
        rintro e w5 ⟨rfl, hb5⟩
        have hR5 := hR4.below hb5
        have hs5 := hb5.size
        have hp5 := (hb5.block w.heap.size (by omega)).trans hp4
        have hx5 := (hb5.block (w.heap.size + 1) (by omega)).trans hx4
        have hy5 := (hb5.block w1.heap.size (by omega)).trans hy4
        have kw5 := kw4.trans (Kept.of_below hb5)
        clear y0 y1 y2 y3
        by_cases hT3 : isT (cur ps q.next) 5 [40] = true
        · rw [if_pos hT3] at hr
          rw [hT3]
          obtain ⟨_, _, _, p3⟩ := cells4 hp5
          go_wp2_with fail
          rcases bindR_some hr with ⟨k, g1, rfl⟩ | ⟨x, n1, g1, g2⟩
          · refine (call_any hE _ b bp cap T f hf _ _ _ hR5 g1).mono ?_
            rintro e w6 ⟨k6, v, n', ⟨v0, v1, v2, a3, l3, c3, rfl⟩, rfl, hR⟩
            have hblk := (k6.block (w.heap.size + 1) (by omega) (by omega)).trans hx5
            have hs6 := k6.size
            have hc := cells7 hblk
            have hz := thaw4 hblk
            have hlt6 : w.heap.size + 1 < w6.heap.size := by omega
            have hc6 := cells7 (blk_alloc (blk_alloc hblk (.cells #[.int .i64 v0, .int .i64 v1, .string v2, .slice a3 l3 c3] 35)) (.cells #[.int .i64 v0, .int .i64 v1, .string v2, .slice a3 l3 c3] 35))
            have hz6 := thaw4 (blk_alloc (blk_alloc hblk (.cells #[.int .i64 v0, .int .i64 v1, .string v2, .slice a3 l3 c3] 35)) (.cells #[.int .i64 v0, .int .i64 v1, .string v2, .slice a3 l3 c3] 35))
            go_wp2_with fail
            exact fin_stmt Tryd.results87 rfl rfl rfl (store7 (blk_alloc (blk_alloc hblk _) _) _ _ _ _ _ _ _) (postS_bad h (kw5.trans k6) ((((Kept.refl _ _).alloc _).alloc _).trans (kept7 _ _ _ _ _ _ _ _ _)) (by omega) hR)
          · cases g2
            refine (call_any hE _ b bp cap T f hf _ _ _ hR5 g1).mono ?_
            rintro e w6 ⟨k6, v, rfl, hA, hR⟩
            obtain ⟨v0, v1, v2, a3, l3, c3, rfl⟩ := hA.sh
            have hblk := (k6.block (w.heap.size + 1) (by omega) (by omega)).trans hx5
            have hs6 := k6.size
            have hc := cells7 hblk
            have hz := thaw4 hblk
            have hlt6 : w.heap.size + 1 < w6.heap.size := by omega
            have hc6 := cells7 (blk_alloc (blk_alloc hblk (.cells #[.int .i64 v0, .int .i64 v1, .string v2, .slice a3 l3 c3] 35)) (.cells #[.int .i64 v0, .int .i64 v1, .string v2, .slice a3 l3 c3] 35))
            have hz6 := thaw4 (blk_alloc (blk_alloc hblk (.cells #[.int .i64 v0, .int .i64 v1, .string v2, .slice a3 l3 c3] 35)) (.cells #[.int .i64 v0, .int .i64 v1, .string v2, .slice a3 l3 c3] 35))
            have HA : Hid (AnE (fun g => w5.heap.size ≤ g) w6 (.agg #[.int .i64 v0, .int .i64 v1, .string v2, .slice a3 l3 c3]) x) := hA
            clear hA
            go_wp2_with fail
            have kx := kept7 (w.heap.size + 1) ((w6.alloc (.cells #[.int .i64 v0, .int .i64 v1, .string v2, .slice a3 l3 c3] 35)).alloc (.cells #[.int .i64 v0, .int .i64 v1, .string v2, .slice a3 l3 c3] 35)) (.int .i64 13) (.string ⟨#[]⟩) (.string ⟨#[]⟩) (.slice (some ⟨w6.heap.size + 1, 0, none⟩) 1 1) (.slice none 0 0) (.slice none 0 0) (.slice none 0 0)
            have kk := (((Kept.refl (w.heap.size + 1) w6).alloc (.cells #[.int .i64 v0, .int .i64 v1, .string v2, .slice a3 l3 c3] 35)).alloc (.cells #[.int .i64 v0, .int .i64 v1, .string v2, .slice a3 l3 c3] 35)).trans kx
            have hrow := row1 (S := fun g => w.heap.size ≤ g) ((kx.block (w6.heap.size + 1) (by simp) (by omega)).trans (heap_alloc2 w6 (.cells #[.int .i64 v0, .int .i64 v1, .string v2, .slice a3 l3 c3] 35) (.cells #[.int .i64 v0, .int .i64 v1, .string v2, .slice a3 l3 c3] 35)).2) (by omega) (HA.out.own kk fun g hg => by omega)
            exact fin_stmt Tryd.results87 rfl rfl rfl (store7 (blk_alloc (blk_alloc hblk _) _) _ _ _ _ _ _ _) (postS_okW h (kw5.trans k6) kk (by omega) hR (AnS.mk 13 [] [] [x] [] [] [] hrow (Row.nil _ _ _) (Row.nil _ _ _) (Row.nil _ _ _)))
        · rw [if_neg hT3] at hr
          have hT3' : isT (cur ps q.next) 5 [40] = false := by simpa using hT3
          rw [hT3']
          clear hT3
          obtain ⟨y0, y1, y2, y3⟩ := cells4 hy5
          by_cases hT4 : ((cur ps q.next).kind == 0) = true
          · rw [if_pos hT4] at hr
            cases hr
            go_wp2_with fail
            refine (refuse_any _ _ _ _ _ _ _ hR5).mono ?_
            rintro e w6 ⟨rfl, hR, k6⟩
            have hblk := (k6.block (w.heap.size + 1) (by omega) (by omega)).trans hx5
            have hc := cells7 hblk
            have hz := thaw4 hblk
            go_wp2_with fail
            exact fin_stmt Tryd.results87 rfl rfl rfl (store7 hblk _ _ _ _ _ _ _) (postS_bad h (kw5.trans k6) (kept7 _ _ _ _ _ _ _ _ _) (by omega) hR)
          · rw [if_neg hT4] at hr
            have hT4' : ((cur ps q.next).kind == 0) = false := by simpa using hT4
            clear hT4
            cases hr
            obtain ⟨p0, p1, _, _⟩ := cells4 hp5
            go_wp2_with fail
            refine (fail_any _ _ _ _ _ _ _ _ _ hR5).mono ?_
            rintro e w6 ⟨rfl, hR, k6⟩
            have hblk := (k6.block (w.heap.size + 1) (by omega) (by omega)).trans hx5
            have hc := cells7 hblk
            have hz := thaw4 hblk
            go_wp2_with fail
            exact fin_stmt Tryd.results87 rfl rfl rfl (store7 hblk _ _ _ _ _ _ _) (postS_bad h (kw5.trans k6) (kept7 _ _ _ _ _ _ _ _ _) (by omega) hR)

end Go.Proofs.YtgifghcaeoinoaaDoor
