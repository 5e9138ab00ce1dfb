/-
  All functions.
-/
import Derived.Test.YtbpnfoihonehgabGreatDoorJReC
namespace Go.Proofs.YtbpnfoihonehgabGreatDoor
section
open Go.RowKit
set_option linter.unusedSimpArgs false
set_option linter.unusedVariables false

set_option maxHeartbeats 20000000 in
theorem nameSt_any {ps : List Tok} {E : Nat → Nat → R Ex} (hE : SaidE ps E) (w : World) (b bp cap T f : Nat) (hf : f ≤ 1000000) (q : RS) (p : Tok) (r : Sum (Int × Int) (St × Nat)) (h : Rdr w b bp cap T ps q)
    (hr : nameStM ps E f q.depth p q.next = some r) :
    Calls Tryz.prog 76 #[.pointer (some ⟨b, 0, none⟩), p.val] w (PostS b bp cap T ps q w r) := by
  have hbs := h.bsize
  have hps := h.lt
  have hfar := h.far
  have h0 := h.below (((Below.refl w.heap.size w).alloc (Nat.le_refl _) (.cells #[.int .i64 p.kind, .int .i64 p.at_, .int .i64 p.n, .string ⟨p.s.toArray⟩] 69)).alloc (by simp) (.cells #[.int .i64 0, .string ⟨#[]⟩, .string ⟨#[]⟩, .slice none 0 0, .slice none 0 0, .slice none 0 0, .slice none 0 0] 63))
  have hp0 := (heap_alloc2 w (.cells #[.int .i64 p.kind, .int .i64 p.at_, .int .i64 p.n, .string ⟨p.s.toArray⟩] 69) (.cells #[.int .i64 0, .string ⟨#[]⟩, .string ⟨#[]⟩, .slice none 0 0, .slice none 0 0, .slice none 0 0, .slice none 0 0] 63)).1
  have hx0 := (heap_alloc2 w (.cells #[.int .i64 p.kind, .int .i64 p.at_, .int .i64 p.n, .string ⟨p.s.toArray⟩] 69) (.cells #[.int .i64 0, .string ⟨#[]⟩, .string ⟨#[]⟩, .slice none 0 0, .slice none 0 0, .slice none 0 0, .slice none 0 0] 63)).2
  unfold nameStM at hr
  unfold Tok.val
  go_enter Tryz.func76, Tryz.ntmps76
  go_wp2_with fail
  refine (peek_any _ _ _ _ _ _ _ h0).mono ?_
  rintro e w1 ⟨rfl, hb1⟩
  unfold Tok.val
  have h1 := h0.below hb1
  have hs1 := hb1.size
  simp at hs1
  have hR1 := h1.below ((Below.refl w1.heap.size w1).alloc (Nat.le_refl _) (.cells #[.int .i64 (cur ps q.next).kind, .int .i64 (cur ps q.next).at_, .int .i64 (cur ps q.next).n, .string ⟨(cur ps q.next).s.toArray⟩] 69))
  have hp1 := blk_alloc ((hb1.block w.heap.size (by simp; omega)).trans hp0) (.cells #[.int .i64 (cur ps q.next).kind, .int .i64 (cur ps q.next).at_, .int .i64 (cur ps q.next).n, .string ⟨(cur ps q.next).s.toArray⟩] 69)
  have hx1 := blk_alloc ((hb1.block (w.heap.size + 1) (by simp)).trans hx0) (.cells #[.int .i64 (cur ps q.next).kind, .int .i64 (cur ps q.next).at_, .int .i64 (cur ps q.next).n, .string ⟨(cur ps q.next).s.toArray⟩] 69)
  have hy1 := heap_alloc_new w1 (.cells #[.int .i64 (cur ps q.next).kind, .int .i64 (cur ps q.next).at_, .int .i64 (cur ps q.next).n, .string ⟨(cur ps q.next).s.toArray⟩] 69)
  have kw1 : Kept b w (w1.alloc (.cells #[.int .i64 (cur ps q.next).kind, .int .i64 (cur ps q.next).at_, .int .i64 (cur ps q.next).n, .string ⟨(cur ps q.next).s.toArray⟩] 69)) := ((((Kept.refl b w).alloc (.cells #[.int .i64 p.kind, .int .i64 p.at_, .int .i64 p.n, .string ⟨p.s.toArray⟩] 69)).alloc (.cells #[.int .i64 0, .string ⟨#[]⟩, .string ⟨#[]⟩, .slice none 0 0, .slice none 0 0, .slice none 0 0, .slice none 0 0] 63)).trans (Kept.of_below hb1)).alloc (.cells #[.int .i64 (cur ps q.next).kind, .int .i64 (cur ps q.next).at_, .int .i64 (cur ps q.next).n, .string ⟨(cur ps q.next).s.toArray⟩] 69)
  clear h1 h0 hp0 hx0 hb1
  go_wp2_with fail
  by_cases hT0 : isT (cur ps q.next) 5 [58, 61] = true
  · rw [if_pos hT0] at hr
    refine (skip_yes _ _ _ _ _ _ _ _ _ hR1 rfl hT0).mono ?_
    rintro e w2 ⟨rfl, hR2, k2⟩
    have hs2 := k2.size
    simp at hs2
    have hp2 := (k2.block w.heap.size (by simp; omega) (by omega)).trans hp1
    have hx2 := (k2.block (w.heap.size + 1) (by simp; omega) (by omega)).trans hx1
    have hy2 := (k2.block w1.heap.size (by simp) (by omega)).trans hy1
    have kw2 := kw1.trans k2
    obtain ⟨_, _, _, p3⟩ := cells4 hp2
    go_wp2_with fail
    refine (assigned_any hE _ _ _ _ _ _ _ _ _ hR2 hr).mono ?_
    intro e wz hP
    obtain ⟨kz, v0, v1, v2, a3, l3, c3, a4, l4, c4, a5, l5, c5, a6, l6, c6, ok, rfl⟩ := hP.sh
    have hblk := (kz.block (w.heap.size + 1) (by omega) (by omega)).trans hx2
    have hc := cells7 hblk
    have hz := thaw4 hblk
    have HP : Hid (_) := hP
    clear hP
    go_wp2_with fail
    exact fin_stmt Tryz.results76 rfl rfl rfl (store7 hblk _ _ _ _ _ _ _) (PostS.fwd h kw2 (by omega) (by omega) HP.out (kept7 _ _ _ _ _ _ _ _ _))
  · rw [if_neg hT0] at hr
    have hT0' : isT (cur ps q.next) 5 [58, 61] = false := by simpa using hT0
    clear hT0
    refine (skip_no _ _ _ _ _ _ _ _ _ hR1 hT0').mono ?_
    rintro e w2 ⟨rfl, hR2, k2⟩
    have hs2 := k2.size
    simp at hs2
    have hp2 := (k2.block w.heap.size (by simp; omega) (by omega)).trans hp1
    have hx2 := (k2.block (w.heap.size + 1) (by simp; omega) (by omega)).trans hx1
    have hy2 := (k2.block w1.heap.size (by simp) (by omega)).trans hy1
    have kw2 := kw1.trans k2
    clear hR1 hp1 hx1 hy1
    go_wp2_with fail
    by_cases hT1 : isT (cur ps q.next) 5 [61] = true
    · rw [if_pos hT1] at hr
      refine (skip_yes _ _ _ _ _ _ _ _ _ hR2 rfl hT1).mono ?_
      rintro e w3 ⟨rfl, hR3, k3⟩
      have hs3 := k3.size
      have hp3 := (k3.block w.heap.size (by omega) (by omega)).trans hp2
      have hx3 := (k3.block (w.heap.size + 1) (by omega) (by omega)).trans hx2
      have hy3 := (k3.block w1.heap.size (by omega) (by omega)).trans hy2
      have kw3 := kw2.trans k3
      obtain ⟨_, _, _, p3⟩ := cells4 hp3
      go_wp2_with fail
      refine (assigned_any hE _ _ _ _ _ _ _ _ _ hR3 hr).mono ?_
      intro e wz hP
      obtain ⟨kz, v0, v1, v2, a3, l3, c3, a4, l4, c4, a5, l5, c5, a6, l6, c6, ok, rfl⟩ := hP.sh
      have hblk := (kz.block (w.heap.size + 1) (by omega) (by omega)).trans hx3
      have hc := cells7 hblk
      have hz := thaw4 hblk
      have HP : Hid (_) := hP
      clear hP
      go_wp2_with fail
      exact fin_stmt Tryz.results76 rfl rfl rfl (store7 hblk _ _ _ _ _ _ _) (PostS.fwd h kw3 (by omega) (by omega) HP.out (kept7 _ _ _ _ _ _ _ _ _))
    · rw [if_neg hT1] at hr
      have hT1' : isT (cur ps q.next) 5 [61] = false := by simpa using hT1
      clear hT1
      refine (skip_no _ _ _ _ _ _ _ _ _ hR2 hT1').mono ?_
      rintro e w3 ⟨rfl, hR3, k3⟩
      have hs3 := k3.size
      have hp3 := (k3.block w.heap.size (by omega) (by omega)).trans hp2
      have hx3 := (k3.block (w.heap.size + 1) (by omega) (by omega)).trans hx2
      have hy3 := (k3.block w1.heap.size (by omega) (by omega)).trans hy2
      have kw3 := kw2.trans k3
      clear hR2 hp2 hx2 hy2
      go_wp2_with fail
      by_cases hT2 : isT (cur ps q.next) 5 [91] = true
      · rw [if_pos hT2] at hr
        refine (skip_yes _ _ _ _ _ _ _ _ _ hR3 rfl hT2).mono ?_
        rintro e w4 ⟨rfl, hR4, k4⟩
        have hs4 := k4.size
        have hp4 := (k4.block w.heap.size (by omega) (by omega)).trans hp3
        have hx4 := (k4.block (w.heap.size + 1) (by omega) (by omega)).trans hx3
        have hy4 := (k4.block w1.heap.size (by omega) (by omega)).trans hy3
        have kw4 := kw3.trans k4
        obtain ⟨_, _, _, p3⟩ := cells4 hp4
        go_wp2_with fail
        refine (put_any hE _ _ _ _ _ _ _ _ hR4 hr).mono ?_
        intro e wz hP
        obtain ⟨kz, v0, v1, v2, a3, l3, c3, a4, l4, c4, a5, l5, c5, a6, l6, c6, ok, rfl⟩ := hP.sh
        have hblk := (kz.block (w.heap.size + 1) (by omega) (by omega)).trans hx4
        have hc := cells7 hblk
        have hz := thaw4 hblk
        have HP : Hid (_) := hP
        clear hP
        go_wp2_with fail
        exact fin_stmt Tryz.results76 rfl rfl rfl (store7 hblk _ _ _ _ _ _ _) (PostS.fwd h kw4 (by omega) (by omega) HP.out (kept7 _ _ _ _ _ _ _ _ _))
      · rw [if_neg hT2] at hr
        have hT2' : isT (cur ps q.next) 5 [91] = false := by simpa using hT2
        clear hT2
        refine (skip_no _ _ _ _ _ _ _ _ _ hR3 hT2').mono ?_
        rintro e w4 ⟨rfl, hR4, k4⟩
        have hs4 := k4.size
        have hp4 := (k4.block w.heap.size (by omega) (by omega)).trans hp3
        have hx4 := (k4.block (w.heap.size + 1) (by omega) (by omega)).trans hx3
        have hy4 := (k4.block w1.heap.size (by omega) (by omega)).trans hy3
        have kw4 := kw3.trans k4
        clear hR3 hp3 hx3 hy3
        obtain ⟨y0, y1, y2, y3⟩ := cells4 hy4
        go_wp2_with fail
        refine (is_any (cur ps q.next) _ _ _).mono ?_
        rintro e w5 ⟨rfl, hb5⟩
        have hR5 := hR4.below hb5
        have hs5 := hb5.size
        have hp5 := (hb5.block w.heap.size (by omega)).trans hp4
        have hx5 := (hb5.block (w.heap.size + 1) (by omega)).trans hx4
        have hy5 := (hb5.block w1.heap.size (by omega)).trans hy4
        have kw5 := kw4.trans (Kept.of_below hb5)
        clear y0 y1 y2 y3
        by_cases hT3 : isT (cur ps q.next) 5 [40] = true
        · rw [if_pos hT3] at hr
          rw [hT3]
          obtain ⟨_, _, _, p3⟩ := cells4 hp5
          go_wp2_with fail
          rcases bindR_some hr with ⟨k, g1, rfl⟩ | ⟨x, n1, g1, g2⟩
          · refine (call_any hE _ b bp cap T f hf _ _ _ hR5 g1).mono ?_
            rintro e w6 ⟨k6, v, n', ⟨v0, v1, v2, a3, l3, c3, rfl⟩, rfl, hR⟩
            have hblk := (k6.block (w.heap.size + 1) (by omega) (by omega)).trans hx5
            have hs6 := k6.size
            have hc := cells7 hblk
            have hz := thaw4 hblk
            have hlt6 : w.heap.size + 1 < w6.heap.size := by omega
            have hc6 := cells7 (blk_alloc (blk_alloc hblk (.cells #[.int .i64 v0, .int .i64 v1, .string v2, .slice a3 l3 c3] 116)) (.cells #[.int .i64 v0, .int .i64 v1, .string v2, .slice a3 l3 c3] 116))
            have hz6 := thaw4 (blk_alloc (blk_alloc hblk (.cells #[.int .i64 v0, .int .i64 v1, .string v2, .slice a3 l3 c3] 116)) (.cells #[.int .i64 v0, .int .i64 v1, .string v2, .slice a3 l3 c3] 116))
            go_wp2_with fail
            exact fin_stmt Tryz.results76 rfl rfl rfl (store7 (blk_alloc (blk_alloc hblk _) _) _ _ _ _ _ _ _) (postS_bad h (kw5.trans k6) ((((Kept.refl _ _).alloc _).alloc _).trans (kept7 _ _ _ _ _ _ _ _ _)) (by omega) hR)
          · cases g2
            refine (call_any hE _ b bp cap T f hf _ _ _ hR5 g1).mono ?_
            rintro e w6 ⟨k6, v, rfl, hA, hR⟩
            obtain ⟨v0, v1, v2, a3, l3, c3, rfl⟩ := hA.sh
            have hblk := (k6.block (w.heap.size + 1) (by omega) (by omega)).trans hx5
            have hs6 := k6.size
            have hc := cells7 hblk
            have hz := thaw4 hblk
            have hlt6 : w.heap.size + 1 < w6.heap.size := by omega
            have hc6 := cells7 (blk_alloc (blk_alloc hblk (.cells #[.int .i64 v0, .int .i64 v1, .string v2, .slice a3 l3 c3] 116)) (.cells #[.int .i64 v0, .int .i64 v1, .string v2, .slice a3 l3 c3] 116))
            have hz6 := thaw4 (blk_alloc (blk_alloc hblk (.cells #[.int .i64 v0, .int .i64 v1, .string v2, .slice a3 l3 c3] 116)) (.cells #[.int .i64 v0, .int .i64 v1, .string v2, .slice a3 l3 c3] 116))
            have HA : Hid (AnE (fun g => w5.heap.size ≤ g) w6 (.agg #[.int .i64 v0, .int .i64 v1, .string v2, .slice a3 l3 c3]) x) := hA
            clear hA
            go_wp2_with fail
            have kx := kept7 (w.heap.size + 1) ((w6.alloc (.cells #[.int .i64 v0, .int .i64 v1, .string v2, .slice a3 l3 c3] 116)).alloc (.cells #[.int .i64 v0, .int .i64 v1, .string v2, .slice a3 l3 c3] 116)) (.int .i64 13) (.string ⟨#[]⟩) (.string ⟨#[]⟩) (.slice (some ⟨w6.heap.size + 1, 0, none⟩) 1 1) (.slice none 0 0) (.slice none 0 0) (.slice none 0 0)
            have kk := (((Kept.refl (w.heap.size + 1) w6).alloc (.cells #[.int .i64 v0, .int .i64 v1, .string v2, .slice a3 l3 c3] 116)).alloc (.cells #[.int .i64 v0, .int .i64 v1, .string v2, .slice a3 l3 c3] 116)).trans kx
            have hrow := row1 (S := fun g => w.heap.size ≤ g) ((kx.block (w6.heap.size + 1) (by simp) (by omega)).trans (heap_alloc2 w6 (.cells #[.int .i64 v0, .int .i64 v1, .string v2, .slice a3 l3 c3] 116) (.cells #[.int .i64 v0, .int .i64 v1, .string v2, .slice a3 l3 c3] 116)).2) (by omega) (HA.out.own kk fun g hg => by omega)
            exact fin_stmt Tryz.results76 rfl rfl rfl (store7 (blk_alloc (blk_alloc hblk _) _) _ _ _ _ _ _ _) (postS_okW h (kw5.trans k6) kk (by omega) hR (AnS.mk 13 [] [] [x] [] [] [] hrow (Row.nil _ _ _) (Row.nil _ _ _) (Row.nil _ _ _)))
        · rw [if_neg hT3] at hr
          have hT3' : isT (cur ps q.next) 5 [40] = false := by simpa using hT3
          rw [hT3']
          clear hT3
          obtain ⟨y0, y1, y2, y3⟩ := cells4 hy5
          by_cases hT4 : ((cur ps q.next).kind == 0) = true
          · rw [if_pos hT4] at hr
            cases hr
            go_wp2_with fail
            refine (refuse_any _ _ _ _ _ _ _ hR5).mono ?_
            rintro e w6 ⟨rfl, hR, k6⟩
            have hblk := (k6.block (w.heap.size + 1) (by omega) (by omega)).trans hx5
            have hc := cells7 hblk
            have hz := thaw4 hblk
            go_wp2_with fail
            exact fin_stmt Tryz.results76 rfl rfl rfl (store7 hblk _ _ _ _ _ _ _) (postS_bad h (kw5.trans k6) (kept7 _ _ _ _ _ _ _ _ _) (by omega) hR)
          · rw [if_neg hT4] at hr
            have hT4' : ((cur ps q.next).kind == 0) = false := by simpa using hT4
            clear hT4
            cases hr
            obtain ⟨p0, p1, _, _⟩ := cells4 hp5
            go_wp2_with fail
            refine (fail_any _ _ _ _ _ _ _ _ _ hR5).mono ?_
            rintro e w6 ⟨rfl, hR, k6⟩
            have hblk := (k6.block (w.heap.size + 1) (by omega) (by omega)).trans hx5
            have hc := cells7 hblk
            have hz := thaw4 hblk
            go_wp2_with fail
            exact fin_stmt Tryz.results76 rfl rfl rfl (store7 hblk _ _ _ _ _ _ _) (postS_bad h (kw5.trans k6) (kept7 _ _ _ _ _ _ _ _ _) (by omega) hR)
end

section
open Go.RowKit
set_option linter.unusedSimpArgs false
set_option linter.unusedVariables false

def statementN (ps : List Tok) (E : Nat → Nat → R Ex) (I LP SW : Nat → Nat → R St) (f d n : Nat) : R St :=
  if (cur ps n).kind == 1 then nameStM ps E f d (cur ps n) (n + 1)
  else if (cur ps n).kind == 2 then keywordStN ps E I LP SW f d (cur ps n) (n + 1)
  else badR (refuseM ps n)

set_option maxHeartbeats 3000000 in
theorem statement_any {ps : List Tok} {E : Nat → Nat → R Ex} {I LP SW : Nat → Nat → R St} (hE : SaidE ps E) (hI : SaidIf ps I) (hLP : SaidF 92 ps LP) (hSW : SaidF 93 ps SW)
    (f : Nat) (hf : f ≤ 1000000) : SaidSt ps (statementN ps E I LP SW f) := by
  intro w b bp cap T q r h hr
  have hbs := h.bsize
  have hps := h.lt
  have hfar := h.far
  have h0 := h.below ((Below.refl w.heap.size w).alloc (Nat.le_refl _) (.cells #[.int .i64 0, .string ⟨#[]⟩, .string ⟨#[]⟩, .slice none 0 0, .slice none 0 0, .slice none 0 0, .slice none 0 0] 63))
  have hx0 := heap_alloc_new w (.cells #[.int .i64 0, .string ⟨#[]⟩, .string ⟨#[]⟩, .slice none 0 0, .slice none 0 0, .slice none 0 0, .slice none 0 0] 63)
  unfold statementN at hr
  go_enter Tryz.func64, Tryz.ntmps64
  go_wp2_with fail
  refine (peek_any _ _ _ _ _ _ _ h0).mono ?_
  rintro e w1 ⟨rfl, hb1⟩
  unfold Tok.val
  have h1 := h0.below hb1
  have hs1 := hb1.size
  simp at hs1
  have hR1 := h1.below ((Below.refl w1.heap.size w1).alloc (Nat.le_refl _) (.cells #[.int .i64 (cur ps q.next).kind, .int .i64 (cur ps q.next).at_, .int .i64 (cur ps q.next).n, .string ⟨(cur ps q.next).s.toArray⟩] 69))
  have hx1 := blk_alloc ((hb1.block w.heap.size (by simp)).trans hx0) (.cells #[.int .i64 (cur ps q.next).kind, .int .i64 (cur ps q.next).at_, .int .i64 (cur ps q.next).n, .string ⟨(cur ps q.next).s.toArray⟩] 69)
  have hy1 := heap_alloc_new w1 (.cells #[.int .i64 (cur ps q.next).kind, .int .i64 (cur ps q.next).at_, .int .i64 (cur ps q.next).n, .string ⟨(cur ps q.next).s.toArray⟩] 69)
  have kw1 : Kept b w (w1.alloc (.cells #[.int .i64 (cur ps q.next).kind, .int .i64 (cur ps q.next).at_, .int .i64 (cur ps q.next).n, .string ⟨(cur ps q.next).s.toArray⟩] 69)) := (((Kept.refl b w).alloc (.cells #[.int .i64 0, .string ⟨#[]⟩, .string ⟨#[]⟩, .slice none 0 0, .slice none 0 0, .slice none 0 0, .slice none 0 0] 63)).trans (Kept.of_below hb1)).alloc (.cells #[.int .i64 (cur ps q.next).kind, .int .i64 (cur ps q.next).at_, .int .i64 (cur ps q.next).n, .string ⟨(cur ps q.next).s.toArray⟩] 69)
  clear h1 h0 hx0 hb1
  by_cases hT : ((cur ps q.next).kind == 1) = true
  · rw [if_pos hT] at hr
    have hk : ((cur ps q.next).kind != 0) = true := by simp at hT ⊢; omega
    go_wp2_with fail
    refine (step_any _ _ _ _ _ _ _ hR1 hk).mono ?_
    rintro e w2 ⟨rfl, hR2, k2⟩
    have hs2 := k2.size
    simp at hs2
    have hx2 := (k2.block w.heap.size (by simp; omega) (by omega)).trans hx1
    have hy2 := (k2.block w1.heap.size (by simp) (by omega)).trans hy1
    have kw2 := kw1.trans k2
    obtain ⟨y0, y1, y2, y3⟩ := cells4 hy2
    go_wp2_with fail
    refine (nameSt_any hE _ b bp cap T f hf _ (cur ps q.next) _ hR2 hr).mono ?_
    intro e wz hP
    obtain ⟨kz, v0, v1, v2, a3, l3, c3, a4, l4, c4, a5, l5, c5, a6, l6, c6, ok, rfl⟩ := hP.sh
    have hblk := (kz.block w.heap.size (by omega) (by omega)).trans hx2
    have hc := cells7 hblk
    have hz := thaw4 hblk
    have HP : Hid (_) := hP
    clear hP
    go_wp2_with fail
    exact fin_stmt Tryz.results64 rfl rfl rfl (store7 hblk _ _ _ _ _ _ _) (PostS.fwd h kw2 (by omega) (by omega) HP.out (kept7 _ _ _ _ _ _ _ _ _))
  · rw [if_neg hT] at hr
    have hT' : ((cur ps q.next).kind == 1) = false := by simpa using hT
    clear hT
    by_cases hT2 : ((cur ps q.next).kind == 2) = true
    · rw [if_pos hT2] at hr
      have hk : ((cur ps q.next).kind != 0) = true := by simp at hT2 ⊢; omega
      go_wp2_with fail
      refine (step_any _ _ _ _ _ _ _ hR1 hk).mono ?_
      rintro e w2 ⟨rfl, hR2, k2⟩
      have hs2 := k2.size
      simp at hs2
      have hx2 := (k2.block w.heap.size (by simp; omega) (by omega)).trans hx1
      have hy2 := (k2.block w1.heap.size (by simp) (by omega)).trans hy1
      have kw2 := kw1.trans k2
      obtain ⟨y0, y1, y2, y3⟩ := cells4 hy2
      go_wp2_with fail
      refine (keywordSt_any hE hI hLP hSW _ b bp cap T f hf _ (cur ps q.next) _ hR2 hr).mono ?_
      intro e wz hP
      obtain ⟨kz, v0, v1, v2, a3, l3, c3, a4, l4, c4, a5, l5, c5, a6, l6, c6, ok, rfl⟩ := hP.sh
      have hblk := (kz.block w.heap.size (by omega) (by omega)).trans hx2
      have hc := cells7 hblk
      have hz := thaw4 hblk
      have HP : Hid (_) := hP
      clear hP
      go_wp2_with fail
      exact fin_stmt Tryz.results64 rfl rfl rfl (store7 hblk _ _ _ _ _ _ _) (PostS.fwd h kw2 (by omega) (by omega) HP.out (kept7 _ _ _ _ _ _ _ _ _))
    · rw [if_neg hT2] at hr
      have hT2' : ((cur ps q.next).kind == 2) = false := by simpa using hT2
      clear hT2
      cases hr
      go_wp2_with fail
      refine (refuse_any _ _ _ _ _ _ _ hR1).mono ?_
      rintro e w2 ⟨rfl, hR, k2⟩
      have hblk := (k2.block w.heap.size (by simp; omega) (by omega)).trans hx1
      have hc := cells7 hblk
      have hz := thaw4 hblk
      go_wp2_with fail
      exact fin_stmt Tryz.results64 rfl rfl rfl (store7 hblk _ _ _ _ _ _ _) (postS_bad h (kw1.trans k2) (kept7 _ _ _ _ _ _ _ _ _) (by omega) hR)
end

section
open Go.RowKit
set_option linter.unusedSimpArgs false
set_option linter.unusedVariables false

/-- a row of the call's own, m cells an element, which grows -/
def Grow {B : Type} (A : (Nat → Prop) → World → Value → B → Prop) (e : TypeId) (m base : Nat) (w : World) (v : Value) (vs : List Value) (xs : List B) : Prop :=
  w.ownsRow base e m v xs.length (flat vs) ∧ AllP (A (fun g => base ≤ g ∧ v.ownBlock ≠ some g) w) vs xs

def Moves {B : Type} (A : (Nat → Prop) → World → Value → B → Prop) : Prop :=
  ∀ (S S' : Nat → Prop) (w w' : World) (v : Value) (x : B), A S w v x → (∀ g, S g → g < w.heap.size → S' g ∧ w'.heap[g]? = w.heap[g]?) → A S' w' v x

theorem moves_AnS : Moves AnS := fun _ _ _ _ _ _ h k => h.move k

theorem Grow.nil {B : Type} (A : (Nat → Prop) → World → Value → B → Prop) (e : TypeId) (m base : Nat) (w : World) : Grow A e m base w (.slice none 0 0) [] [] := ⟨World.ownsRow_nil _ _ _ _, trivial⟩

theorem Grow.kept {B : Type} {A : (Nat → Prop) → World → Value → B → Prop} (hA : Moves A) {e : TypeId} {m base b : Nat} {w w' : World} {v : Value} {vs : List Value} {xs : List B} (h : Grow A e m base w v vs xs) (k : Kept b w w') (hb : b < base) : Grow A e m base w' v vs xs :=
  ⟨ownsRow_kept h.1 k hb, h.2.imp fun u x hx => hA _ _ _ _ _ _ hx fun g hg hlt => ⟨hg, k.block g hlt (by omega)⟩⟩

theorem Grow.slice {B : Type} {A : (Nat → Prop) → World → Value → B → Prop} {e : TypeId} {m base : Nat} {w : World} {v : Value} {vs : List Value} {xs : List B} (h : Grow A e m base w v vs xs) : ∃ a c, v = .slice a xs.length c := ownsRow_slice h.1

theorem Grow.snoc {B : Type} {A : (Nat → Prop) → World → Value → B → Prop} (hA : Moves A) {e : TypeId} {m base z g cp : Nat} {w1 wa w2 : World} {v : Value} {vs ys : List Value} {xs : List B} {x : B} (h : Grow A e m base w1 v vs xs)
    (hx : A (fun g => z ≤ g) w1 (.agg ys.toArray) x) (hz : base ≤ z) (hv : ∀ k, v.ownBlock = some k → k < z) (hf : flat [.agg ys.toArray] = ys) (hbl : ∀ k, k < w1.heap.size → wa.heap[k]? = w1.heap[k]?) (hs : w1.heap.size ≤ wa.heap.size)
    (hg : wa.grownBy w2 v.ownBlock) (hat : v.ownBlock = some g ∨ g = wa.heap.size) (ho : w2.ownsRow base e m (.slice (some ⟨g, 0, none⟩) (xs.length + 1) cp) (xs.length + 1) (flat vs ++ ys)) :
    Grow A e m base w2 (.slice (some ⟨g, 0, none⟩) (xs.length + 1) cp) (vs ++ [.agg ys.toArray]) (xs ++ [x]) := by
  have keep : ∀ k, k < w1.heap.size → v.ownBlock ≠ some k → k ≠ g ∧ w2.heap[k]? = w1.heap[k]? := by
    intro k hk hne
    refine ⟨?_, ?_⟩
    · rintro rfl
      rcases hat with h | h
      · exact hne h
      · omega
    · rw [hg.block k (by omega) (fun e => hne e.symm), hbl k hk]
  refine ⟨?_, ?_⟩
  · simp only [List.length_append, List.length_cons, List.length_nil, flat_append, hf]
    exact ho
  · refine AllP.snoc ?_ (h.2.imp fun u y hu => ?_)
    · refine hA _ _ _ _ _ _ hx fun k hk hlt => ?_
      have := keep k hlt (fun e => by have := hv k e; omega)
      exact ⟨⟨by omega, by simp [Value.ownBlock]; exact fun e => this.1 e.symm⟩, this.2⟩
    · refine hA _ _ _ _ _ _ hu fun k hk hlt => ?_
      have := keep k hlt hk.2
      exact ⟨⟨hk.1, by simp [Value.ownBlock]; exact fun e => this.1 e.symm⟩, this.2⟩

theorem Grow.row {B : Type} {A : (Nat → Prop) → World → Value → B → Prop} (hA : Moves A) {e : TypeId} {m base z : Nat} {w : World} {v : Value} {vs : List Value} {xs : List B} (h : Grow A e m base w v vs xs) (hz : z ≤ base) :
    Row (fun g => z ≤ g) w (A (fun g => z ≤ g) w) v xs :=
  ⟨vs, row_of_owns h.1 _ (fun g hg => by omega), h.2.imp fun u x hx => hA _ _ _ _ _ _ hx fun g hg _ => ⟨by omega, rfl⟩⟩

theorem kept_grown {b : Nat} {w0 wa w2 : World} {o : Option Nat} (hk : Kept b w0 wa) (hg : wa.grownBy w2 o) (ho : ∀ k, o = some k → w0.heap.size ≤ k) : Kept b w0 w2 :=
  ⟨hg.os.trans hk.os, hg.tape.trans hk.tape, hg.output.trans hk.output, Nat.le_trans hk.size hg.size, fun k hlt hb => (hg.block k (Nat.lt_of_lt_of_le hlt hk.size) (fun e => by have := ho k e.symm; omega)).trans (hk.block k hlt hb)⟩

theorem rdr_grown {b bp cap T z : Nat} {ps : List Tok} {q : RS} {wa w2 : World} {o : Option Nat} (h : Rdr wa b bp cap T ps q) (hg : wa.grownBy w2 o) (ho : ∀ k, o = some k → z ≤ k) (hb : b < z) (hp : bp < z) : Rdr w2 b bp cap T ps q := by
  have hfar := h.far
  have keep : ∀ k, k < wa.heap.size → k < z → w2.heap[k]? = wa.heap[k]? := fun k h1 h2 => hg.block k h1 (fun e => by have := ho k e.symm; omega)
  refine ⟨by rw [keep b h.bsize hb]; exact h.blk, ?_, h.ne, Nat.lt_of_lt_of_le h.lt hg.size, h.nx, h.len, h.dp, h.tab.same (fun g hgs hlt => keep g hgs (by omega)), h.far, h.fin⟩
  intro i hi
  have := h.row i hi
  have e := fun j => World.cell?_of_block (w := wa) (w' := w2) (a := ⟨bp, j, none⟩) (keep bp h.lt hp)
  simp only [e]
  exact this

theorem infoStmt : (Tryz.prog.info? 63).map (fun i => (i.zero, i.size, i.bytes)) = some (some (.agg #[.int .i64 0, .string ⟨#[]⟩, .string ⟨#[]⟩, .slice none 0 0, .slice none 0 0, .slice none 0 0, .slice none 0 0]), 7, 136) := by kernel_rfl

/-- what holds ahead of each round: the statements so far -/
structure BlkI (w : World) (b bp cap T : Nat) (ps : List Tok) (q : RS) (v : Value) (acc : List St) (n : Nat) (wr : World) : Prop where
  kp : Kept b w wr
  sz : w.heap.size < wr.heap.size
  cr : wr.heap[w.heap.size]? = some (.cells #[.pointer (some ⟨b, 0, none⟩)] 43 (0, 0))
  gr : ∃ vs, Grow AnS 63 7 (w.heap.size + 1) wr v vs acc
  rd : Rdr wr b bp cap T ps { q with next := n, depth := q.depth + 1 }

theorem stmt_one (a0 : Int) (s1 s2 : ByteArray) (a3 a4 a5 a6 : Option Addr) (l3 c3 l4 c4 l5 c5 l6 c6 : Nat) : ∀ u ∈ [Value.int .i64 a0, .string s1, .string s2, .slice a3 l3 c3, .slice a4 l4 c4, .slice a5 l5 c5, .slice a6 l6 c6], u.oneCell' = true := by
  intro u hu
  simp at hu
  rcases hu with rfl | rfl | rfl | rfl | rfl | rfl | rfl <;> rfl
end

section
open Go.RowKit
set_option linter.unusedSimpArgs false
set_option linter.unusedVariables false

set_option maxHeartbeats 3000000 in
theorem block_any {ps : List Tok} {M : Nat → Nat → R St} (hM : SaidSt ps M) (f : Nat) (hf : f ≤ 1000000) : SaidB ps (blockM ps M f) := by
  intro w b bp cap T q r h hr
  have hbs := h.bsize
  have hps := h.lt
  have hfar := h.far
  have hmf := mkf
  have h0 := h.below ((Below.refl w.heap.size w).alloc (Nat.le_refl _) (.cells #[.pointer (some ⟨b, 0, none⟩)] 43))
  have hx0 := heap_alloc_new w (.cells #[.pointer (some ⟨b, 0, none⟩)] 43)
  obtain ⟨i0, hi, hz0, hz1, hz2⟩ := info_parts infoStmt
  unfold blockM at hr
  go_enter_defers Tryz.func44, Tryz.ntmps44
  go_wp2_with fail
  rcases bindR_some hr with ⟨k, h1, rfl⟩ | ⟨u, n1, h1, h2⟩
  · rcases needM_some h1 with ⟨hT, h3⟩ | ⟨hT, h3⟩
    · cases h3
    · cases h3
      refine (mark_no _ _ _ _ _ _ _ _ h0 hT).mono ?_
      rintro e w1 ⟨rfl, hR, k1⟩
      go_wp2_with fail
      exact ⟨_, results_tmp2 Tryz.results44 _ _ _, ((Kept.refl _ _).alloc _).trans k1, _, _, _, _, rfl, hR⟩
  · rcases needM_some h1 with ⟨hT, h3⟩ | ⟨hT, h3⟩
    · cases h3
      refine (mark_yes _ _ _ _ _ _ _ _ h0 hT).mono ?_
      rintro e w1 ⟨rfl, hR1, k1⟩
      have hs1 := k1.size
      simp at hs1
      have hx1 := (k1.block w.heap.size (by simp) (by omega)).trans hx0
      have cb1 : w1.cell? ⟨w.heap.size, 0, none⟩ = some (.pointer (some ⟨b, 0, none⟩)) := by simp [World.cell?, hx1]
      have kw1 : Kept b w w1 := ((Kept.refl b w).alloc _).trans k1
      go_wp2_with fail
      by_cases hd : 30 ≤ q.depth
      · rw [if_pos hd] at h2
        cases h2
        refine (enter_no _ _ _ _ _ _ _ hR1 hd).mono ?_
        rintro e w2 ⟨rfl, hR, k2⟩
        go_wp2_with fail
        exact ⟨_, results_tmp2 Tryz.results44 _ _ _, kw1.trans k2, _, _, _, _, rfl, hR⟩
      · rw [if_neg hd] at h2
        refine (enter_yes _ _ _ _ _ _ _ hR1 (by simp; omega)).mono ?_
        rintro e w2 ⟨rfl, hR2, k2⟩
        have hs2 := k2.size
        have hx2 := (k2.block w.heap.size (by omega) (by omega)).trans hx1
        have cb2 : w2.cell? ⟨w.heap.size, 0, none⟩ = some (.pointer (some ⟨b, 0, none⟩)) := by simp [World.cell?, hx2]
        have hI : BlkI w b bp cap T ps q (.slice none 0 0) [] (q.next + 1) w2 := ⟨kw1.trans k2, by omega, hx2, ⟨[], Grow.nil _ _ _ _ _⟩, hR2⟩
        clear hx2 hx1 hx0 h0 hR1 hR2
        go_wp2_with fail
        go_loopg [4] f (fun g s4 wr => ∃ acc n, BlkI w b bp cap T ps q s4 acc n wr ∧ acc.length + g ≤ f ∧ stmtsLoop ps (M (q.depth + 1)) g acc n = some r)
        case atStart => exact ⟨[], _, hI, by simp, h2⟩
        case round =>
          clear hI h2
          obtain ⟨acc, n, hI, hlen, hl⟩ := hrel
          obtain ⟨vs, hgr⟩ := hI.gr
          obtain ⟨av, cv, rfl⟩ := hgr.slice
          have hsz := hI.sz
          have hcr := hI.cr
          have hR := hI.rd
          have kp := hI.kp
          have cb : wr.cell? ⟨w.heap.size, 0, none⟩ = some (.pointer (some ⟨b, 0, none⟩)) := by simp [World.cell?, hcr]
          clear hI
          cases gk with
          | zero => cases hl
          | succ g =>
            simp only [stmtsLoop] at hl
            by_cases hT : isT (cur ps n) 5 [125] = true
            · rw [if_pos hT] at hl
              cases hl
              go_wp2_with fail
              refine (skip_yes _ _ _ _ _ _ _ _ _ hR rfl hT).mono ?_
              rintro e w5 ⟨rfl, hR5, k5⟩
              have hs5 := k5.size
              have hcr5 := (k5.block w.heap.size (by omega) (by omega)).trans hcr
              have cb5 : w5.cell? ⟨w.heap.size, 0, none⟩ = some (.pointer (some ⟨b, 0, none⟩)) := by simp [World.cell?, hcr5]
              have HG : Hid (Row (fun g => w.heap.size ≤ g) w5 (AnS (fun g => w.heap.size ≤ g) w5) (.slice av acc.length cv) acc) := (hgr.kept moves_AnS k5 (by omega)).row moves_AnS (by omega)
              clear hgr
              go_wp2_with fail
              refine leaves_cons (f := 63) (args := #[.pointer (some ⟨w.heap.size, 0, none⟩)]) (by simp) (by simp [go_sem]) ?_
              refine (leave_block _ b bp cap T w.heap.size ps _ .returning hR5 cb5 (by simp)).mono ?_
              rintro e u' w6 ⟨rfl, rfl, hR6, k6⟩
              exact ⟨_, results_tmp2 Tryz.results44 _ _ _, (kp.trans k5).trans k6, _, _, rfl, RowS.own HG.out k6 (fun g hg => by omega), (by simpa using hR6)⟩
            · rw [if_neg hT] at hl
              have hT' : isT (cur ps n) 5 [125] = false := by simpa using hT
              clear hT
              go_wp2_with fail
              refine (skip_no _ _ _ _ _ _ _ _ _ hR hT').mono ?_
              rintro e w5 ⟨rfl, hR5, k5⟩
              have hs5 := k5.size
              have hcr5 := (k5.block w.heap.size (by omega) (by omega)).trans hcr
              have cb5 : w5.cell? ⟨w.heap.size, 0, none⟩ = some (.pointer (some ⟨b, 0, none⟩)) := by simp [World.cell?, hcr5]
              have hgr5 := hgr.kept moves_AnS k5 (by omega)
              have kp5 := kp.trans k5
              clear hgr hR cb hcr
              go_wp2_with fail
              rcases bindR_some hl with ⟨k, h5, rfl⟩ | ⟨x, n5, h5, h6⟩
              · refine (hM _ _ _ _ _ _ _ hR5 h5).mono ?_
                rintro e w6 ⟨k6, v, n', ⟨v0, v1, v2, a3, l3, c3, a4, l4, c4, a5, l5, c5, a6, l6, c6, rfl⟩, rfl, hR6⟩
                have hs6 := k6.size
                have hcr6 := (k6.block w.heap.size (by omega) (by omega)).trans hcr5
                have cb6 : w6.cell? ⟨w.heap.size, 0, none⟩ = some (.pointer (some ⟨b, 0, none⟩)) := by simp [World.cell?, hcr6]
                clear hgr5
                go_wp2_with fail
                have kx : Kept b w6 (w6.alloc (.cells #[.int .i64 v0, .string v1, .string v2, .slice a3 l3 c3, .slice a4 l4 c4, .slice a5 l5 c5, .slice a6 l6 c6] 63)) := (Kept.refl b w6).alloc _
                refine leaves_cons (f := 63) (args := #[.pointer (some ⟨w.heap.size, 0, none⟩)]) (by simp) (by simp [go_sem]) ?_
                refine (leave_block _ b bp cap T w.heap.size ps _ .returning (hR6.below ((Below.refl _ _).alloc (Nat.le_refl _) _)) ((kx.cell w.heap.size 0 (by omega) (by omega)).trans cb6) (by simp)).mono ?_
                rintro e u' w7 ⟨rfl, rfl, hR7, k7⟩
                exact ⟨_, results_tmp2 Tryz.results44 _ _ _, kp5.trans (k6.trans (kx.trans k7)), _, _, _, _, rfl, (by simpa using hR7)⟩
              · refine (hM _ _ _ _ _ _ _ hR5 h5).mono ?_
                rintro e w6 ⟨k6, v, rfl, hA, hR6⟩
                obtain ⟨v0, v1, v2, a3, l3, c3, a4, l4, c4, a5, l5, c5, a6, l6, c6, rfl⟩ := hA.sh
                have hs6 := k6.size
                have hcr6 := (k6.block w.heap.size (by omega) (by omega)).trans hcr5
                have hgr6 := hgr5.kept moves_AnS k6 (by omega)
                have HV : Hid (∀ k, (Value.slice av acc.length cv).ownBlock = some k → w.heap.size + 1 ≤ k ∧ k < w5.heap.size) := hgr5.1.lt
                have HGR : Hid (Grow AnS 63 7 (w.heap.size + 1) w6 (.slice av acc.length cv) vs acc) := hgr6
                have HA : Hid (AnS (fun g => w5.heap.size ≤ g) w6 (.agg #[.int .i64 v0, .string v1, .string v2, .slice a3 l3 c3, .slice a4 l4 c4, .slice a5 l5 c5, .slice a6 l6 c6]) x) := hA
                have HO : Hid (((w6.alloc (.cells #[.int .i64 v0, .string v1, .string v2, .slice a3 l3 c3, .slice a4 l4 c4, .slice a5 l5 c5, .slice a6 l6 c6] 63)).alloc (.cells #[.int .i64 v0, .string v1, .string v2, .slice a3 l3 c3, .slice a4 l4 c4, .slice a5 l5 c5, .slice a6 l6 c6] 63)).ownsRow (w.heap.size + 1) 63 7 (.slice av acc.length cv) acc.length (flat vs)) := (hgr6.1.alloc _).alloc _
                have HN : Hid (∀ j u, [Value.int .i64 v0, .string v1, .string v2, .slice a3 l3 c3, .slice a4 l4 c4, .slice a5 l5 c5, .slice a6 l6 c6][j]? = some u → ((w6.alloc (.cells #[.int .i64 v0, .string v1, .string v2, .slice a3 l3 c3, .slice a4 l4 c4, .slice a5 l5 c5, .slice a6 l6 c6] 63)).alloc (.cells #[.int .i64 v0, .string v1, .string v2, .slice a3 l3 c3, .slice a4 l4 c4, .slice a5 l5 c5, .slice a6 l6 c6] 63)).cell? ((⟨w6.heap.size + 1, 0, none⟩ : Addr).add j) = some u) :=
                  World.news_of_block (B := w6.heap.size + 1) (cs := #[.int .i64 v0, .string v1, .string v2, .slice a3 l3 c3, .slice a4 l4 c4, .slice a5 l5 c5, .slice a6 l6 c6]) (heap_alloc2 w6 _ _).2
                clear hgr5 hgr6 hA
                have hm63 : acc.length + 1 ≤ maxLen := by unfold maxLen; omega
                go_wp2_with (at_builtin; refine wpList_append_lies _ rfl _ _ 31 (by rfl) (w.heap.size + 1) 63 i0 _ 7 136 Tryz.underlying31 hi hz0 hz1 hz2 rfl (by decide) (.slice av acc.length cv) acc.length (flat vs) (by rfl) HO.out ⟨w6.heap.size + 1, 0, none⟩ 1 1 [.int .i64 v0, .string v1, .string v2, .slice a3 l3 c3, .slice a4 l4 c4, .slice a5 l5 c5, .slice a6 l6 c6] (by rfl) rfl HN.out (stmt_one _ _ _ _ _ _ _ _ _ _ _ _ _ _ _) (by decide) hm63 (by omega) (by simp; omega) (w6.heap.size + 2) (by simp) ?_)
                intro gg cp w8 hown8 hgrow8 hat8 hlt8
                have HO8 : Hid (_) := hown8
                have HG8 : Hid (_) := hgrow8
                have HA8 : Hid (_) := hat8
                clear hown8 hgrow8 hat8
                go_wp2_with fail
                go_roundg g
                case measure => omega
                case rel =>
                  have hv := HV.out
                  have ka : Kept b w6 ((w6.alloc (.cells #[.int .i64 v0, .string v1, .string v2, .slice a3 l3 c3, .slice a4 l4 c4, .slice a5 l5 c5, .slice a6 l6 c6] 63)).alloc (.cells #[.int .i64 v0, .string v1, .string v2, .slice a3 l3 c3, .slice a4 l4 c4, .slice a5 l5 c5, .slice a6 l6 c6] 63)) := ((Kept.refl b w6).alloc _).alloc _
                  have hsg := HG8.out.size
                  simp at hsg
                  have k8 := kept_grown (((kp5.trans k6).trans ka)) HG8.out (fun k e => by have := hv k e; omega)
                  refine ⟨acc ++ [x], n5, ⟨k8, by omega, ?_, ⟨_, HGR.out.snoc (z := w5.heap.size) (ys := [.int .i64 v0, .string v1, .string v2, .slice a3 l3 c3, .slice a4 l4 c4, .slice a5 l5 c5, .slice a6 l6 c6]) moves_AnS HA.out (by omega) (fun k e => (hv k e).2) (by simp [flat, Value.cells]) (fun k hk => (Below.heap_alloc _ _ _ (by simp; omega)).trans (Below.heap_alloc _ _ _ hk)) (by simp; omega) HG8.out (by simpa using HA8.out) HO8.out⟩, ?_⟩, by simp; omega, h6⟩
                  · rw [HG8.out.block w.heap.size (by simp; omega) (fun e => by have := hv _ e.symm; omega)]
                    exact blk_alloc (blk_alloc hcr6 _) _
                  · exact rdr_grown (z := w.heap.size) (hR6.below (((Below.refl _ _).alloc (Nat.le_refl _) _).alloc (by simp) _)) HG8.out (fun k e => by have := hv k e; omega) hbs hps
    · cases h3
end

section
open Go.RowKit
set_option linter.unusedSimpArgs false
set_option linter.unusedVariables false

def IsP (_ : Nat → Prop) (_ : World) (v : Value) (x : List UInt8 × Int) : Prop := v = .agg #[.string ⟨x.1.toArray⟩, .int .i64 x.2]

theorem moves_IsP : Moves IsP := fun _ _ _ _ _ _ h _ => h

theorem infoParam : (Tryz.prog.info? 84).map (fun i => (i.zero, i.size, i.bytes)) = some (some (.agg #[.string ⟨#[]⟩, .int .i64 0]), 2, 24) := by kernel_rfl

def paramM (ps : List Tok) (n : Nat) : R (List UInt8 × Int) :=
  bindR (nameM ps n) fun s n1 => if ((typeP (cur ps n1) n1).1 : Int) == 0 then badR (refuseM ps (typeP (cur ps n1) n1).2) else okR (s, ((typeP (cur ps n1) n1).1 : Int)) (typeP (cur ps n1) n1).2

structure ParI (w0 : World) (b : Nat) (w : World) (xs : List (List UInt8 × Int)) : Prop where
  kp : Kept b w0 w
  sz : w0.heap.size + 2 ≤ w.heap.size
  cr : w.heap[w0.heap.size]? = some (.cells #[.pointer (some ⟨b, 0, none⟩)] 43 (0, 0))
  ca : ∃ v vs, w.heap[w0.heap.size + 1]? = some (.cells #[v] 30 (0, 0)) ∧ Grow IsP 84 2 (w0.heap.size + 2) w v vs xs

structure ParB (w0 : World) (b : Nat) (w : World) : Prop where
  kp : Kept b w0 w
  sz : w0.heap.size + 2 ≤ w.heap.size
  ca : ∃ a l c, w.heap[w0.heap.size + 1]? = some (.cells #[.slice a l c] 30 (0, 0))

theorem ParI.kept {w0 w w' : World} {b : Nat} {xs : List (List UInt8 × Int)} (hb : b < w0.heap.size) (h : ParI w0 b w xs) (k : Kept b w w') : ParI w0 b w' xs := by
  have hs := h.sz
  obtain ⟨v, vs, h1, h2⟩ := h.ca
  exact ⟨h.kp.trans k, Nat.le_trans h.sz k.size, by rw [k.block _ (by omega) (by omega)]; exact h.cr, v, vs, by rw [k.block _ (by omega) (by omega)]; exact h1, h2.kept moves_IsP k (by omega)⟩

theorem ParI.bad {w0 w : World} {b : Nat} {xs : List (List UInt8 × Int)} (h : ParI w0 b w xs) : ParB w0 b w := by
  obtain ⟨v, vs, h1, h2⟩ := h.ca
  obtain ⟨a, c, rfl⟩ := h2.slice
  exact ⟨h.kp, h.sz, _, _, _, h1⟩

theorem param_one (s : ByteArray) (t : Int) : ∀ u ∈ [Value.string s, .int .i64 t], u.oneCell' = true := by
  intro u hu
  simp at hu
  rcases hu with rfl | rfl <;> rfl

set_option maxHeartbeats 2000000 in
theorem parItem (w0 w : World) (b bp cap T : Nat) (ps : List Tok) (q : RS) (xs : List (List UInt8 × Int)) (hxl : xs.length < 1000000) (hb0 : b < w0.heap.size) (hp0 : bp < w0.heap.size)
    (h : Rdr w b bp cap T ps q) (hI : ParI w0 b w xs) (r : Sum (Int × Int) ((List UInt8 × Int) × Nat)) (hr : paramM ps q.next = some r) :
    Calls Tryz.prog 60 #[.pointer (some ⟨w0.heap.size, 0, none⟩), .pointer (some ⟨w0.heap.size + 1, 0, none⟩)] w (ItemPost b bp cap T ps q (ParI w0 b) (ParB w0 b) xs r) := by
  obtain ⟨i0, hi, hz0, hz1, hz2⟩ := info_parts infoParam
  have cr : w.cell? ⟨w0.heap.size, 0, none⟩ = some (.pointer (some ⟨b, 0, none⟩)) := by simp [World.cell?, hI.cr]
  have hsz0 := hI.sz
  unfold paramM at hr
  go_enter Tryz.func60, Tryz.ntmps60
  go_wp2_with fail
  rcases bindR_some hr with ⟨k, h4, rfl⟩ | ⟨nm, n2, h4, h5⟩
  · rcases nameM_some h4 with ⟨hN, h6⟩ | ⟨hN, h6⟩
    · cases h6
    · cases h6
      refine (name_no _ _ _ _ _ _ _ h hN).mono ?_
      rintro e w1 ⟨rfl, hR, k1⟩
      go_wp2_with fail
      go_ret
      exact ⟨rfl, _, hR, (hI.kept hb0 k1).bad⟩
  · rcases nameM_some h4 with ⟨hN, h6⟩ | ⟨hN, h6⟩
    · cases h6
      refine (name_yes _ _ _ _ _ _ _ h hN).mono ?_
      rintro e w1 ⟨rfl, hR1, k1⟩
      have hI1 := hI.kept hb0 k1
      have cr1 : w1.cell? ⟨w0.heap.size, 0, none⟩ = some (.pointer (some ⟨b, 0, none⟩)) := by simp [World.cell?, hI1.cr]
      go_wp2_with fail
      refine (skipType_any _ _ _ _ _ _ _ hR1).mono ?_
      generalize hty : typeP (cur ps (q.next + 1)) (q.next + 1) = ty at h5 ⊢
      obtain ⟨t, n3⟩ := ty
      rintro e w2 ⟨rfl, hR2, k2⟩
      have hI2 := hI1.kept hb0 k2
      have cr2 : w2.cell? ⟨w0.heap.size, 0, none⟩ = some (.pointer (some ⟨b, 0, none⟩)) := by simp [World.cell?, hI2.cr]
      simp only at h5 hR2 ⊢
      by_cases hT : ((t : Int) == 0) = true
      · rw [if_pos hT] at h5
        cases h5
        go_wp2_with fail
        refine (refuse_any _ _ _ _ _ _ _ hR2).mono ?_
        rintro e w3 ⟨rfl, hR3, k3⟩
        go_wp2_with fail
        go_ret
        exact ⟨rfl, _, hR3, (hI2.kept hb0 k3).bad⟩
      · rw [if_neg hT] at h5
        have hT' : ((t : Int) == 0) = false := by simpa using hT
        clear hT
        cases h5
        obtain ⟨v, vs, hca, hgr⟩ := hI2.ca
        obtain ⟨av, cv, rfl⟩ := hgr.slice
        have hs2 := hI2.sz
        have c1 : w2.cell? ⟨w0.heap.size + 1, 0, none⟩ = some (.slice av xs.length cv) := by simp [World.cell?, hca]
        have HV : Hid (∀ k, (Value.slice av xs.length cv).ownBlock = some k → w0.heap.size + 2 ≤ k ∧ k < w2.heap.size) := hgr.1.lt
        have HGR : Hid (Grow IsP 84 2 (w0.heap.size + 2) w2 (.slice av xs.length cv) vs xs) := hgr
        have HO : Hid ((w2.alloc (.cells #[.string ⟨(cur ps q.next).s.toArray⟩, .int .i64 t] 84)).ownsRow (w0.heap.size + 2) 84 2 (.slice av xs.length cv) xs.length (flat vs)) := hgr.1.alloc _
        have HN : Hid (∀ j u, [Value.string ⟨(cur ps q.next).s.toArray⟩, .int .i64 t][j]? = some u → (w2.alloc (.cells #[.string ⟨(cur ps q.next).s.toArray⟩, .int .i64 t] 84)).cell? ((⟨w2.heap.size, 0, none⟩ : Addr).add j) = some u) :=
          World.news_of_block (B := w2.heap.size) (cs := #[.string ⟨(cur ps q.next).s.toArray⟩, .int .i64 t]) (heap_alloc_new w2 _)
        have hm63 : xs.length + 1 ≤ maxLen := by unfold maxLen; omega
        clear hgr
        go_wp2_with (at_builtin; refine wpList_append_lies _ rfl _ _ 30 (by rfl) (w0.heap.size + 2) 84 i0 _ 2 24 Tryz.underlying30 hi hz0 hz1 hz2 rfl (by decide) (.slice av xs.length cv) xs.length (flat vs) (by rfl) HO.out ⟨w2.heap.size, 0, none⟩ 1 1 [.string ⟨(cur ps q.next).s.toArray⟩, .int .i64 t] (by rfl) rfl HN.out (param_one _ _) (by decide) hm63 (by omega) (by simp; omega) (w2.heap.size + 1) (by simp) ?_)
        intro gg cp w8 hown8 hgrow8 hat8 hlt8
        have hv := HV.out
        have hca8 : w8.heap[w0.heap.size + 1]? = some (.cells #[.slice av xs.length cv] 30 (0, 0)) := (hgrow8.block (w0.heap.size + 1) (by simp; omega) (fun e => by have := hv _ e.symm; omega)).trans (blk_alloc hca _)
        have c8 : w8.cell? ⟨w0.heap.size + 1, 0, none⟩ = some (.slice av xs.length cv) := by simp [World.cell?, hca8]
        have z8 := thaw4 hca8 0
        have HO8 : Hid (_) := hown8
        have HG8 : Hid (_) := hgrow8
        have HA8 : Hid (_) := hat8
        clear hown8 hgrow8 hat8 hv
        go_wp2_with fail
        go_ret
        have hv := HV.out
        have hsg := HG8.out.size
        simp at hsg
        have hgg : w0.heap.size + 2 ≤ gg := by
          rcases HA8.out with e | e
          · have := hv _ e; omega
          · omega
        have ka : Kept b w2 (w2.alloc (.cells #[.string ⟨(cur ps q.next).s.toArray⟩, .int .i64 t] 84)) := (Kept.refl b w2).alloc _
        have k8 := kept_grown (hI2.kp.trans ka) HG8.out (fun k e => by have := hv k e; omega)
        have kx : Kept (w0.heap.size + 1) w8 (w8.setCell ⟨w0.heap.size + 1, 0, none⟩ (.slice (some ⟨gg, 0, none⟩) (xs.length + 1) cp)) := (Kept.refl _ _).setCell _ _
        have hR8 := rdr_grown (z := w0.heap.size) (hR2.below ((Below.refl _ _).alloc (Nat.le_refl _) _)) HG8.out (fun k e => by have := hv k e; omega) hb0 hp0
        have hfar := hR8.far
        have hgr8 := HGR.out.snoc (z := w2.heap.size) (ys := [.string ⟨(cur ps q.next).s.toArray⟩, .int .i64 t]) (x := ((cur ps q.next).s, (t : Int))) moves_IsP rfl (by omega) (fun k e => (hv k e).2) (by simp [flat, Value.cells]) (fun k hk => Below.heap_alloc _ _ _ hk) (by simp) HG8.out (by simpa using HA8.out) HO8.out
        refine ⟨rfl, hR8.own kx (by omega) (by omega) (by omega), k8.own kx (by omega), by rw [size_set]; omega, ?_, ?_⟩
        · rw [kx.block w0.heap.size (by omega) (by omega), HG8.out.block w0.heap.size (by simp; omega) (fun e => by have := hv _ e.symm; omega)]
          exact blk_alloc hI2.cr _
        · exact ⟨_, _, heap_setCell_same hca8 _, by simpa using hgr8.kept moves_IsP kx (by omega)⟩
    · cases h6

theorem callPar (caps : Array Value) (w : World) : (callFunc 60 caps).run Tryz.prog w = .ok (.enter 60 caps) w := by kernel_rfl

theorem parStart (w : World) (b : Nat) : ParI w b ((w.alloc (.cells #[.pointer (some ⟨b, 0, none⟩)] 43)).alloc (.cells #[.slice none 0 0] 30)) [] :=
  ⟨((Kept.refl _ _).alloc _).alloc _, by simp, (heap_alloc2 w _ _).1, _, [], (heap_alloc2 w _ _).2, Grow.nil _ _ _ _ _⟩

/-- what a call that reads the parameters leaves -/
def PostP (b bp cap T : Nat) (ps : List Tok) (q : RS) (w : World) (r : Sum (Int × Int) (List (List UInt8 × Int) × Nat)) (e : Ending) (w' : World) : Prop :=
  Kept b w w' ∧ match r with
  | .inl k => ∃ a l c n', e = .returned (.tuple #[.slice a l c, .bool false]) ∧ Rdr w' b bp cap T ps ⟨n', q.depth, k.1, k.2⟩
  | .inr x => ∃ a c, e = .returned (.tuple #[.slice a x.1.length c, .bool true]) ∧ Row (fun g => w.heap.size ≤ g) w' (IsP (fun g => w.heap.size ≤ g) w') (.slice a x.1.length c) x.1 ∧ Rdr w' b bp cap T ps { q with next := x.2 }

set_option maxHeartbeats 1000000 in
theorem params_any {ps : List Tok} (w : World) (b bp cap T f : Nat) (hf : f ≤ 1000000) (q : RS) (r : Sum (Int × Int) (List (List UInt8 × Int) × Nat)) (h : Rdr w b bp cap T ps q)
    (hr : listM ps (paramM ps) f q.next = some r) :
    Calls Tryz.prog 42 #[.pointer (some ⟨b, 0, none⟩)] w (PostP b bp cap T ps q w r) := by
  have hbs := h.bsize
  have hps := h.lt
  have hfar := h.far
  have hmf := mkf
  go_enter Tryz.func42, Tryz.ntmps42
  go_wp2_with fail
  refine (listed_any b bp cap T q.depth f 60 _ (ParI w b) (ParB w b) (callPar _)
    (fun w' q' acc r' hl hd hR hI hi => parItem w w' b bp cap T ps q' acc (by omega) hbs hps hR hI r' hi)
    (fun w' w'' acc hI hk => hI.kept hbs hk) (fun w' acc hI => hI.bad) _ q r rfl (h.below (((Below.refl _ _).alloc (Nat.le_refl _) _).alloc (by simp) _)) (parStart w b) hr).mono ?_
  intro e w1 hP
  cases r with
  | inl k =>
    obtain ⟨rfl, n', h1, ⟨kp, hsz, a, l, c, hca⟩⟩ := hP
    have c1 : w1.cell? ⟨w.heap.size + 1, 0, none⟩ = some (.slice a l c) := by simp [World.cell?, hca]
    go_wp2_with fail
    go_ret2
    exact ⟨kp, a, l, c, n', rfl, h1⟩
  | inr x =>
    obtain ⟨rfl, h1, hI⟩ := hP
    obtain ⟨v, vs, hca, hgr⟩ := hI.ca
    obtain ⟨av, cv, rfl⟩ := hgr.slice
    have c1 : w1.cell? ⟨w.heap.size + 1, 0, none⟩ = some (.slice av x.1.length cv) := by simp [World.cell?, hca]
    go_wp2_with fail
    go_ret2
    exact ⟨hI.kp, av, cv, rfl, hgr.row moves_IsP (by omega), h1⟩
end

section
open Go.RowKit
set_option linter.unusedSimpArgs false
set_option linter.unusedVariables false

def IsFn (S : Nat → Prop) (w : World) (v : Value) (x : Fn') : Prop :=
  ∃ ap ab, v = .agg #[.string ⟨x.name.toArray⟩, ap, .int .i64 x.result, ab] ∧ Row S w (IsP S w) ap x.params ∧ Row S w (AnS S w) ab x.body

theorem moves_IsFn : Moves IsFn := by
  rintro S S' w w' v x ⟨ap, ab, hv, h1, h2⟩ k
  exact ⟨ap, ab, hv, h1.move k (fun _ _ h => h), h2.move k (fun _ _ h => h.move k)⟩

def ShF (v : Value) : Prop := ∃ s a l c i a' l' c', v = .agg #[.string s, .slice a l c, .int .i64 i, .slice a' l' c']

theorem IsFn.sh {S : Nat → Prop} {w : World} {v : Value} {x : Fn'} (h : IsFn S w v x) : ShF v := by
  obtain ⟨ap, ab, rfl, h1, h2⟩ := h
  obtain ⟨a, c, rfl⟩ := h1.slice
  obtain ⟨a', c', rfl⟩ := h2.slice
  exact ⟨_, _, _, _, _, _, _, _, rfl⟩

/-- what a call that reads a function leaves -/
def PostF (b bp cap T : Nat) (ps : List Tok) (q : RS) (w : World) (r : Sum (Int × Int) (Fn' × Nat)) (e : Ending) (w' : World) : Prop :=
  Kept b w w' ∧ match r with
  | .inl k => ∃ v n', ShF v ∧ e = .returned (.tuple #[v, .bool false]) ∧ Rdr w' b bp cap T ps ⟨n', q.depth, k.1, k.2⟩
  | .inr x => ∃ v, e = .returned (.tuple #[v, .bool true]) ∧ IsFn (fun g => w.heap.size ≤ g) w' v x.1 ∧ Rdr w' b bp cap T ps { q with next := x.2 }

def functionM (ps : List Tok) (B : Nat → Nat → R (List St)) (f d n : Nat) : R Fn' :=
  bindR (needM ps 2 [102, 117, 110, 99] n) fun _ n1 => bindR (nameM ps n1) fun s n2 => bindR (listM ps (paramM ps) f n2) fun l n3 =>
    if (l.length : Int) > 4 then badR ((cur ps n).at_, 10) else bindR (B d (typeP (cur ps n3) n3).2) fun body n5 => okR ⟨s, l, ((typeP (cur ps n3) n3).1 : Int), body⟩ n5

theorem fin_func {fn : Func} {Q : Ending → World → Prop} {a : Act} {w : World} {rt st x : Nat} {v0 v1 v2 v3 : Value} {ok : Bool} {T : TypeId} {f : Nat × Nat}
    (hres : fn.results = #[.cell rt 33, .tmp st]) (hp : a.tmps.getD rt undef = .pointer (some ⟨x, 0, none⟩)) (ho : a.tmps.getD st undef = .bool ok) (hd : a.defers = [])
    (hblk : w.heap[x]? = some (.cells #[v0, v1, v2, v3] T f)) (hQ : Q (.returned (.tuple #[.agg #[v0, v1, v2, v3], .bool ok])) w) : bodyPost Tryz.prog fn Q Exit.ret a w := by
  refine bodyPost_ret ?_ hd hQ
  obtain ⟨q0, q1, q2, q3⟩ := cells4 hblk
  simp only [Array.getD_eq_getD_getElem?] at hp ho
  simp [results, hres, hp, ho, go_sem, q0, q1, q2, q3]

theorem postF_bad {b bp cap T : Nat} {ps : List Tok} {q : RS} {w w2 W : World} {k : Int × Int} {n' x : Nat} {v0 : ByteArray} {v2 : Int} {a1 a3 : Option Addr} {l1 c1 l3 c3 : Nat} (h : Rdr w b bp cap T ps q)
    (kw : Kept b w w2) (kx : Kept x w2 W) (hx : w.heap.size ≤ x) (hR : Rdr w2 b bp cap T ps ⟨n', q.depth, k.1, k.2⟩) :
    PostF b bp cap T ps q w (.inl k) (.returned (.tuple #[.agg #[.string v0, .slice a1 l1 c1, .int .i64 v2, .slice a3 l3 c3], .bool false])) W := by
  have h1 := h.bsize; have h2 := h.lt; have h3 := h.far
  exact ⟨kw.own kx hx, _, n', ⟨_, _, _, _, _, _, _, _, rfl⟩, rfl, hR.own kx (by omega) (by omega) (by omega)⟩

set_option maxHeartbeats 3000000 in
theorem function_any {ps : List Tok} {B : Nat → Nat → R (List St)} (hB : SaidB ps B) (w : World) (b bp cap T f : Nat) (hf : f ≤ 1000000) (q : RS) (r : Sum (Int × Int) (Fn' × Nat)) (h : Rdr w b bp cap T ps q)
    (hr : functionM ps B f q.depth q.next = some r) :
    Calls Tryz.prog 19 #[.pointer (some ⟨b, 0, none⟩)] w (PostF b bp cap T ps q w r) := by
  have hbs := h.bsize
  have hps := h.lt
  have hfar := h.far
  have h0 := h.below (((Below.refl w.heap.size w).alloc (Nat.le_refl _) (.cells #[.string ⟨#[]⟩, .slice none 0 0, .int .i64 0, .slice none 0 0] 33)).alloc (by simp) (.cells #[.string ⟨#[]⟩, .slice none 0 0, .int .i64 0, .slice none 0 0] 33))
  have hx0 := (heap_alloc2 w (.cells #[.string ⟨#[]⟩, .slice none 0 0, .int .i64 0, .slice none 0 0] 33) (.cells #[.string ⟨#[]⟩, .slice none 0 0, .int .i64 0, .slice none 0 0] 33)).1
  have hy0 := (heap_alloc2 w (.cells #[.string ⟨#[]⟩, .slice none 0 0, .int .i64 0, .slice none 0 0] 33) (.cells #[.string ⟨#[]⟩, .slice none 0 0, .int .i64 0, .slice none 0 0] 33)).2
  unfold functionM at hr
  go_enter Tryz.func19, Tryz.ntmps19
  go_wp2_with fail
  refine (peek_any _ _ _ _ _ _ _ h0).mono ?_
  rintro e w1 ⟨rfl, hb1⟩
  unfold Tok.val
  have h1 := h0.below hb1
  have hs1 := hb1.size
  simp at hs1
  have hx1 := (hb1.block w.heap.size (by simp; omega)).trans hx0
  have hy1 := (hb1.block (w.heap.size + 1) (by simp)).trans hy0
  have kw1 : Kept b w w1 := (((Kept.refl b w).alloc (.cells #[.string ⟨#[]⟩, .slice none 0 0, .int .i64 0, .slice none 0 0] 33)).alloc (.cells #[.string ⟨#[]⟩, .slice none 0 0, .int .i64 0, .slice none 0 0] 33)).trans (Kept.of_below hb1)
  clear h0 hx0 hy0 hb1
  go_wp2_with fail
  rcases bindR_some hr with ⟨k, g1, rfl⟩ | ⟨u, n1, g1, g2⟩
  · rcases needM_some g1 with ⟨hT, h3⟩ | ⟨hT, h3⟩
    · cases h3
    · cases h3
      refine (keyword_no _ _ _ _ _ _ _ _ h1 hT).mono ?_
      rintro e w2 ⟨rfl, hR, k2⟩
      have hblk := (k2.block w.heap.size (by omega) (by omega)).trans hx1
      have hc := cells4 hblk
      have hz := thaw4 hblk
      go_wp2_with fail
      exact fin_func Tryz.results19 rfl rfl rfl (store4 hblk _ _ _ _) (postF_bad h (kw1.trans k2) (kept4 _ _ _ _ _ _) (Nat.le_refl _) hR)
  · rcases needM_some g1 with ⟨hT, h3⟩ | ⟨hT, h3⟩
    · cases h3
      refine (keyword_yes _ _ _ _ _ _ _ _ h1 hT).mono ?_
      rintro e w2 ⟨rfl, hR2, k2⟩
      have hs2 := k2.size
      have hx2 := (k2.block w.heap.size (by omega) (by omega)).trans hx1
      have hy2 := (k2.block (w.heap.size + 1) (by omega) (by omega)).trans hy1
      have kw2 := kw1.trans k2
      clear h1 hx1 hy1
      go_wp2_with fail
      rcases bindR_some g2 with ⟨k, g3, rfl⟩ | ⟨nm, n2, g3, g4⟩
      · rcases nameM_some g3 with ⟨hN, h6⟩ | ⟨hN, h6⟩
        · cases h6
        · cases h6
          refine (name_no _ _ _ _ _ _ _ hR2 hN).mono ?_
          rintro e w3 ⟨rfl, hR3, k3⟩
          have hs3 := k3.size
          have hx3 := (k3.block w.heap.size (by omega) (by omega)).trans hx2
          have hy3 := (k3.block (w.heap.size + 1) (by omega) (by omega)).trans hy2
          have hcx := cells4 hx3
          have hzx := thaw4 hx3
          have hcy := cells4 hy3
          have hzy := thaw4 hy3
          have kZ : Kept (w.heap.size + 1) w3 (w3.setCell ⟨w.heap.size + 1, 0, none⟩ (.string ⟨#[]⟩)) := (Kept.refl _ _).setCell _ _
          go_wp2_with fail
          exact fin_func Tryz.results19 rfl rfl rfl (store4 ((kZ.block _ (by omega) (by omega)).trans hx3) _ _ _ _) (postF_bad h ((kw2.trans k3).own kZ (by omega)) (kept4 _ _ _ _ _ _) (Nat.le_refl _) (hR3.own kZ (by omega) (by omega) (by omega)))
      · rcases nameM_some g3 with ⟨hN, h6⟩ | ⟨hN, h6⟩
        · cases h6
          refine (name_yes _ _ _ _ _ _ _ hR2 hN).mono ?_
          rintro e w3 ⟨rfl, hR3, k3⟩
          have hs3 := k3.size
          have hx3 := (k3.block w.heap.size (by omega) (by omega)).trans hx2
          have hy3 := (k3.block (w.heap.size + 1) (by omega) (by omega)).trans hy2
          have hcy := cells4 hy3
          have hzy := thaw4 hy3
          have kZ : Kept (w.heap.size + 1) w3 (w3.setCell ⟨w.heap.size + 1, 0, none⟩ (.string ⟨(cur ps (q.next + 1)).s.toArray⟩)) := (Kept.refl _ _).setCell _ _
          have hx4 := (kZ.block _ (by omega) (by omega)).trans hx3
          have hy4 := heap_setCell_same (o := 0) hy3 (.string ⟨(cur ps (q.next + 1)).s.toArray⟩)
          have kw4 := (kw2.trans k3).own kZ (by omega)
          have hR4 := hR3.own kZ (by omega) (by omega) (by omega)
          have hs4 := kZ.size
          go_wp2_with fail
          generalize w3.setCell ⟨w.heap.size + 1, 0, none⟩ (.string ⟨(cur ps (q.next + 1)).s.toArray⟩) = w4 at *
          simp at hy4
          clear hcy hzy hy3 hx3 hx2 hy2 hR2 hR3
          rcases bindR_some g4 with ⟨k, g5, rfl⟩ | ⟨l, n3, g5, g6⟩
          · refine (params_any _ b bp cap T f hf _ _ hR4 g5).mono ?_
            rintro e w5 ⟨k5, a, l, c, n', rfl, hR5⟩
            have hs5 := k5.size
            have hx5 := (k5.block w.heap.size (by omega) (by omega)).trans hx4
            have hy5 := (k5.block (w.heap.size + 1) (by omega) (by omega)).trans hy4
            have hcx := cells4 hx5
            have hzx := thaw4 hx5
            have hcy := cells4 hy5
            have hzy := thaw4 hy5
            have kY : Kept (w.heap.size + 1) w5 (w5.setCell ⟨w.heap.size + 1, 1, none⟩ (.slice a l c)) := (Kept.refl _ _).setCell _ _
            go_wp2_with fail
            exact fin_func Tryz.results19 rfl rfl rfl (store4 ((kY.block _ (by omega) (by omega)).trans hx5) _ _ _ _) (postF_bad h ((kw4.trans k5).own kY (by omega)) (kept4 _ _ _ _ _ _) (Nat.le_refl _) (hR5.own kY (by omega) (by omega) (by omega)))
          · refine (params_any _ b bp cap T f hf _ _ hR4 g5).mono ?_
            rintro e w5 ⟨k5, a, c, rfl, hrow, hR5⟩
            have hs5 := k5.size
            have hx5 := (k5.block w.heap.size (by omega) (by omega)).trans hx4
            have hy5 := (k5.block (w.heap.size + 1) (by omega) (by omega)).trans hy4
            have hcy := cells4 hy5
            have hzy := thaw4 hy5
            have kY : Kept (w.heap.size + 1) w5 (w5.setCell ⟨w.heap.size + 1, 1, none⟩ (.slice a l.length c)) := (Kept.refl _ _).setCell _ _
            have hx6 := (kY.block _ (by omega) (by omega)).trans hx5
            have hy6 := heap_setCell_same (o := 1) hy5 (.slice a l.length c)
            have kw6 := (kw4.trans k5).own kY (by omega)
            have hR6 := hR5.own kY (by omega) (by omega) (by omega)
            have hs6 := kY.size
            have HR6 : Hid (Row (fun g => w4.heap.size ≤ g) (w5.setCell ⟨w.heap.size + 1, 1, none⟩ (.slice a l.length c)) (IsP (fun g => w4.heap.size ≤ g) w5) (.slice a l.length c) l) := hrow.own kY (fun g hg => ⟨by omega, hg⟩) (fun _ _ h => h)
            clear hrow
            by_cases hlen : (l.length : Int) > 4
            · rw [if_pos hlen] at g6
              cases g6
              have hlb : decide ((4 : Int) < (l.length : Int)) = true := by simpa using hlen
              go_wp2_with fail
              refine (fail_any _ _ _ _ _ _ _ _ _ hR6).mono ?_
              rintro e w7 ⟨rfl, hR7, k7⟩
              have hs7 := k7.size
              have hx7 := (k7.block w.heap.size (by omega) (by omega)).trans hx6
              have hcx := cells4 hx7
              have hzx := thaw4 hx7
              go_wp2_with fail
              exact fin_func Tryz.results19 rfl rfl rfl (store4 hx7 _ _ _ _) (postF_bad h (kw6.trans k7) (kept4 _ _ _ _ _ _) (Nat.le_refl _) hR7)
            · rw [if_neg hlen] at g6
              have hlb : decide ((4 : Int) < (l.length : Int)) = false := by simpa using hlen
              have hlb2 : (l.length : Int) ≤ 4 := by omega
              clear hlen
              go_wp2_with fail
              generalize w5.setCell ⟨w.heap.size + 1, 1, none⟩ (.slice a l.length c) = w6 at *
              simp at hy6
              clear hcy hzy hy5 hx5 hR5 hx4 hy4 hR4
              refine (skipType_any _ _ _ _ _ _ _ hR6).mono ?_
              generalize hty : typeP (cur ps n3) n3 = ty at g6 ⊢
              obtain ⟨t, n4⟩ := ty
              rintro e w7 ⟨rfl, hR7, k7⟩
              simp only at g6 hR7 ⊢
              have hs7 := k7.size
              have hx7 := (k7.block w.heap.size (by omega) (by omega)).trans hx6
              have hy7 := (k7.block (w.heap.size + 1) (by omega) (by omega)).trans hy6
              have hcy := cells4 hy7
              have hzy := thaw4 hy7
              have kX : Kept (w.heap.size + 1) w7 (w7.setCell ⟨w.heap.size + 1, 2, none⟩ (.int .i64 t)) := (Kept.refl _ _).setCell _ _
              have hx8 := (kX.block _ (by omega) (by omega)).trans hx7
              have hy8 := heap_setCell_same (o := 2) hy7 (.int .i64 t)
              have kw8 := (kw6.trans k7).own kX (by omega)
              have hR8 := hR7.own kX (by omega) (by omega) (by omega)
              have hs8 := kX.size
              have HR8 : Hid (Row (fun g => w4.heap.size ≤ g) (w7.setCell ⟨w.heap.size + 1, 2, none⟩ (.int .i64 t)) (IsP (fun g => w4.heap.size ≤ g) w5) (.slice a l.length c) l) := (HR6.out.own (Q := IsP (fun g => w4.heap.size ≤ g) w5) k7 (fun g hg => ⟨by omega, hg⟩) (fun _ _ h => h)).own kX (fun g hg => ⟨by omega, hg⟩) (fun _ _ h => h)
              go_wp2_with fail
              generalize w7.setCell ⟨w.heap.size + 1, 2, none⟩ (.int .i64 t) = w8 at *
              simp at hy8
              clear hcy hzy hy7 hx7 hR7 hx6 hy6 hR6
              rcases bindR_some g6 with ⟨k, g7, rfl⟩ | ⟨body, n5, g7, g8⟩
              · refine (hB _ _ _ _ _ _ _ hR8 g7).mono ?_
                rintro e w9 ⟨k9, a', l', c', n', rfl, hR9⟩
                have hs9 := k9.size
                have hx9 := (k9.block w.heap.size (by omega) (by omega)).trans hx8
                have hy9 := (k9.block (w.heap.size + 1) (by omega) (by omega)).trans hy8
                have hcx := cells4 hx9
                have hzx := thaw4 hx9
                have hcy := cells4 hy9
                have hzy := thaw4 hy9
                have kV : Kept (w.heap.size + 1) w9 (w9.setCell ⟨w.heap.size + 1, 3, none⟩ (.slice a' l' c')) := (Kept.refl _ _).setCell _ _
                go_wp2_with fail
                exact fin_func Tryz.results19 rfl rfl rfl (store4 ((kV.block _ (by omega) (by omega)).trans hx9) _ _ _ _) (postF_bad h ((kw8.trans k9).own kV (by omega)) (kept4 _ _ _ _ _ _) (Nat.le_refl _) (hR9.own kV (by omega) (by omega) (by omega)))
              · cases g8
                refine (hB _ _ _ _ _ _ _ hR8 g7).mono ?_
                rintro e w9 ⟨k9, a', c', rfl, hrb, hR9⟩
                have hs9 := k9.size
                have hx9 := (k9.block w.heap.size (by omega) (by omega)).trans hx8
                have hy9 := (k9.block (w.heap.size + 1) (by omega) (by omega)).trans hy8
                have hcx := cells4 hx9
                have hzx := thaw4 hx9
                have hcy := cells4 hy9
                have hzy := thaw4 hy9
                have kV : Kept (w.heap.size + 1) w9 (w9.setCell ⟨w.heap.size + 1, 3, none⟩ (.slice a' body.length c')) := (Kept.refl _ _).setCell _ _
                have HB9 : Hid (Row (fun g => w8.heap.size ≤ g) w9 (AnS (fun g => w8.heap.size ≤ g) w9) (.slice a' body.length c') body) := hrb
                have HP9 : Hid (Row (fun g => w4.heap.size ≤ g) w9 (IsP (fun g => w4.heap.size ≤ g) w5) (.slice a l.length c) l) := HR8.out.own k9 (fun g hg => ⟨by omega, hg⟩) (fun _ _ h => h)
                clear hrb
                go_wp2_with fail
                have kS := kept4 w.heap.size (w9.setCell ⟨w.heap.size + 1, 3, none⟩ (.slice a' body.length c')) (.string ⟨(cur ps (q.next + 1)).s.toArray⟩) (.slice a l.length c) (.int .i64 t) (.slice a' body.length c')
                refine fin_func Tryz.results19 rfl rfl rfl (store4 ((kV.block _ (by omega) (by omega)).trans hx9) _ _ _ _) ⟨((kw8.trans k9).own kV (by omega)).own kS (Nat.le_refl _), _, rfl, ⟨_, _, rfl, ?_, ?_⟩, (hR9.own kV (by omega) (by omega) (by omega)).own kS (by omega) (by omega) (by omega)⟩
                · exact (HP9.out.own (S' := fun g => w4.heap.size ≤ g) (Q := IsP (fun g => w4.heap.size ≤ g) w5) kV (fun g hg => ⟨by omega, hg⟩) (fun _ _ h => h)).own kS (fun g hg => ⟨by omega, by omega⟩) (fun _ _ h => h)
                · exact (HB9.out.own (S' := fun g => w8.heap.size ≤ g) kV (fun g hg => ⟨by omega, hg⟩) (fun _ _ h => h.own kV (fun g hg => ⟨by omega, hg⟩))).own kS (fun g hg => ⟨by omega, by omega⟩) (fun _ _ h => h.own kS (fun g hg => ⟨by omega, by omega⟩))
        · cases h6
    · cases h3
end

section
open Go.RowKit
set_option linter.unusedSimpArgs false
set_option linter.unusedVariables false

def funcsLoop (ps : List Tok) (M : Nat → R Fn') : Nat → List Fn' → Nat → R (List Fn')
  | 0, _, _ => none
  | g + 1, acc, n => if (cur ps n).kind != 0 then bindR (M n) fun x n1 => if (acc.length : Int) == 20 then badR ((cur ps n).at_, 1) else funcsLoop ps M g (acc ++ [x]) n1 else okR acc n

theorem infoFunc : (Tryz.prog.info? 33).map (fun i => (i.zero, i.size, i.bytes)) = some (some (.agg #[.string ⟨#[]⟩, .slice none 0 0, .int .i64 0, .slice none 0 0]), 4, 72) := by kernel_rfl

/-- what a call that reads all functions leaves -/
def PostFs (b bp cap T : Nat) (ps : List Tok) (q : RS) (w : World) (r : Sum (Int × Int) (List Fn' × Nat)) (e : Ending) (w' : World) : Prop :=
  Kept b w w' ∧ match r with
  | .inl k => ∃ n', e = .returned (.tuple #[.slice none 0 0, .bool false]) ∧ Rdr w' b bp cap T ps ⟨n', q.depth, k.1, k.2⟩
  | .inr x => ∃ a c, e = .returned (.tuple #[.slice a x.1.length c, .bool true]) ∧ Row (fun g => w.heap.size ≤ g) w' (IsFn (fun g => w.heap.size ≤ g) w') (.slice a x.1.length c) x.1 ∧ Rdr w' b bp cap T ps { q with next := x.2 }

structure FnsI (w : World) (b bp cap T : Nat) (ps : List Tok) (q : RS) (v : Value) (acc : List Fn') (n : Nat) (wr : World) : Prop where
  kp : Kept b w wr
  gr : ∃ vs, Grow IsFn 33 4 w.heap.size wr v vs acc
  rd : Rdr wr b bp cap T ps { q with next := n }

theorem func_one (v0 : ByteArray) (v2 : Int) (a1 a3 : Option Addr) (l1 c1 l3 c3 : Nat) : ∀ u ∈ [Value.string v0, .slice a1 l1 c1, .int .i64 v2, .slice a3 l3 c3], u.oneCell' = true := by
  intro u hu
  simp at hu
  rcases hu with rfl | rfl | rfl | rfl <;> rfl

set_option maxHeartbeats 3000000 in
theorem functions_any {ps : List Tok} {B : Nat → Nat → R (List St)} (hB : SaidB ps B) (w : World) (b bp cap T f f2 : Nat) (hf : f ≤ 1000000) (hf2 : f2 ≤ 1000000) (q : RS) (r : Sum (Int × Int) (List Fn' × Nat)) (h : Rdr w b bp cap T ps q)
    (hr : funcsLoop ps (functionM ps B f2 q.depth) f [] q.next = some r) :
    Calls Tryz.prog 12 #[.pointer (some ⟨b, 0, none⟩)] w (PostFs b bp cap T ps q w r) := by
  have hbs := h.bsize
  have hps := h.lt
  have hfar := h.far
  obtain ⟨i0, hi, hz0, hz1, hz2⟩ := info_parts infoFunc
  have hI : FnsI w b bp cap T ps q (.slice none 0 0) [] q.next w := ⟨Kept.refl _ _, ⟨[], Grow.nil _ _ _ _ _⟩, h⟩
  go_enter Tryz.func12, Tryz.ntmps12
  go_wp2_with fail
  go_loopg [4] f (fun g s4 wr => ∃ acc n, FnsI w b bp cap T ps q s4 acc n wr ∧ acc.length + g ≤ f ∧ funcsLoop ps (functionM ps B f2 q.depth) g acc n = some r)
  case atStart => exact ⟨[], _, hI, by simp, hr⟩
  case round =>
    clear hI hr
    obtain ⟨acc, n, hI, hlen, hl⟩ := hrel
    obtain ⟨vs, hgr⟩ := hI.gr
    obtain ⟨av, cv, rfl⟩ := hgr.slice
    have hR := hI.rd
    have kp := hI.kp
    have hsz := kp.size
    clear hI
    cases gk with
    | zero => cases hl
    | succ g =>
      simp only [funcsLoop] at hl
      go_wp2_with fail
      refine (peek_any _ _ _ _ _ _ _ hR).mono ?_
      rintro e w1 ⟨rfl, hb1⟩
      have hR1 := hR.below hb1
      have kb1 : Kept b wr w1 := Kept.of_below hb1
      have hgr1 := hgr.kept moves_IsFn (b := b) kb1 hbs
      have kp1 := kp.trans kb1
      have hs1 := kb1.size
      unfold Tok.val
      clear hgr hR
      by_cases hT : ((cur ps n).kind != 0) = true
      · rw [if_pos hT] at hl
        have HGR1 : Hid (_) := hgr1
        clear hgr1
        go_wp2_with fail
        refine (peek_any _ _ _ _ _ _ _ hR1).mono ?_
        rintro e w5 ⟨rfl, hb5⟩
        have hR5 := hR1.below hb5
        have kb5 : Kept b w1 w5 := Kept.of_below hb5
        have hgr5 := Grow.kept moves_IsFn (b := b) HGR1.out kb5 hbs
        have kp5 := kp1.trans kb5
        have hs5 := kb5.size
        unfold Tok.val
        have HGR5 : Hid (_) := hgr5
        clear hgr5
        go_wp2_with fail
        rcases bindR_some hl with ⟨k, h5, rfl⟩ | ⟨x, n5, h5, h6⟩
        · refine (function_any hB _ b bp cap T f2 hf2 _ _ hR5 h5).mono ?_
          rintro e w6 ⟨k6, v, n', ⟨v0, a1, l1, c1, v2, a3, l3, c3, rfl⟩, rfl, hR6⟩
          go_wp2_with fail
          go_ret2
          exact ⟨(kp5.trans k6).trans ((Kept.refl _ _).alloc _), n', rfl, hR6.below ((Below.refl _ _).alloc (Nat.le_refl _) _)⟩
        · refine (function_any hB _ b bp cap T f2 hf2 _ _ hR5 h5).mono ?_
          rintro e w6 ⟨k6, v, rfl, hA, hR6⟩
          obtain ⟨v0, a1, l1, c1, v2, a3, l3, c3, rfl⟩ := hA.sh
          have hs6 := k6.size
          have HA : Hid (IsFn (fun g => w5.heap.size ≤ g) w6 (.agg #[.string v0, .slice a1 l1 c1, .int .i64 v2, .slice a3 l3 c3]) x) := hA
          clear hA
          by_cases hmx : ((acc.length : Int) == 20) = true
          · rw [if_pos hmx] at h6
            cases h6
            go_wp2_with fail
            refine (fail_any _ _ _ _ _ _ _ _ _ (hR6.below ((Below.refl _ _).alloc (Nat.le_refl _) _))).mono ?_
            rintro e w7 ⟨rfl, hR7, k7⟩
            go_wp2_with fail
            go_ret2
            exact ⟨((kp5.trans k6).trans ((Kept.refl _ _).alloc _)).trans k7, _, rfl, hR7⟩
          · rw [if_neg hmx] at h6
            have hmx' : ((acc.length : Int) == 20) = false := by simpa using hmx
            clear hmx
            have hgr6 := Grow.kept moves_IsFn HGR5.out k6 hbs
            have HV : Hid (∀ k, (Value.slice av acc.length cv).ownBlock = some k → w.heap.size ≤ k ∧ k < w5.heap.size) := HGR5.out.1.lt
            have HGR : Hid (Grow IsFn 33 4 w.heap.size w6 (.slice av acc.length cv) vs acc) := hgr6
            have HO : Hid (((w6.alloc (.cells #[.string v0, .slice a1 l1 c1, .int .i64 v2, .slice a3 l3 c3] 33)).alloc (.cells #[.string v0, .slice a1 l1 c1, .int .i64 v2, .slice a3 l3 c3] 33)).ownsRow w.heap.size 33 4 (.slice av acc.length cv) acc.length (flat vs)) := (hgr6.1.alloc _).alloc _
            have HN : Hid (∀ j u, [Value.string v0, .slice a1 l1 c1, .int .i64 v2, .slice a3 l3 c3][j]? = some u → ((w6.alloc (.cells #[.string v0, .slice a1 l1 c1, .int .i64 v2, .slice a3 l3 c3] 33)).alloc (.cells #[.string v0, .slice a1 l1 c1, .int .i64 v2, .slice a3 l3 c3] 33)).cell? ((⟨w6.heap.size + 1, 0, none⟩ : Addr).add j) = some u) :=
              World.news_of_block (B := w6.heap.size + 1) (cs := #[.string v0, .slice a1 l1 c1, .int .i64 v2, .slice a3 l3 c3]) (heap_alloc2 w6 _ _).2
            clear hgr6
            have hm63 : acc.length + 1 ≤ maxLen := by unfold maxLen; omega
            go_wp2_with (at_builtin; refine wpList_append_lies _ rfl _ _ 23 (by rfl) w.heap.size 33 i0 _ 4 72 Tryz.underlying23 hi hz0 hz1 hz2 rfl (by decide) (.slice av acc.length cv) acc.length (flat vs) (by rfl) HO.out ⟨w6.heap.size + 1, 0, none⟩ 1 1 [.string v0, .slice a1 l1 c1, .int .i64 v2, .slice a3 l3 c3] (by rfl) rfl HN.out (func_one _ _ _ _ _ _ _ _) (by decide) hm63 (by omega) (by simp; omega) (w6.heap.size + 2) (by simp) ?_)
            intro gg cp w8 hown8 hgrow8 hat8 hlt8
            have HO8 : Hid (_) := hown8
            have HG8 : Hid (_) := hgrow8
            have HA8 : Hid (_) := hat8
            clear hown8 hgrow8 hat8
            go_wp2_with fail
            go_roundg g
            case measure => omega
            case rel =>
              have hv := HV.out
              have ka : Kept b w6 ((w6.alloc (.cells #[.string v0, .slice a1 l1 c1, .int .i64 v2, .slice a3 l3 c3] 33)).alloc (.cells #[.string v0, .slice a1 l1 c1, .int .i64 v2, .slice a3 l3 c3] 33)) := ((Kept.refl b w6).alloc _).alloc _
              have k8 := kept_grown (((kp5.trans k6).trans ka)) HG8.out (fun k e => by have := hv k e; omega)
              refine ⟨acc ++ [x], n5, ⟨k8, ⟨_, HGR.out.snoc (z := w5.heap.size) (ys := [.string v0, .slice a1 l1 c1, .int .i64 v2, .slice a3 l3 c3]) moves_IsFn HA.out (by omega) (fun k e => (hv k e).2) (by simp [flat, Value.cells]) (fun k hk => (Below.heap_alloc _ _ _ (by simp; omega)).trans (Below.heap_alloc _ _ _ hk)) (by simp; omega) HG8.out (by simpa using HA8.out) HO8.out⟩, ?_⟩, by simp; omega, h6⟩
              exact rdr_grown (z := w.heap.size) (hR6.below (((Below.refl _ _).alloc (Nat.le_refl _) _).alloc (by simp) _)) HG8.out (fun k e => by have := hv k e; omega) hbs hps
      · rw [if_neg hT] at hl
        have hT' : ((cur ps n).kind != 0) = false := by simpa using hT
        clear hT
        cases hl
        have HG : Hid (Row (fun g => w.heap.size ≤ g) w1 (IsFn (fun g => w.heap.size ≤ g) w1) (.slice av acc.length cv) acc) := hgr1.row moves_IsFn (by omega)
        clear hgr1
        go_wp2_with fail
        go_ret2
        exact ⟨kp1, _, _, rfl, HG.out, hR1⟩
end

end Go.Proofs.YtbpnfoihonehgabGreatDoor
