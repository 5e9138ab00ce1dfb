/-
  A statement, by its first piece.
-/
import Derived.Test.YtgifghcaeoinoaaDoorReC
import Derived.Test.YtgifghcaeoinoaaDoorReD
namespace Go.Proofs.YtgifghcaeoinoaaDoor
open Go.RowKit
set_option linter.unusedSimpArgs false
set_option linter.unusedVariables false

def statementN (ps : List Tok) (E : Nat → Nat → R Ex) (I LP SW : Nat → Nat → R St) (f d n : Nat) : R St :=
  if (cur ps n).kind == 1 then nameStM ps E f d (cur ps n) (n + 1)
  else if (cur ps n).kind == 2 then keywordStN ps E I LP SW f d (cur ps n) (n + 1)
  else badR (refuseM ps n)

set_option maxHeartbeats 3000000 in
theorem statement_any {ps : List Tok} {E : Nat → Nat → R Ex} {I LP SW : Nat → Nat → R St} (hE : SaidE ps E) (hI : SaidIf ps I) (hLP : SaidF 99 ps LP) (hSW : SaidF 100 ps SW)
    (f : Nat) (hf : f ≤ 1000000) : SaidSt ps (statementN ps E I LP SW f) := by
  intro w b bp cap T q r h hr
  have hbs := h.bsize
  have hps := h.lt
  have hfar := h.far
  have h0 := h.below ((Below.refl w.heap.size w).alloc (Nat.le_refl _) (.cells #[.int .i64 0, .string ⟨#[]⟩, .string ⟨#[]⟩, .slice none 0 0, .slice none 0 0, .slice none 0 0, .slice none 0 0] 39))
  have hx0 := heap_alloc_new w (.cells #[.int .i64 0, .string ⟨#[]⟩, .string ⟨#[]⟩, .slice none 0 0, .slice none 0 0, .slice none 0 0, .slice none 0 0] 39)
  unfold statementN at hr
  go_enter Tryd.func82, Tryd.ntmps82
  go_wp2_with fail
  refine (peek_any _ _ _ _ _ _ _ h0).mono ?_
  rintro e w1 ⟨rfl, hb1⟩
  unfold Tok.val
  have h1 := h0.below hb1
  have hs1 := hb1.size
  simp at hs1
  have hR1 := h1.below ((Below.refl w1.heap.size w1).alloc (Nat.le_refl _) (.cells #[.int .i64 (cur ps q.next).kind, .int .i64 (cur ps q.next).at_, .int .i64 (cur ps q.next).n, .string ⟨(cur ps q.next).s.toArray⟩] 78))
  have hx1 := blk_alloc ((hb1.block w.heap.size (by simp)).trans hx0) (.cells #[.int .i64 (cur ps q.next).kind, .int .i64 (cur ps q.next).at_, .int .i64 (cur ps q.next).n, .string ⟨(cur ps q.next).s.toArray⟩] 78)
  have hy1 := heap_alloc_new w1 (.cells #[.int .i64 (cur ps q.next).kind, .int .i64 (cur ps q.next).at_, .int .i64 (cur ps q.next).n, .string ⟨(cur ps q.next).s.toArray⟩] 78)
  have kw1 : Kept b w (w1.alloc (.cells #[.int .i64 (cur ps q.next).kind, .int .i64 (cur ps q.next).at_, .int .i64 (cur ps q.next).n, .string ⟨(cur ps q.next).s.toArray⟩] 78)) := (((Kept.refl b w).alloc (.cells #[.int .i64 0, .string ⟨#[]⟩, .string ⟨#[]⟩, .slice none 0 0, .slice none 0 0, .slice none 0 0, .slice none 0 0] 39)).trans (Kept.of_below hb1)).alloc (.cells #[.int .i64 (cur ps q.next).kind, .int .i64 (cur ps q.next).at_, .int .i64 (cur ps q.next).n, .string ⟨(cur ps q.next).s.toArray⟩] 78)
  clear h1 h0 hx0 hb1
  by_cases hT : ((cur ps q.next).kind == 1) = true
  · rw [if_pos hT] at hr
    have hk : ((cur ps q.next).kind != 0) = true := by simp at hT ⊢; omega
    go_wp2_with fail
    refine (step_any _ _ _ _ _ _ _ hR1 hk).mono ?_
    rintro e w2 ⟨rfl, hR2, k2⟩
    have hs2 := k2.size
    simp at hs2
    have hx2 := (k2.block w.heap.size (by simp; omega) (by omega)).trans hx1
    have hy2 := (k2.block w1.heap.size (by simp) (by omega)).trans hy1
    have kw2 := kw1.trans k2
    obtain ⟨y0, y1, y2, y3⟩ := cells4 hy2
    go_wp2_with fail
    refine (nameSt_any hE _ b bp cap T f hf _ (cur ps q.next) _ hR2 hr).mono ?_
    intro e wz hP
    obtain ⟨kz, v0, v1, v2, a3, l3, c3, a4, l4, c4, a5, l5, c5, a6, l6, c6, ok, rfl⟩ := hP.sh
    have hblk := (kz.block w.heap.size (by omega) (by omega)).trans hx2
    have hc := cells7 hblk
    have hz := thaw4 hblk
    have HP : Hid (_) := hP
    clear hP
    go_wp2_with fail
    exact fin_stmt Tryd.results82 rfl rfl rfl (store7 hblk _ _ _ _ _ _ _) (PostS.fwd h kw2 (by omega) (by omega) HP.out (kept7 _ _ _ _ _ _ _ _ _))
  · rw [if_neg hT] at hr
    have hT' : ((cur ps q.next).kind == 1) = false := by simpa using hT
    clear hT
    by_cases hT2 : ((cur ps q.next).kind == 2) = true
    · rw [if_pos hT2] at hr
      have hk : ((cur ps q.next).kind != 0) = true := by simp at hT2 ⊢; omega
      go_wp2_with fail
      refine (step_any _ _ _ _ _ _ _ hR1 hk).mono ?_
      rintro e w2 ⟨rfl, hR2, k2⟩
      have hs2 := k2.size
      simp at hs2
      have hx2 := (k2.block w.heap.size (by simp; omega) (by omega)).trans hx1
      have hy2 := (k2.block w1.heap.size (by simp) (by omega)).trans hy1
      have kw2 := kw1.trans k2
      obtain ⟨y0, y1, y2, y3⟩ := cells4 hy2
      go_wp2_with fail
      refine (keywordSt_any hE hI hLP hSW _ b bp cap T f hf _ (cur ps q.next) _ hR2 hr).mono ?_
      intro e wz hP
      obtain ⟨kz, v0, v1, v2, a3, l3, c3, a4, l4, c4, a5, l5, c5, a6, l6, c6, ok, rfl⟩ := hP.sh
      have hblk := (kz.block w.heap.size (by omega) (by omega)).trans hx2
      have hc := cells7 hblk
      have hz := thaw4 hblk
      have HP : Hid (_) := hP
      clear hP
      go_wp2_with fail
      exact fin_stmt Tryd.results82 rfl rfl rfl (store7 hblk _ _ _ _ _ _ _) (PostS.fwd h kw2 (by omega) (by omega) HP.out (kept7 _ _ _ _ _ _ _ _ _))
    · rw [if_neg hT2] at hr
      have hT2' : ((cur ps q.next).kind == 2) = false := by simpa using hT2
      clear hT2
      cases hr
      go_wp2_with fail
      refine (refuse_any _ _ _ _ _ _ _ hR1).mono ?_
      rintro e w2 ⟨rfl, hR, k2⟩
      have hblk := (k2.block w.heap.size (by simp; omega) (by omega)).trans hx1
      have hc := cells7 hblk
      have hz := thaw4 hblk
      go_wp2_with fail
      exact fin_stmt Tryd.results82 rfl rfl rfl (store7 hblk _ _ _ _ _ _ _) (postS_bad h (kw1.trans k2) (kept7 _ _ _ _ _ _ _ _ _) (by omega) hR)

end Go.Proofs.YtgifghcaeoinoaaDoor
