/-
  Expressions: single, operation, and the whole, by the fuel.
-/
import Derived.Test.YtgifghcaeoinoaaDoorRdP
namespace Go.Proofs.YtgifghcaeoinoaaDoor
open Go.RowKit
set_option linter.unusedSimpArgs false
set_option linter.unusedVariables false

set_option maxHeartbeats 2000000 in
theorem single_neg {ps : List Tok} {M : Nat → Nat → R Ex} (hM : SaidS ps M) (w : World) (b bp cap T : Nat) (q : RS) (r : Sum (Int × Int) (Ex × Nat)) (h : Rdr w b bp cap T ps q)
    (hn : (isT (cur ps q.next) 5 [45] || isT (cur ps q.next) 5 [33]) = true) (hr : negatedM ps M q.depth (cur ps q.next).s (q.next + 1) = some r) :
    Calls Tryd.prog 125 #[.pointer (some ⟨b, 0, none⟩)] w (PostE b bp cap T ps q w r) := by
  have hbs := h.bsize
  have hps := h.lt
  have hfar := h.far
  have hkk : ((cur ps q.next).kind != 0) = true := by
    rw [Bool.or_eq_true] at hn
    rcases hn with hn | hn <;> rw [kind_of_isT hn] <;> rfl
  have h0 := h.below ((Below.refl w.heap.size w).alloc (Nat.le_refl _) (.cells #[.int .i64 0, .int .i64 0, .string ⟨#[]⟩, .slice none 0 0] 35))
  have tail : ∀ (w1 w3 : World), w.heap.size + 1 ≤ w1.heap.size → w1.heap.size + 1 ≤ w3.heap.size → Rdr w3 b bp cap T ps q → Kept b w w3 → w3.heap[w.heap.size]? = some (.cells #[.int .i64 0, .int .i64 0, .string ⟨#[]⟩, .slice none 0 0] 35 (0, 0)) →
      w3.heap[w1.heap.size]? = some (.cells #[.int .i64 (cur ps q.next).kind, .int .i64 (cur ps q.next).at_, .int .i64 (cur ps q.next).n, .string ⟨(cur ps q.next).s.toArray⟩] 78 (0, 0)) → True := fun _ _ _ _ _ _ _ _ => trivial
  clear tail
  rcases hn1 : isT (cur ps q.next) 5 [45] with _ | _
  · have hn2 : isT (cur ps q.next) 5 [33] = true := by simpa [hn1] using hn
    clear hn
    go_enter Tryd.func125, Tryd.ntmps125
    go_wp2_with fail
    refine (peek_any _ _ _ _ _ _ _ h0).mono ?_
    rintro e w1 ⟨rfl, hb1⟩
    have h1 := h0.below hb1
    have hs1 := hb1.size
    simp at hs1
    have hx1 := (hb1.block w.heap.size (by simp)).trans (heap_alloc_new w _)
    have hp1 := heap_alloc_new w1 (.cells #[.int .i64 (cur ps q.next).kind, .int .i64 (cur ps q.next).at_, .int .i64 (cur ps q.next).n, .string ⟨(cur ps q.next).s.toArray⟩] 78)
    have hi := is_any (cur ps q.next)
    unfold Tok.val at hi ⊢
    go_wp2_with fail
    refine (hi _ _ _).mono ?_
    rintro e w2 ⟨rfl, hb2⟩
    have hs2 := hb2.size
    simp at hs2
    have hp2 := (hb2.block w1.heap.size (by simp)).trans hp1
    have pc := cells4 hp2
    go_wp2_with fail
    refine (hi _ _ _).mono ?_
    rintro e w3 ⟨rfl, hb3⟩
    have hs3 := hb3.size
    have h3 : Rdr w3 b bp cap T ps q := ((h1.below ((Below.refl w1.heap.size w1).alloc (Nat.le_refl _) _)).below hb2).below hb3
    have k3 : Kept b w w3 := (((((Kept.refl b w).alloc _).trans (Kept.of_below hb1)).alloc _).trans (Kept.of_below hb2)).trans (Kept.of_below hb3)
    have hx3 := (hb3.block w.heap.size (by omega)).trans ((hb2.block w.heap.size (by simp; omega)).trans (blk_alloc hx1 _))
    have hp3 := (hb3.block w1.heap.size (by omega)).trans hp2
    clear hi hp2 pc hp1 hx1 h1
    go_wp2_with fail
    refine (step_any _ _ _ _ _ _ _ h3 hkk).mono ?_
    rintro e w4 ⟨rfl, h4, k4⟩
    have hs4 := k4.size
    have hp4 := cells4 ((k4.block w1.heap.size (by omega) (by omega)).trans hp3)
    have hx4 := (k4.block w.heap.size (by omega) (by omega)).trans hx3
    have kk := k3.trans k4
    go_wp2_with fail
    refine (negated_any hM _ b bp cap T _ _ r h4 hr).mono ?_
    intro e w5 hP
    cases r with
    | inl k =>
      obtain ⟨k5, v, n', ⟨v0, v1, v2, a3, l3, c3, rfl⟩, rfl, hR⟩ := hP
      have hblk := (k5.block w.heap.size (by omega) (by omega)).trans hx4
      have hc := cells4 hblk
      have hz := thaw4 hblk
      go_wp2_with fail
      exact fin_expr Tryd.results125 rfl rfl rfl (store4 hblk _ _ _ _) (postE_bad h (kk.trans k5) (kept4 _ _ _ _ _ _) (by omega) hR)
    | inr x =>
      obtain ⟨k5, v, rfl, hA, hR⟩ := hP
      obtain ⟨v0, v1, v2, a3, l3, c3, rfl⟩ := hA.sh
      have hblk := (k5.block w.heap.size (by omega) (by omega)).trans hx4
      have hc := cells4 hblk
      have hz := thaw4 hblk
      have hA' : AnE (fun g => w.heap.size ≤ g ∧ g ≠ w.heap.size) w5 _ x.1 := hA.move fun g hg _ => ⟨by omega, rfl⟩
      clear hA
      go_wp2_with fail
      exact fin_expr Tryd.results125 rfl rfl rfl (store4 hblk _ _ _ _) (postE_ok h (kk.trans k5) (kept4 _ _ _ _ _ _) (by omega) hR hA')
  · clear hn
    go_enter Tryd.func125, Tryd.ntmps125
    go_wp2_with fail
    refine (peek_any _ _ _ _ _ _ _ h0).mono ?_
    rintro e w1 ⟨rfl, hb1⟩
    have h1 := h0.below hb1
    have hs1 := hb1.size
    simp at hs1
    have hx1 := (hb1.block w.heap.size (by simp)).trans (heap_alloc_new w _)
    have hp1 := heap_alloc_new w1 (.cells #[.int .i64 (cur ps q.next).kind, .int .i64 (cur ps q.next).at_, .int .i64 (cur ps q.next).n, .string ⟨(cur ps q.next).s.toArray⟩] 78)
    have hi := is_any (cur ps q.next)
    unfold Tok.val at hi ⊢
    go_wp2_with fail
    refine (hi _ _ _).mono ?_
    rintro e w3 ⟨rfl, hb3⟩
    have hs3 := hb3.size
    simp at hs3
    have h3 : Rdr w3 b bp cap T ps q := (h1.below ((Below.refl w1.heap.size w1).alloc (Nat.le_refl _) _)).below hb3
    have k3 : Kept b w w3 := ((((Kept.refl b w).alloc _).trans (Kept.of_below hb1)).alloc _).trans (Kept.of_below hb3)
    have hx3 := (hb3.block w.heap.size (by simp; omega)).trans (blk_alloc hx1 _)
    have hp3 := (hb3.block w1.heap.size (by simp)).trans hp1
    clear hi hp1 hx1 h1
    go_wp2_with fail
    refine (step_any _ _ _ _ _ _ _ h3 hkk).mono ?_
    rintro e w4 ⟨rfl, h4, k4⟩
    have hs4 := k4.size
    have hp4 := cells4 ((k4.block w1.heap.size (by omega) (by omega)).trans hp3)
    have hx4 := (k4.block w.heap.size (by omega) (by omega)).trans hx3
    have kk := k3.trans k4
    go_wp2_with fail
    refine (negated_any hM _ b bp cap T _ _ r h4 hr).mono ?_
    intro e w5 hP
    cases r with
    | inl k =>
      obtain ⟨k5, v, n', ⟨v0, v1, v2, a3, l3, c3, rfl⟩, rfl, hR⟩ := hP
      have hblk := (k5.block w.heap.size (by omega) (by omega)).trans hx4
      have hc := cells4 hblk
      have hz := thaw4 hblk
      go_wp2_with fail
      exact fin_expr Tryd.results125 rfl rfl rfl (store4 hblk _ _ _ _) (postE_bad h (kk.trans k5) (kept4 _ _ _ _ _ _) (by omega) hR)
    | inr x =>
      obtain ⟨k5, v, rfl, hA, hR⟩ := hP
      obtain ⟨v0, v1, v2, a3, l3, c3, rfl⟩ := hA.sh
      have hblk := (k5.block w.heap.size (by omega) (by omega)).trans hx4
      have hc := cells4 hblk
      have hz := thaw4 hblk
      have hA' : AnE (fun g => w.heap.size ≤ g ∧ g ≠ w.heap.size) w5 _ x.1 := hA.move fun g hg _ => ⟨by omega, rfl⟩
      clear hA
      go_wp2_with fail
      exact fin_expr Tryd.results125 rfl rfl rfl (store4 hblk _ _ _ _) (postE_ok h (kk.trans k5) (kept4 _ _ _ _ _ _) (by omega) hR hA')

theorem single_said {ps : List Tok} {E : Nat → Nat → R Ex} (hE : SaidE ps E) : ∀ f, f ≤ 1000000 → SaidS ps (singleM ps E f)
  | 0, _ => fun w b bp cap T q r h hr => by simp [singleM] at hr
  | f + 1, hf => fun w b bp cap T q r h hr => by
    unfold singleM at hr
    by_cases hn : (isT (cur ps q.next) 5 [45] || isT (cur ps q.next) 5 [33]) = true
    · rw [if_pos hn] at hr
      exact single_neg (single_said hE f (by omega)) w b bp cap T q r h hn hr
    · rw [if_neg hn] at hr
      have hn' : (isT (cur ps q.next) 5 [45] || isT (cur ps q.next) 5 [33]) = false := by simpa using hn
      rw [Bool.or_eq_false_iff] at hn'
      exact single_loop hE w b bp cap T f (by omega) q r h hn'.1 hn'.2 hr

end Go.Proofs.YtgifghcaeoinoaaDoor
