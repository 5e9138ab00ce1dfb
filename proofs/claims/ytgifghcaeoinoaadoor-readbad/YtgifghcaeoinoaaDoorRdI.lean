/-
  Calls and names.
-/
import Derived.Test.YtgifghcaeoinoaaDoorRdH
namespace Go.Proofs.YtgifghcaeoinoaaDoor
open Go.RowKit
set_option linter.unusedSimpArgs false
set_option linter.unusedVariables false

theorem Row.weak {B : Type} {S S' : Nat → Prop} {w : World} {P Q : Value → B → Prop} {v : Value} {xs : List B} (h : Row S w P v xs) (hs : ∀ g, S g → S' g) (hp : ∀ u x, P u x → Q u x) : Row S' w Q v xs :=
  h.move (fun g hg _ => ⟨hs g hg, rfl⟩) hp

def callM (ps : List Tok) (E : Nat → Nat → R Ex) (f d : Nat) (s : List UInt8) (n : Nat) : R Ex := bindR (listM ps (E d) f n) fun l n' => okR ⟨7, 0, s, l⟩ n'

set_option maxHeartbeats 1000000 in
theorem call_any {ps : List Tok} {E : Nat → Nat → R Ex} (hE : SaidE ps E) (w : World) (b bp cap T f : Nat) (hf : f ≤ 1000000) (q : RS) (s : List UInt8) (r : Sum (Int × Int) (Ex × Nat)) (h : Rdr w b bp cap T ps q)
    (hr : callM ps E f q.depth s q.next = some r) :
    Calls Tryd.prog 97 #[.pointer (some ⟨b, 0, none⟩), .string ⟨s.toArray⟩] w (PostE b bp cap T ps q w r) := by
  have hbs := h.bsize
  unfold callM at hr
  rcases bindR_some hr with ⟨k, h1, rfl⟩ | ⟨l, n1, h1, h2⟩
  · clear hr
    go_enter Tryd.func97, Tryd.ntmps97
    go_wp2_with fail
    refine (arguments_any hE _ b bp cap T f hf q _ (h.below ((Below.refl _ _).alloc (Nat.le_refl _) _)) h1).mono ?_
    rintro e w1 ⟨k1, a, l, c, n', rfl, hR⟩
    have hblk := (k1.block w.heap.size (by simp) (by omega)).trans (heap_alloc_new w _)
    have hc := cells4 hblk
    have hz := thaw4 hblk
    go_wp2_with fail
    exact fin_expr Tryd.results97 rfl rfl rfl (store4 hblk _ _ _ _) (postE_bad h (((Kept.refl _ _).alloc _).trans k1) (kept4 _ _ _ _ _ _) (Nat.le_refl _) hR)
  · cases h2
    clear hr
    go_enter Tryd.func97, Tryd.ntmps97
    go_wp2_with fail
    refine (arguments_any hE _ b bp cap T f hf q _ (h.below ((Below.refl _ _).alloc (Nat.le_refl _) _)) h1).mono ?_
    rintro e w1 ⟨k1, a, c, rfl, hA, hR⟩
    have hblk := (k1.block w.heap.size (by simp) (by omega)).trans (heap_alloc_new w _)
    have hc := cells4 hblk
    have hz := thaw4 hblk
    have hA' := AnE.mk 7 0 s l (hA.weak (S' := fun g => w.heap.size ≤ g ∧ g ≠ w.heap.size) (Q := AnE (fun g => w.heap.size ≤ g ∧ g ≠ w.heap.size) w1) (fun g hg => by simp at hg; omega) (fun u x hx => hx.move fun g hg _ => ⟨by simp at hg; omega, rfl⟩))
    clear hA
    go_wp2_with fail
    exact fin_expr Tryd.results97 rfl rfl rfl (store4 hblk _ _ _ _) (postE_ok h (((Kept.refl _ _).alloc _).trans k1) (kept4 _ _ _ _ _ _) (Nat.le_refl _) hR hA')

set_option maxHeartbeats 1000000 in
theorem named_any {ps : List Tok} {E : Nat → Nat → R Ex} (hE : SaidE ps E) (w : World) (b bp cap T f : Nat) (hf : f ≤ 1000000) (q : RS) (s : List UInt8) (r : Sum (Int × Int) (Ex × Nat)) (h : Rdr w b bp cap T ps q)
    (hr : namedM ps E f q.depth s q.next = some r) :
    Calls Tryd.prog 130 #[.pointer (some ⟨b, 0, none⟩), .string ⟨s.toArray⟩] w (PostE b bp cap T ps q w r) := by
  have hbs := h.bsize
  have h0 := h.below ((Below.refl w.heap.size w).alloc (Nat.le_refl _) (.cells #[.int .i64 0, .int .i64 0, .string ⟨#[]⟩, .slice none 0 0] 35))
  unfold namedM at hr
  by_cases hT : isT (cur ps q.next) 5 [40] = true
  · rw [if_pos hT] at hr
    go_enter Tryd.func130, Tryd.ntmps130
    go_wp2_with fail
    refine (peek_any _ _ _ _ _ _ _ h0).mono ?_
    rintro e w1 ⟨rfl, hb1⟩
    have h1 := h0.below hb1
    have hs1 := hb1.size
    simp at hs1
    go_wp2_with fail
    refine (is_any _ _ _ _).mono ?_
    rintro e w2 ⟨rfl, hb2⟩
    have h2 := h1.below hb2
    have hs2 := hb2.size
    go_wp2_with fail
    refine (call_any hE _ b bp cap T f hf q s r h2 hr).mono ?_
    intro e w3 hP
    have kk : Kept b w w2 := (((Kept.refl b w).alloc _).trans (Kept.of_below hb1)).trans (Kept.of_below hb2)
    have hx2 : w2.heap[w.heap.size]? = some (.cells #[.int .i64 0, .int .i64 0, .string ⟨#[]⟩, .slice none 0 0] 35 (0, 0)) := by
      rw [hb2.block _ (by omega), hb1.block _ (by simp)]; exact heap_alloc_new w _
    cases r with
    | inl k =>
      obtain ⟨k3, v, n', ⟨v0, v1, v2, a3, l3, c3, rfl⟩, rfl, hR⟩ := hP
      have hblk := (k3.block w.heap.size (by omega) (by omega)).trans hx2
      have hc := cells4 hblk
      have hz := thaw4 hblk
      go_wp2_with fail
      exact fin_expr Tryd.results130 rfl rfl rfl (store4 hblk _ _ _ _) (postE_bad h (kk.trans k3) (kept4 _ _ _ _ _ _) (Nat.le_refl _) hR)
    | inr x =>
      obtain ⟨k3, v, rfl, hA, hR⟩ := hP
      obtain ⟨v0, v1, v2, a3, l3, c3, rfl⟩ := hA.sh
      have hblk := (k3.block w.heap.size (by omega) (by omega)).trans hx2
      have hc := cells4 hblk
      have hz := thaw4 hblk
      have hA' : AnE (fun g => w.heap.size ≤ g ∧ g ≠ w.heap.size) w3 _ x.1 := hA.move fun g hg _ => ⟨by omega, rfl⟩
      clear hA
      go_wp2_with fail
      exact fin_expr Tryd.results130 rfl rfl rfl (store4 hblk _ _ _ _) (postE_ok h (kk.trans k3) (kept4 _ _ _ _ _ _) (Nat.le_refl _) hR hA')
  · rw [if_neg hT] at hr
    have hT' : isT (cur ps q.next) 5 [40] = false := by simpa using hT
    clear hT
    cases hr
    go_enter Tryd.func130, Tryd.ntmps130
    go_wp2_with fail
    refine (peek_any _ _ _ _ _ _ _ h0).mono ?_
    rintro e w1 ⟨rfl, hb1⟩
    have h1 := h0.below hb1
    have hs1 := hb1.size
    simp at hs1
    go_wp2_with fail
    refine (is_any _ _ _ _).mono ?_
    rintro e w2 ⟨rfl, hb2⟩
    have h2 := h1.below hb2
    have hs2 := hb2.size
    have kk : Kept b w w2 := (((Kept.refl b w).alloc _).trans (Kept.of_below hb1)).trans (Kept.of_below hb2)
    have hblk : w2.heap[w.heap.size]? = some (.cells #[.int .i64 0, .int .i64 0, .string ⟨#[]⟩, .slice none 0 0] 35 (0, 0)) := by
      rw [hb2.block _ (by omega), hb1.block _ (by simp)]; exact heap_alloc_new w _
    have hc := cells4 hblk
    have hz := thaw4 hblk
    have hA' : AnE (fun g => w.heap.size ≤ g ∧ g ≠ w.heap.size) w2 _ _ := AnE.mk 4 0 s [] ⟨[], .inl ⟨rfl, rfl, rfl⟩, trivial⟩
    go_wp2_with fail
    exact fin_expr Tryd.results130 rfl rfl rfl (store4 hblk _ _ _ _) (postE_ok h kk (kept4 _ _ _ _ _ _) (Nat.le_refl _) h2 hA')

end Go.Proofs.YtgifghcaeoinoaaDoor
