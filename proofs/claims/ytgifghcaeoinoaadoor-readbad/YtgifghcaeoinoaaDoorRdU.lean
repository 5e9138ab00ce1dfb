/-
  Expressions: operation, and the whole, by the fuel.
-/
import Derived.Test.YtgifghcaeoinoaaDoorRdQ
namespace Go.Proofs.YtgifghcaeoinoaaDoor
open Go.RowKit
set_option linter.unusedSimpArgs false
set_option linter.unusedVariables false

set_option maxHeartbeats 1000000 in
theorem operation_five {ps : List Tok} {M : Nat → Nat → R Ex} (hM : SaidS ps M) : SaidOp ps 5 M := by
  intro w b bp cap T q r h hr
  have hbs := h.bsize
  have h0 := h.below ((Below.refl w.heap.size w).alloc (Nat.le_refl _) (.cells #[.int .i64 0, .int .i64 0, .string ⟨#[]⟩, .slice none 0 0] 35))
  have hx0 := heap_alloc_new w (.cells #[.int .i64 0, .int .i64 0, .string ⟨#[]⟩, .slice none 0 0] 35)
  have hl5 : (((5 : Nat) : Int) == 5) = true := rfl
  go_enter Tryd.func121, Tryd.ntmps121
  go_wp2_with fail
  refine (hM _ b bp cap T q r h0 hr).mono ?_
  intro e w5 hP
  cases r with
  | inl k =>
    obtain ⟨k5, v, n', ⟨v0, v1, v2, a3, l3, c3, rfl⟩, rfl, hR⟩ := hP
    have hblk := (k5.block w.heap.size (by simp) (by omega)).trans hx0
    have hc := cells4 hblk
    have hz := thaw4 hblk
    go_wp2_with fail
    exact fin_expr Tryd.results121 rfl rfl rfl (store4 hblk _ _ _ _) (postE_bad h (((Kept.refl b w).alloc _).trans k5) (kept4 _ _ _ _ _ _) (by omega) hR)
  | inr x =>
    obtain ⟨k5, v, rfl, hA, hR⟩ := hP
    obtain ⟨v0, v1, v2, a3, l3, c3, rfl⟩ := hA.sh
    have hblk := (k5.block w.heap.size (by simp) (by omega)).trans hx0
    have hc := cells4 hblk
    have hz := thaw4 hblk
    have hA' : AnE (fun g => w.heap.size ≤ g ∧ g ≠ w.heap.size) w5 _ x.1 := hA.move fun g hg _ => ⟨by simp at hg; omega, rfl⟩
    clear hA
    go_wp2_with fail
    exact fin_expr Tryd.results121 rfl rfl rfl (store4 hblk _ _ _ _) (postE_ok h (((Kept.refl b w).alloc _).trans k5) (kept4 _ _ _ _ _ _) (by omega) hR hA')

set_option maxHeartbeats 3000000 in
theorem operation_loop {ps : List Tok} {M : Nat → Nat → R Ex} (lv : Nat) (hlv : lv < 5) (hM : SaidOp ps (lv + 1) M) (f : Nat) :
    SaidOp ps lv (fun d n => bindR (M d n) fun x n1 => opLoop ps lv (fun m => M d m) f x n1) := by
  intro w b bp cap T q r h hr
  have hbs := h.bsize
  have hps := h.lt
  have hfar := h.far
  have h0 := h.below ((Below.refl w.heap.size w).alloc (Nat.le_refl _) (.cells #[.int .i64 0, .int .i64 0, .string ⟨#[]⟩, .slice none 0 0] 35))
  have hx0 := heap_alloc_new w (.cells #[.int .i64 0, .int .i64 0, .string ⟨#[]⟩, .slice none 0 0] 35)
  have hl5 : ((lv : Int) == 5) = false := by simp; omega
  have hM' : ∀ (w : World) (q : RS) (r : Sum (Int × Int) (Ex × Nat)), Rdr w b bp cap T ps q → M q.depth q.next = some r →
      Calls Tryd.prog 121 #[.pointer (some ⟨b, 0, none⟩), .int .i64 ((lv : Int) + 1)] w (PostE b bp cap T ps q w r) := by
    intro w q r hR hr
    have := hM w b bp cap T q r hR hr
    rw [show ((lv + 1 : Nat) : Int) = (lv : Int) + 1 by omega] at this
    exact this
  have HM : Hid (∀ (w : World) (q : RS) (r : Sum (Int × Int) (Ex × Nat)), Rdr w b bp cap T ps q → M q.depth q.next = some r →
      Calls Tryd.prog 121 #[.pointer (some ⟨b, 0, none⟩), .int .i64 ((lv : Int) + 1)] w (PostE b bp cap T ps q w r)) := hM'
  clear hM'
  have hlb : (0 : Int) ≤ lv := by omega
  have hlb5 : (lv : Int) < 5 := by omega
  go_enter Tryd.func121, Tryd.ntmps121
  go_wp2_with fail
  have hfst : ∃ rf, M q.depth q.next = some rf := by
    rcases bindR_some hr with ⟨k, h5, _⟩ | ⟨x, n, h5, _⟩
    · exact ⟨_, h5⟩
    · exact ⟨_, h5⟩
  obtain ⟨rf, hrf⟩ := hfst
  refine (HM.out _ q rf h0 hrf).mono ?_
  intro e w4 hP
  have hL : ∃ (v0 v1 : Int) (v2 : ByteArray) (a3 : Option Addr) (l3 c3 : Nat) (ok : Bool), e = .returned (.tuple #[.agg #[.int .i64 v0, .int .i64 v1, .string v2, .slice a3 l3 c3], .bool ok]) ∧
      LoopI w b bp cap T ps q r w4.heap.size (fun x n => opLoop ps lv (fun m => M q.depth m) f x n) ok (w4.alloc (.cells #[.int .i64 v0, .int .i64 v1, .string v2, .slice a3 l3 c3] 35)) := by
    obtain ⟨k4, hP⟩ := hP
    have hs4 := k4.size
    simp at hs4
    have hx4 := (k4.block w.heap.size (by simp) (by omega)).trans hx0
    have k3 : Kept b w w4 := ((Kept.refl b w).alloc _).trans k4
    cases rf with
    | inl k =>
      obtain ⟨v, n', ⟨v0, v1, v2, a3, l3, c3, rfl⟩, rfl, hR⟩ := hP
      rcases bindR_some hr with ⟨k', h5, h6⟩ | ⟨x, n, h5, _⟩
      · rw [hrf] at h5
        cases h5
        exact ⟨v0, v1, v2, a3, l3, c3, false, rfl, k3.alloc _, by simp, by omega, blk_alloc hx4 _, v0, v1, v2, a3, l3, c3, heap_alloc_new _ _, (fun e => by cases e), fun _ => ⟨k, n', h6, hR.below ((Below.refl _ _).alloc (Nat.le_refl _) _)⟩⟩
      · rw [hrf] at h5; cases h5
    | inr x =>
      obtain ⟨v, rfl, hA, hR⟩ := hP
      obtain ⟨v0, v1, v2, a3, l3, c3, rfl⟩ := hA.sh
      rcases bindR_some hr with ⟨k', h5, h6⟩ | ⟨y, n, h5, h6⟩
      · rw [hrf] at h5; cases h5
      · rw [hrf] at h5
        cases h5
        exact ⟨v0, v1, v2, a3, l3, c3, true, rfl, k3.alloc _, by simp, by omega, blk_alloc hx4 _, v0, v1, v2, a3, l3, c3, heap_alloc_new _ _, (fun _ => ⟨y, n, hA.move fun g hg hlt => ⟨by simp at hg; omega, Below.heap_alloc _ _ _ hlt⟩, hR.below ((Below.refl _ _).alloc (Nat.le_refl _) _), h6⟩), fun e => by cases e⟩
  clear hP hr hrf
  obtain ⟨v0, v1, v2, a3, l3, c3, ok, rfl, hL⟩ := hL
  go_wp2_with fail
  generalize w4.heap.size = eb at hL ⊢
  go_loopg [7] f (fun g s7 wr => ∃ ok, s7 = .bool ok ∧ LoopI w b bp cap T ps q r eb (fun x n => opLoop ps lv (fun m => M q.depth m) g x n) ok wr)
  case atStart => exact ⟨ok, rfl, hL⟩
  case round =>
    clear hL
    obtain ⟨ok, rfl, hI⟩ := hrel
    have hsz := hI.sz
    have hlo := hI.lo
    obtain ⟨e0, e1, e2, ea, el, ec, hec, hgood, hbad⟩ := hI.ec
    have hxb := hI.xb
    cases ok with
    | false =>
      obtain ⟨k, n', rfl, hR⟩ := hbad rfl
      clear hgood hbad
      have hx4 := cells4 hxb
      have hxz := thaw4 hxb
      have he4 := cells4 hec
      go_wp2_with fail
      exact fin_expr Tryd.results121 rfl rfl rfl (store4 hxb _ _ _ _) (postE_bad h hI.kp (kept4 _ _ _ _ _ _) (Nat.le_refl _) hR)
    | true =>
      obtain ⟨x, n, hA, hR, hl⟩ := hgood rfl
      clear hgood hbad
      cases gk with
      | zero => cases hl
      | succ g =>
        simp only [opLoop] at hl
        by_cases hT : isOpM (cur ps n) lv = true
        · rw [if_pos hT] at hl
          have hkk : ((cur ps n).kind != 0) = true := by
            have : (cur ps n).kind = 5 := by simp [isOpM] at hT; exact hT.1
            rw [this]; rfl
          go_wp2_with fail
          refine (peek_any _ _ _ _ _ _ _ hR).mono ?_
          rintro e w5 ⟨rfl, hb5⟩
          have hs5 := hb5.size
          have hR5 := hR.below hb5
          have hG5 : 8 ≤ w5.heap.size := by omega
          go_wp2_with fail
          refine (isOperator_any _ lv hlv _ hG5 hR5.tab).mono ?_
          rintro e w6 ⟨rfl, hb6⟩
          have hs6 := hb6.size
          have hR6 := hR5.below hb6
          go_wp2_with fail
          refine (peek_any _ _ _ _ _ _ _ hR6).mono ?_
          rintro e w7 ⟨rfl, hb7⟩
          have hs7 := hb7.size
          have hR7 := hR6.below hb7
          unfold Tok.val
          go_wp2_with fail
          refine (step_any _ _ _ _ _ _ _ hR7 hkk).mono ?_
          rintro e w8 ⟨rfl, hR8, k8⟩
          have hs8 := k8.size
          have kk8 : Kept b wr w8 := (((Kept.of_below hb5).trans (Kept.of_below hb6)).trans (Kept.of_below hb7)).trans k8
          have hA8 := hA.kept kk8 (fun g hg => by omega)
          have hec8 := (kk8.block eb (by omega) (by omega)).trans hec
          have hxb8 := (kk8.block w.heap.size (by omega) (by omega)).trans hxb
          have kp8 := hI.kp.trans kk8
          clear hR hI hxb hec hA hR5 hR6 hR7 hb5 hb6 hb7 k8 kk8
          go_wp2_with fail
          rcases bindR_some hl with ⟨k, h5, rfl⟩ | ⟨y, n5, h5, h6⟩
          · refine (HM.out _ { q with next := n + 1 } _ (hR8.below ((Below.refl _ _).alloc (Nat.le_refl _) _)) h5).mono ?_
            rintro e w9 ⟨k9, v, n', ⟨f0, f1, f2, fa, fl, fc, rfl⟩, rfl, hR9⟩
            have hs9 := k9.size
            simp at hs9
            have hpb9 := (k9.block w8.heap.size (by simp) (by omega)).trans (heap_alloc_new w8 _)
            have hec9 := (k9.block eb (by simp; omega) (by omega)).trans (blk_alloc hec8 _)
            have hxb9 := (k9.block w.heap.size (by simp; omega) (by omega)).trans (blk_alloc hxb8 _)
            have p4 := cells4 hpb9
            have pz := thaw4 hpb9
            have e4 := cells4 hec9
            have ez := thaw4 hec9
            have hne : ¬ eb = w8.heap.size := by omega
            have hne' : ¬ w8.heap.size = eb := by omega
            have hlt6 : eb < w9.heap.size := by omega
            have hlt7 : w8.heap.size < w9.heap.size := by omega
            go_wp2_with fail
            go_roundg g
            case measure => omega
            case rel =>
              have kx := kept4 w8.heap.size w9 (.int .i64 f0) (.int .i64 f1) (.string f2) (.slice fa fl fc)
              have hz9 := kx.size
              exact ⟨false, rfl, loop_bad h ((kp8.trans (((Kept.refl _ _).alloc _).trans k9)).own kx (by omega)) hlo ((kx.block _ (by omega) (by omega)).trans hxb9) ((kx.block _ (by omega) (by omega)).trans hec9) (by omega) (hR9.own kx (by omega) (by omega) (by omega)) _ _ _ _ _ _⟩
          · refine (HM.out _ { q with next := n + 1 } _ (hR8.below ((Below.refl _ _).alloc (Nat.le_refl _) _)) h5).mono ?_
            rintro e w9 ⟨k9, v, rfl, hAy, hR9⟩
            obtain ⟨f0, f1, f2, fa, fl, fc, rfl⟩ := hAy.sh
            have hs9 := k9.size
            simp at hs9
            have hpb9 := (k9.block w8.heap.size (by simp) (by omega)).trans (heap_alloc_new w8 _)
            have hec9 := (k9.block eb (by simp; omega) (by omega)).trans (blk_alloc hec8 _)
            have hxb9 := (k9.block w.heap.size (by simp; omega) (by omega)).trans (blk_alloc hxb8 _)
            have p4 := cells4 hpb9
            have pz := thaw4 hpb9
            have e4 := cells4 hec9
            have ez := thaw4 hec9
            have hne : ¬ eb = w8.heap.size := by omega
            have hne' : ¬ w8.heap.size = eb := by omega
            have hlt6 : eb < w9.heap.size := by omega
            have hlt7 : w8.heap.size < w9.heap.size := by omega
            have kx := kept4 w8.heap.size w9 (.int .i64 f0) (.int .i64 f1) (.string f2) (.slice fa fl fc)
            have hAx9 : AnE (fun g => w.heap.size ≤ g ∧ g ≠ w.heap.size ∧ g ≠ eb) _ _ x := hA8.move fun g hg hlt => ⟨hg, (kx.block g (by omega) (by omega)).trans ((k9.block g (by simp; omega) (by omega)).trans (Below.heap_alloc _ _ _ hlt))⟩
            have hAy9 : AnE (fun g => w.heap.size ≤ g ∧ g ≠ w.heap.size ∧ g ≠ eb) _ _ y := hAy.move fun g hg hlt => ⟨by simp at hg; omega, kx.block g hlt (by simp at hg; omega)⟩
            have HA : Hid (_ ∧ _) := ⟨hAx9, hAy9⟩
            clear hAy hA8 hAx9 hAy9
            go_wp2_with fail
            go_roundg g
            case measure => omega
            case rel =>
              have hz9 := kx.size
              have hl' := loop_ok (L := fun x n => opLoop ps lv (fun m => M q.depth m) g x n) (r := r) h ((kp8.trans (((Kept.refl _ _).alloc _).trans k9)).own kx (by omega)) hlo ((kx.block _ (by omega) (by omega)).trans hxb9) ((kx.block _ (by omega) (by omega)).trans hec9) (by omega) (hR9.own kx (by omega) (by omega) (by omega)) 5 (cur ps n).s HA.out.1 HA.out.2 h6
              rw [size_store4] at hl'
              exact ⟨true, rfl, hl'⟩
        · rw [if_neg hT] at hl
          have hT' : isOpM (cur ps n) lv = false := by simpa using hT
          clear hT
          cases hl
          go_wp2_with fail
          refine (peek_any _ _ _ _ _ _ _ hR).mono ?_
          rintro e w5 ⟨rfl, hb5⟩
          have hs5 := hb5.size
          have hR5 := hR.below hb5
          have hG5 : 8 ≤ w5.heap.size := by omega
          go_wp2_with fail
          refine (isOperator_any _ lv hlv _ hG5 hR5.tab).mono ?_
          rintro e w6 ⟨rfl, hb6⟩
          have hs6 := hb6.size
          have hR6 := hR5.below hb6
          have kk6 : Kept b wr w6 := (Kept.of_below hb5).trans (Kept.of_below hb6)
          have hec6 := (kk6.block eb (by omega) (by omega)).trans hec
          have hxb6 := (kk6.block w.heap.size (by omega) (by omega)).trans hxb
          have hx4 := cells4 hxb6
          have hxz := thaw4 hxb6
          have he4 := cells4 hec6
          have hA6 : AnE (fun g => w.heap.size ≤ g ∧ g ≠ w.heap.size) _ _ x := (hA.kept kk6 (fun g hg => by omega)).move fun g hg _ => ⟨⟨hg.1, hg.2.1⟩, rfl⟩
          have kp6 := hI.kp.trans kk6
          clear hI hA
          go_wp2_with fail
          exact fin_expr Tryd.results121 rfl rfl rfl (store4 hxb6 _ _ _ _) (postE_ok h kp6 (kept4 _ _ _ _ _ _) (Nat.le_refl _) hR6 hA6)

theorem op_said {ps : List Tok} {E : Nat → Nat → R Ex} (hE : SaidE ps E) (f : Nat) (hf : f ≤ 1000000) : ∀ (k lv : Nat), lv + k = 5 → SaidOp ps lv (opM ps E f k)
  | 0, lv, h => by
    obtain rfl : lv = 5 := by omega
    exact operation_five (M := fun d n => singleM ps E f d n) (single_said hE f hf)
  | k + 1, lv, h => by
    have := operation_loop lv (by omega) (op_said hE f hf k (lv + 1) (by omega)) f
    intro w b bp cap T q r hR hr
    refine this w b bp cap T q r hR ?_
    have e : 4 - k = lv := by omega
    simp only [opM, e] at hr
    exact hr

theorem expr_said (ps : List Tok) : ∀ f, f ≤ 1000000 → SaidE ps (exprM ps f)
  | 0, _ => fun w b bp cap T q r h hr => by simp [exprM] at hr
  | f + 1, hf => fun w b bp cap T q r h hr => expression_any (op_said (expr_said ps f (by omega)) f (by omega) 5 0 rfl) w b bp cap T q r h hr

end Go.Proofs.YtgifghcaeoinoaaDoor
