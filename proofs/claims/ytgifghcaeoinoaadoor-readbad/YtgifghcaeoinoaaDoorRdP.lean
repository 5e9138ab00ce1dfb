/-
  Expressions: single.
-/
import Derived.Test.YtgifghcaeoinoaaDoorRdO
namespace Go.Proofs.YtgifghcaeoinoaaDoor
open Go.RowKit
set_option linter.unusedSimpArgs false
set_option linter.unusedVariables false

/-- what holds ahead of each round of a loop that makes an expression greater; eb: where the expression lies; L: what the loop answers from here on -/
structure LoopI (w : World) (b bp cap T : Nat) (ps : List Tok) (q : RS) (r : Sum (Int × Int) (Ex × Nat)) (eb : Nat) (L : Ex → Nat → R Ex) (ok : Bool) (wr : World) : Prop where
  kp : Kept b w wr
  sz : eb < wr.heap.size
  lo : w.heap.size < eb
  xb : wr.heap[w.heap.size]? = some (.cells #[.int .i64 0, .int .i64 0, .string ⟨#[]⟩, .slice none 0 0] 35 (0, 0))
  ec : ∃ v0 v1 v2 a3 l3 c3, wr.heap[eb]? = some (.cells #[.int .i64 v0, .int .i64 v1, .string v2, .slice a3 l3 c3] 35 (0, 0)) ∧
    (ok = true → ∃ x n, AnE (fun g => w.heap.size ≤ g ∧ g ≠ w.heap.size ∧ g ≠ eb) wr (.agg #[.int .i64 v0, .int .i64 v1, .string v2, .slice a3 l3 c3]) x ∧ Rdr wr b bp cap T ps { q with next := n } ∧ L x n = some r) ∧
    (ok = false → ∃ k n', r = .inl k ∧ Rdr wr b bp cap T ps ⟨n', q.depth, k.1, k.2⟩)

theorem AnE.kept {S : Nat → Prop} {w w' : World} {b : Nat} {v : Value} {x : Ex} (h : AnE S w v x) (k : Kept b w w') (hS : ∀ g, S g → g ≠ b) : AnE S w' v x :=
  h.move fun g hg hlt => ⟨hg, k.block g hlt (hS g hg)⟩

/-- a round's end: the expression's block eb is written anew, its row is laid -/
theorem loop_bad {w w7 : World} {b bp cap T eb n' : Nat} {ps : List Tok} {q : RS} {k : Int × Int} {L : Ex → Nat → R Ex} {u0 u1 u2 u3 : Value} {row : Obj} (h : Rdr w b bp cap T ps q) (kp : Kept b w w7) (hlo : w.heap.size < eb)
    (hxb : w7.heap[w.heap.size]? = some (.cells #[.int .i64 0, .int .i64 0, .string ⟨#[]⟩, .slice none 0 0] 35 (0, 0))) (hec : w7.heap[eb]? = some (.cells #[u0, u1, u2, u3] 35 (0, 0))) (hsz : eb < w7.heap.size)
    (hR : Rdr w7 b bp cap T ps ⟨n', q.depth, k.1, k.2⟩) (kd nd : Int) (st : ByteArray) (a : Option Addr) (l c : Nat) :
    LoopI w b bp cap T ps q (.inl k) eb L false (((((w7.setCell ⟨eb, 0, none⟩ (.int .i64 kd)).setCell ⟨eb, 1, none⟩ (.int .i64 nd)).setCell ⟨eb, 2, none⟩ (.string st)).setCell ⟨eb, 3, none⟩ (.slice a l c)).alloc row) := by
  have h1 := h.bsize; have h2 := h.lt; have h3 := h.far
  have kx := (kept4 eb w7 (.int .i64 kd) (.int .i64 nd) (.string st) (.slice a l c)).alloc row
  refine ⟨kp.own kx (by omega), by have := kx.size; omega, hlo, (kx.block _ (by omega) (by omega)).trans hxb, kd, nd, st, a, l, c, blk_alloc (store4 hec _ _ _ _) _, (fun e => by cases e), fun _ => ⟨k, n', rfl, hR.own kx (by omega) (by omega) (by omega)⟩⟩

theorem loop_ok {w w7 : World} {b bp cap T eb n : Nat} {ps : List Tok} {q : RS} {r : Sum (Int × Int) (Ex × Nat)} {L : Ex → Nat → R Ex} {u0 u1 u2 u3 : Value} (h : Rdr w b bp cap T ps q) (kp : Kept b w w7) (hlo : w.heap.size < eb)
    (hxb : w7.heap[w.heap.size]? = some (.cells #[.int .i64 0, .int .i64 0, .string ⟨#[]⟩, .slice none 0 0] 35 (0, 0))) (hec : w7.heap[eb]? = some (.cells #[u0, u1, u2, u3] 35 (0, 0))) (hsz : eb < w7.heap.size)
    (hR : Rdr w7 b bp cap T ps { q with next := n }) (kd : Int) (st : List UInt8) {e0 e1 e2 e3 f0 f1 f2 f3 : Value} {x y : Ex}
    (hx : AnE (fun g => w.heap.size ≤ g ∧ g ≠ w.heap.size ∧ g ≠ eb) w7 (.agg #[e0, e1, e2, e3]) x) (hy : AnE (fun g => w.heap.size ≤ g ∧ g ≠ w.heap.size ∧ g ≠ eb) w7 (.agg #[f0, f1, f2, f3]) y) (hl : L ⟨kd, 0, st, [x, y]⟩ n = some r) :
    LoopI w b bp cap T ps q r eb L true (((((w7.setCell ⟨eb, 0, none⟩ (.int .i64 kd)).setCell ⟨eb, 1, none⟩ (.int .i64 0)).setCell ⟨eb, 2, none⟩ (.string ⟨st.toArray⟩)).setCell ⟨eb, 3, none⟩ (.slice (some ⟨w7.heap.size, 0, none⟩) 2 2)).alloc (.cells #[e0, e1, e2, e3, f0, f1, f2, f3] 35)) := by
  have h1 := h.bsize; have h2 := h.lt; have h3 := h.far
  have kx := (kept4 eb w7 (.int .i64 kd) (.int .i64 0) (.string ⟨st.toArray⟩) (.slice (some ⟨w7.heap.size, 0, none⟩) 2 2)).alloc (.cells #[e0, e1, e2, e3, f0, f1, f2, f3] 35)
  have hrow := heap_alloc_new ((((w7.setCell ⟨eb, 0, none⟩ (.int .i64 kd)).setCell ⟨eb, 1, none⟩ (.int .i64 0)).setCell ⟨eb, 2, none⟩ (.string ⟨st.toArray⟩)).setCell ⟨eb, 3, none⟩ (.slice (some ⟨w7.heap.size, 0, none⟩) 2 2)) (.cells #[e0, e1, e2, e3, f0, f1, f2, f3] 35)
  rw [size_store4] at hrow
  refine ⟨kp.own kx (by omega), by have := kx.size; omega, hlo, (kx.block _ (by omega) (by omega)).trans hxb, kd, 0, ⟨st.toArray⟩, _, _, _, blk_alloc (store4 hec _ _ _ _) _, (fun _ => ⟨_, n, ?_, hR.own kx (by omega) (by omega) (by omega), hl⟩), (fun e => by cases e)⟩
  exact AnE.mk kd 0 st [x, y] (row2 hrow (by omega) (hx.own kx fun g hg => ⟨by omega, hg⟩) (hy.own kx fun g hg => ⟨by omega, hg⟩))

set_option maxHeartbeats 2000000 in
theorem single_loop {ps : List Tok} {E : Nat → Nat → R Ex} (hE : SaidE ps E) (w : World) (b bp cap T f : Nat) (hf : f ≤ 1000000) (q : RS) (r : Sum (Int × Int) (Ex × Nat)) (h : Rdr w b bp cap T ps q)
    (hn1 : isT (cur ps q.next) 5 [45] = false) (hn2 : isT (cur ps q.next) 5 [33] = false)
    (hr : bindR (firstM ps E f q.depth q.next) (fun x n' => idxLoop ps E q.depth f x n') = some r) :
    Calls Tryd.prog 125 #[.pointer (some ⟨b, 0, none⟩)] w (PostE b bp cap T ps q w r) := by
  have hbs := h.bsize
  have hps := h.lt
  have hfar := h.far
  have h0 := h.below ((Below.refl w.heap.size w).alloc (Nat.le_refl _) (.cells #[.int .i64 0, .int .i64 0, .string ⟨#[]⟩, .slice none 0 0] 35))
  go_enter Tryd.func125, Tryd.ntmps125
  go_wp2_with fail
  refine (peek_any _ _ _ _ _ _ _ h0).mono ?_
  rintro e w1 ⟨rfl, hb1⟩
  have h1 := h0.below hb1
  have hs1 := hb1.size
  simp at hs1
  have hx1 := (hb1.block w.heap.size (by simp)).trans (heap_alloc_new w _)
  have hp1 := heap_alloc_new w1 (.cells #[.int .i64 (cur ps q.next).kind, .int .i64 (cur ps q.next).at_, .int .i64 (cur ps q.next).n, .string ⟨(cur ps q.next).s.toArray⟩] 78)
  have hi := is_any (cur ps q.next)
  unfold Tok.val at hi ⊢
  go_wp2_with fail
  refine (hi _ _ _).mono ?_
  rintro e w2 ⟨rfl, hb2⟩
  have hs2 := hb2.size
  simp at hs2
  have hp2 := (hb2.block w1.heap.size (by simp)).trans hp1
  have pc := cells4 hp2
  go_wp2_with fail
  refine (hi _ _ _).mono ?_
  rintro e w3 ⟨rfl, hb3⟩
  have hs3 := hb3.size
  have h3 : Rdr w3 b bp cap T ps q := ((h1.below ((Below.refl w1.heap.size w1).alloc (Nat.le_refl _) _)).below hb2).below hb3
  have k3 : Kept b w w3 := (((((Kept.refl b w).alloc _).trans (Kept.of_below hb1)).alloc _).trans (Kept.of_below hb2)).trans (Kept.of_below hb3)
  have hx3 := (hb3.block w.heap.size (by omega)).trans ((hb2.block w.heap.size (by simp; omega)).trans (blk_alloc hx1 _))
  clear hi hp2 pc hp1 hx1 h1
  go_wp2_with fail
  have hfst : ∃ rf, firstM ps E f q.depth q.next = some rf := by
    rcases bindR_some hr with ⟨k, h5, _⟩ | ⟨x, n, h5, _⟩
    · exact ⟨_, h5⟩
    · exact ⟨_, h5⟩
  obtain ⟨rf, hrf⟩ := hfst
  refine (firstPart_any hE _ b bp cap T f hf q rf h3 hrf).mono ?_
  intro e w4 hP
  have hL : ∃ (v0 v1 : Int) (v2 : ByteArray) (a3 : Option Addr) (l3 c3 : Nat) (ok : Bool), e = .returned (.tuple #[.agg #[.int .i64 v0, .int .i64 v1, .string v2, .slice a3 l3 c3], .bool ok]) ∧
      LoopI w b bp cap T ps q r w4.heap.size (fun x n => idxLoop ps E q.depth f x n) ok (w4.alloc (.cells #[.int .i64 v0, .int .i64 v1, .string v2, .slice a3 l3 c3] 35)) := by
    obtain ⟨k4, hP⟩ := hP
    have hs4 := k4.size
    have hx4 := (k4.block w.heap.size (by omega) (by omega)).trans hx3
    cases rf with
    | inl k =>
      obtain ⟨v, n', ⟨v0, v1, v2, a3, l3, c3, rfl⟩, rfl, hR⟩ := hP
      rcases bindR_some hr with ⟨k', h5, h6⟩ | ⟨x, n, h5, _⟩
      · rw [hrf] at h5
        cases h5
        exact ⟨v0, v1, v2, a3, l3, c3, false, rfl, (k3.trans k4).alloc _, by simp, by omega, blk_alloc hx4 _, v0, v1, v2, a3, l3, c3, heap_alloc_new _ _, (fun e => by cases e), fun _ => ⟨k, n', h6, hR.below ((Below.refl _ _).alloc (Nat.le_refl _) _)⟩⟩
      · rw [hrf] at h5; cases h5
    | inr x =>
      obtain ⟨v, rfl, hA, hR⟩ := hP
      obtain ⟨v0, v1, v2, a3, l3, c3, rfl⟩ := hA.sh
      rcases bindR_some hr with ⟨k', h5, h6⟩ | ⟨y, n, h5, h6⟩
      · rw [hrf] at h5; cases h5
      · rw [hrf] at h5
        cases h5
        exact ⟨v0, v1, v2, a3, l3, c3, true, rfl, (k3.trans k4).alloc _, by simp, by omega, blk_alloc hx4 _, v0, v1, v2, a3, l3, c3, heap_alloc_new _ _, (fun _ => ⟨y, n, hA.move fun g hg hlt => ⟨by omega, Below.heap_alloc _ _ _ hlt⟩, hR.below ((Below.refl _ _).alloc (Nat.le_refl _) _), h6⟩), fun e => by cases e⟩
  clear hP hr hrf
  obtain ⟨v0, v1, v2, a3, l3, c3, ok, rfl, hL⟩ := hL
  go_wp2_with fail
  generalize w4.heap.size = eb at hL ⊢
  go_loopg [6] f (fun g s6 wr => ∃ ok, s6 = .bool ok ∧ LoopI w b bp cap T ps q r eb (fun x n => idxLoop ps E q.depth g x n) ok wr)
  case atStart => exact ⟨ok, rfl, hL⟩
  case round =>
    clear hL
    obtain ⟨ok, rfl, hI⟩ := hrel
    have hsz := hI.sz
    have hlo := hI.lo
    obtain ⟨e0, e1, e2, ea, el, ec, hec, hgood, hbad⟩ := hI.ec
    have hxb := hI.xb
    cases ok with
    | false =>
      obtain ⟨k, n', rfl, hR⟩ := hbad rfl
      clear hgood hbad
      have hx4 := cells4 hxb
      have hxz := thaw4 hxb
      have he4 := cells4 hec
      go_wp2_with fail
      exact fin_expr Tryd.results125 rfl rfl rfl (store4 hxb _ _ _ _) (postE_bad h hI.kp (kept4 _ _ _ _ _ _) (Nat.le_refl _) hR)
    | true =>
      obtain ⟨x, n, hA, hR, hl⟩ := hgood rfl
      clear hgood hbad
      cases gk with
      | zero => cases hl
      | succ g =>
        simp only [idxLoop] at hl
        by_cases hT : isT (cur ps n) 5 [91] = true
        · rw [if_pos hT] at hl
          go_wp2_with fail
          refine (skip_yes _ _ _ _ _ _ _ _ _ hR rfl hT).mono ?_
          rintro e w5 ⟨rfl, hR5, k5⟩
          have hs5 := k5.size
          have hA5 := hA.kept k5 (fun g hg => by omega)
          have hec5 := (k5.block eb (by omega) (by omega)).trans hec
          have hxb5 := (k5.block w.heap.size (by omega) (by omega)).trans hxb
          have kp5 := hI.kp.trans k5
          clear hR hI hxb hec hA
          go_wp2_with fail
          rcases bindR_some hl with ⟨k, h5, rfl⟩ | ⟨y, n5, h5, h6⟩
          · refine (hE _ _ _ _ _ _ _ (hR5.below ((Below.refl _ _).alloc (Nat.le_refl _) _)) h5).mono ?_
            rintro e w6 ⟨k6, v, n', ⟨f0, f1, f2, fa, fl, fc, rfl⟩, rfl, hR6⟩
            have hs6 := k6.size
            simp at hs6
            have hpb6 := (k6.block w5.heap.size (by simp) (by omega)).trans (heap_alloc_new w5 _)
            have hec6 := (k6.block eb (by simp; omega) (by omega)).trans (blk_alloc hec5 _)
            have hxb6 := (k6.block w.heap.size (by simp; omega) (by omega)).trans (blk_alloc hxb5 _)
            have p4 := cells4 hpb6
            have pz := thaw4 hpb6
            have e4 := cells4 hec6
            have ez := thaw4 hec6
            have hne : ¬ eb = w5.heap.size := by omega
            have hne' : ¬ w5.heap.size = eb := by omega
            have hlt6 : eb < w6.heap.size := by omega
            have hlt7 : w5.heap.size < w6.heap.size := by omega
            go_wp2_with fail
            go_roundg g
            case measure => omega
            case rel =>
              have kx := kept4 w5.heap.size w6 (.int .i64 f0) (.int .i64 f1) (.string f2) (.slice fa fl fc)
              have hz6 := kx.size
              exact ⟨false, rfl, loop_bad h ((kp5.trans (((Kept.refl _ _).alloc _).trans k6)).own kx (by omega)) hlo ((kx.block _ (by omega) (by omega)).trans hxb6) ((kx.block _ (by omega) (by omega)).trans hec6) (by omega) (hR6.own kx (by omega) (by omega) (by omega)) _ _ _ _ _ _⟩
          · refine (hE _ _ _ _ _ _ _ (hR5.below ((Below.refl _ _).alloc (Nat.le_refl _) _)) h5).mono ?_
            rintro e w6 ⟨k6, v, rfl, hAy, hR6⟩
            obtain ⟨f0, f1, f2, fa, fl, fc, rfl⟩ := hAy.sh
            have hs6 := k6.size
            simp at hs6
            have hpb6 := (k6.block w5.heap.size (by simp) (by omega)).trans (heap_alloc_new w5 _)
            have hec6 := (k6.block eb (by simp; omega) (by omega)).trans (blk_alloc hec5 _)
            have hxb6 := (k6.block w.heap.size (by simp; omega) (by omega)).trans (blk_alloc hxb5 _)
            have p4 := cells4 hpb6
            have pz := thaw4 hpb6
            have kx := kept4 w5.heap.size w6 (.int .i64 f0) (.int .i64 f1) (.string f2) (.slice fa fl fc)
            have hz6 := kx.size
            have kp7 := ((kp5.trans (((Kept.refl _ _).alloc _).trans k6)).own kx (by omega))
            have hR7 := hR6.own kx (by omega) (by omega) (by omega)
            have hpb7 := store4 hpb6 (.int .i64 f0) (.int .i64 f1) (.string f2) (.slice fa fl fc)
            have hec7 := (kx.block _ (by omega) (by omega)).trans hec6
            have hxb7 := (kx.block _ (by omega) (by omega)).trans hxb6
            have hAx7 : AnE (fun g => w.heap.size ≤ g ∧ g ≠ w.heap.size ∧ g ≠ eb) _ _ x := hA5.move fun g hg hlt => ⟨hg, (kx.block g (by omega) (by omega)).trans ((k6.block g (by simp; omega) (by omega)).trans (Below.heap_alloc _ _ _ hlt))⟩
            have hAy7 : AnE (fun g => w.heap.size ≤ g ∧ g ≠ w.heap.size ∧ g ≠ eb) _ _ y := hAy.move fun g hg hlt => ⟨by simp at hg; omega, kx.block g hlt (by simp at hg; omega)⟩
            clear hAy hA5
            go_wp2_with fail
            generalize ((((w6.setCell ⟨w5.heap.size, 0, none⟩ (.int .i64 f0)).setCell ⟨w5.heap.size, 1, none⟩ (.int .i64 f1)).setCell ⟨w5.heap.size, 2, none⟩ (.string f2)).setCell ⟨w5.heap.size, 3, none⟩ (.slice fa fl fc)) = w7 at *
            rcases bindR_some h6 with ⟨k, h7, rfl⟩ | ⟨u, n7, h7, h8⟩
            · rcases needM_some h7 with ⟨hT7, h9⟩ | ⟨hT7, h9⟩
              · cases h9
              · cases h9
                refine (mark_no _ _ _ _ _ _ _ _ hR7 hT7).mono ?_
                rintro e w8 ⟨rfl, hR8, k8⟩
                have hs8 := k8.size
                have hec8 := (k8.block _ (by omega) (by omega)).trans hec7
                have hpb8 := (k8.block _ (by omega) (by omega)).trans hpb7
                have p48 := cells4 hpb8
                have e48 := cells4 hec8
                have ez8 := thaw4 hec8
                have hlt8 : eb < w8.heap.size := by omega
                go_wp2_with fail
                go_roundg g
                case measure => omega
                case rel =>
                  exact ⟨false, rfl, loop_bad h (kp7.trans k8) hlo ((k8.block _ (by omega) (by omega)).trans hxb7) hec8 (by omega) hR8 _ _ _ _ _ _⟩
            · rcases needM_some h7 with ⟨hT7, h9⟩ | ⟨hT7, h9⟩
              · cases h9
                refine (mark_yes _ _ _ _ _ _ _ _ hR7 hT7).mono ?_
                rintro e w8 ⟨rfl, hR8, k8⟩
                have hs8 := k8.size
                have hec8 := (k8.block _ (by omega) (by omega)).trans hec7
                have hpb8 := (k8.block _ (by omega) (by omega)).trans hpb7
                have p48 := cells4 hpb8
                have e48 := cells4 hec8
                have ez8 := thaw4 hec8
                have hlt8 : eb < w8.heap.size := by omega
                go_wp2_with fail
                go_roundg g
                case measure => omega
                case rel =>
                  exact ⟨true, rfl, loop_ok h (kp7.trans k8) hlo ((k8.block _ (by omega) (by omega)).trans hxb7) hec8 (by omega) hR8 9 [] (hAx7.kept k8 (fun g hg => by omega)) (hAy7.kept k8 (fun g hg => by omega)) h8⟩
              · cases h9
        · rw [if_neg hT] at hl
          have hT' : isT (cur ps n) 5 [91] = false := by simpa using hT
          clear hT
          cases hl
          go_wp2_with fail
          refine (skip_no _ _ _ _ _ _ _ _ _ hR hT').mono ?_
          rintro e w5 ⟨rfl, hR5, k5⟩
          have hs5 := k5.size
          have hec5 := (k5.block eb (by omega) (by omega)).trans hec
          have hxb5 := (k5.block w.heap.size (by omega) (by omega)).trans hxb
          have hx4 := cells4 hxb5
          have hxz := thaw4 hxb5
          have he4 := cells4 hec5
          have hA5 : AnE (fun g => w.heap.size ≤ g ∧ g ≠ w.heap.size) _ _ x := (hA.kept k5 (fun g hg => by omega)).move fun g hg _ => ⟨⟨hg.1, hg.2.1⟩, rfl⟩
          have kp5 := hI.kp.trans k5
          clear hI hA
          go_wp2_with fail
          exact fin_expr Tryd.results125 rfl rfl rfl (store4 hxb5 _ _ _ _) (postE_ok h kp5 (kept4 _ _ _ _ _ _) (Nat.le_refl _) hR5 hA5)

end Go.Proofs.YtgifghcaeoinoaaDoor
