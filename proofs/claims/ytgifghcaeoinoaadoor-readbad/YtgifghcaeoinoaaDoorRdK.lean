/-
  Words that look like calls: keywordPart.
-/
import Derived.Test.YtgifghcaeoinoaaDoorRdJ
namespace Go.Proofs.YtgifghcaeoinoaaDoor
open Go.RowKit
set_option linter.unusedSimpArgs false
set_option linter.unusedVariables false

@[go_sem] theorem fld_like_0 (x0 x1 : Value) (w : World) : (Instr.field 158 (.agg #[x0, x1]) 0).run Tryd.prog w = .ok x0 w := by kernel_rfl
@[go_sem] theorem fld_like_1 (x0 x1 : Value) (w : World) : (Instr.field 158 (.agg #[x0, x1]) 1).run Tryd.prog w = .ok x1 w := by kernel_rfl

theorem heap_alloc3 (w : World) (o1 o2 o3 : Obj) : (((w.alloc o1).alloc o2).alloc o3).heap[w.heap.size + 2]? = some o3 := by
  have := heap_alloc_new ((w.alloc o1).alloc o2) o3
  simpa using this

theorem heap_alloc4 (w : World) (o1 o2 o3 o4 : Obj) : ((((w.alloc o1).alloc o2).alloc o3).alloc o4).heap[w.heap.size + 3]? = some o4 := by
  have := heap_alloc_new (((w.alloc o1).alloc o2).alloc o3) o4
  simpa using this

set_option maxHeartbeats 2000000 in
theorem keywordPart_any {ps : List Tok} {E : Nat → Nat → R Ex} (hE : SaidE ps E) (w : World) (b bp cap T f : Nat) (hf : f ≤ 1000000) (q : RS) (r : Sum (Int × Int) (Ex × Nat)) (h : Rdr w b bp cap T ps q)
    (hk : ((cur ps q.next).kind != 0) = true) (hr : keywordPartM ps E f q.depth q.next = some r) :
    Calls Tryd.prog 131 #[.pointer (some ⟨b, 0, none⟩), (cur ps q.next).val] w (PostE b bp cap T ps q w r) := by
  have hbs := h.bsize
  have hps := h.lt
  have hfar := h.far
  have h0 := fun o1 o2 => h.below (((Below.refl w.heap.size w).alloc (Nat.le_refl _) o1).alloc (by simp) o2)
  unfold keywordPartM at hr
  unfold Tok.val
  by_cases h1 : ((cur ps q.next).s == [116, 114, 117, 101]) = true
  · rw [if_pos h1] at hr
    cases hr
    go_enter Tryd.func131, Tryd.ntmps131
    go_wp2_with fail
    refine (step_any _ _ _ _ _ _ _ (h0 _ _) hk).mono ?_
    rintro e w1 ⟨rfl, hR, k1⟩
    have hblk := (k1.block (w.heap.size + 1) (by simp) (by omega)).trans (heap_alloc2 w _ _).2
    have hc := cells4 hblk
    have hz := thaw4 hblk
    have hA' : AnE (fun g => w.heap.size ≤ g ∧ g ≠ w.heap.size + 1) w1 _ _ := AnE.mk 3 1 [] [] ⟨[], .inl ⟨rfl, rfl, rfl⟩, trivial⟩
    go_wp2_with fail
    exact fin_expr Tryd.results131 rfl rfl rfl (store4 hblk _ _ _ _) (postE_ok h ((((Kept.refl _ _).alloc _).alloc _).trans k1) (kept4 _ _ _ _ _ _) (by omega) hR hA')
  · rw [if_neg h1] at hr
    have h1' : ((cur ps q.next).s == [116, 114, 117, 101]) = false := by simpa using h1
    clear h1
    by_cases h2 : ((cur ps q.next).s == [102, 97, 108, 115, 101]) = true
    · rw [if_pos h2] at hr
      cases hr
      go_enter Tryd.func131, Tryd.ntmps131
      go_wp2_with fail
      refine (step_any _ _ _ _ _ _ _ (h0 _ _) hk).mono ?_
      rintro e w1 ⟨rfl, hR, k1⟩
      have hblk := (k1.block (w.heap.size + 1) (by simp) (by omega)).trans (heap_alloc2 w _ _).2
      have hc := cells4 hblk
      have hz := thaw4 hblk
      have hA' : AnE (fun g => w.heap.size ≤ g ∧ g ≠ w.heap.size + 1) w1 _ _ := AnE.mk 3 0 [] [] ⟨[], .inl ⟨rfl, rfl, rfl⟩, trivial⟩
      go_wp2_with fail
      exact fin_expr Tryd.results131 rfl rfl rfl (store4 hblk _ _ _ _) (postE_ok h ((((Kept.refl _ _).alloc _).alloc _).trans k1) (kept4 _ _ _ _ _ _) (by omega) hR hA')
    · rw [if_neg h2] at hr
      have h2' : ((cur ps q.next).s == [102, 97, 108, 115, 101]) = false := by simpa using h2
      clear h2
      generalize hkk : (likeV (cur ps q.next).s).1 = kk
      generalize hcc : (likeV (cur ps q.next).s).2 = cc
      generalize hfd : (callLike (cur ps q.next).s).isSome = fd
      have hlk : ∀ (W : World) (B : Nat), W.heap[B]? = some (.map likeEs 4) → (Instr.lookup 160 (.map (some B)) (.string ⟨(cur ps q.next).s.toArray⟩) true).run Tryd.prog W = .ok (.tuple #[.agg #[.int .i64 kk, .int .i64 cc], .bool fd]) W := by
        intro W B hB
        rw [look_like W B _ hB, hkk, hcc, hfd]
      have HKK : Hid ((likeV (cur ps q.next).s).1 = kk) := hkk
      have HCC : Hid ((likeV (cur ps q.next).s).2 = cc) := hcc
      have HFD : Hid ((callLike (cur ps q.next).s).isSome = fd) := hfd
      clear hkk hcc hfd
      go_enter Tryd.func131, Tryd.ntmps131
      go_wp2_with fail
      go_cut [6, 7] (fun s6 s7 wc => ∃ cb, s6 = .pointer (some ⟨cb, 0, none⟩) ∧ s7 = .bool fd ∧ w.heap.size + 2 ≤ cb ∧ wc.heap[cb]? = some (.cells #[.int .i64 kk, .int .i64 cc] 158 (0, 0)) ∧
        Below (w.heap.size + 2) ((w.alloc (.cells #[.int .i64 (cur ps q.next).kind, .int .i64 (cur ps q.next).at_, .int .i64 (cur ps q.next).n, .string ⟨(cur ps q.next).s.toArray⟩] 78)).alloc (.cells #[.int .i64 0, .int .i64 0, .string ⟨#[]⟩, .slice none 0 0] 35)) wc)
      case first =>
        have hl1 := hlk ((((w.alloc (.cells #[.int .i64 (cur ps q.next).kind, .int .i64 (cur ps q.next).at_, .int .i64 (cur ps q.next).n, .string ⟨(cur ps q.next).s.toArray⟩] 78)).alloc (.cells #[.int .i64 0, .int .i64 0, .string ⟨#[]⟩, .slice none 0 0] 35)).alloc (.map likeEs 4)).drew) (w.heap.size + 2) (blk_drew (heap_alloc3 w _ _ _))
        have hl2 := hlk (((((w.alloc (.cells #[.int .i64 (cur ps q.next).kind, .int .i64 (cur ps q.next).at_, .int .i64 (cur ps q.next).n, .string ⟨(cur ps q.next).s.toArray⟩] 78)).alloc (.cells #[.int .i64 0, .int .i64 0, .string ⟨#[]⟩, .slice none 0 0] 35)).alloc (.map likeEs 4)).alloc (.cells #[.int .i64 0, .int .i64 0] 158)).drew) (w.heap.size + 2) (blk_drew (blk_alloc (heap_alloc3 w _ _ _) _))
        have hl3 := hlk (((((w.alloc (.cells #[.int .i64 (cur ps q.next).kind, .int .i64 (cur ps q.next).at_, .int .i64 (cur ps q.next).n, .string ⟨(cur ps q.next).s.toArray⟩] 78)).alloc (.cells #[.int .i64 0, .int .i64 0, .string ⟨#[]⟩, .slice none 0 0] 35)).alloc (.cells #[.int .i64 0, .int .i64 0] 158)).alloc (.map likeEs 4)).drew) (w.heap.size + 3) (blk_drew (heap_alloc4 w _ _ _ _))
        clear hlk
        go_region_with (go_at_call 133; refine (callLikes_any _).mono ?_; rintro e w1 ⟨rfl, rfl⟩)
        all_goals
          go_wp2_with fail
          go_meet
          case rel =>
            first
              | exact ⟨_, rfl, rfl, by omega, blk_drew (heap_alloc4 w _ _ _ _), ((((Below.refl _ _).alloc (by simp) _).alloc (by simp) _).drew)⟩
              | exact ⟨_, rfl, rfl, by omega, blk_drew (blk_alloc (heap_alloc3 w _ _ _) _), ((((Below.refl _ _).alloc (by simp) _).alloc (by simp) _).drew)⟩
      case rest =>
        obtain ⟨cb, rfl, rfl, hcb, hcl, hbw⟩ := hcut
        have hpb := (hbw.block w.heap.size (by omega)).trans (heap_alloc2 w _ _).1
        have hxb := (hbw.block (w.heap.size + 1) (by omega)).trans (heap_alloc2 w _ _).2
        have hRc := (h0 _ _).below (by simpa using hbw)
        have kc : Kept b w wc := (((Kept.refl b w).alloc _).alloc _).trans (Kept.of_below (by simpa using hbw))
        have hsz := hbw.size
        simp at hsz
        have hcbs : cb < wc.heap.size := by
          rcases Nat.lt_or_ge cb wc.heap.size with hb | hb
          · exact hb
          · rw [Array.getElem?_eq_none hb] at hcl; cases hcl
        have hx4 := cells4 hxb
        have hxz := thaw4 hxb
        rcases hcl2 : callLike (cur ps q.next).s with _ | ⟨k, c⟩
        · rw [hcl2] at hr
          cases hr
          have hfd : fd = false := by rw [← HFD.out, hcl2]; rfl
          subst hfd
          clear hlk
          go_wp2_with fail
          refine (refuse_any _ _ _ _ _ _ _ hRc).mono ?_
          rintro e w1 ⟨rfl, hR, k1⟩
          have hblk := (k1.block (w.heap.size + 1) (by omega) (by omega)).trans hxb
          have hc := cells4 hblk
          have hz := thaw4 hblk
          go_wp2_with fail
          exact fin_expr Tryd.results131 rfl rfl rfl (store4 hblk _ _ _ _) (postE_bad h (kc.trans k1) (kept4 _ _ _ _ _ _) (by omega) hR)
        · rw [hcl2] at hr
          have hfd : fd = true := by rw [← HFD.out, hcl2]; rfl
          have hkk : kk = k := by rw [← HKK.out, likeV, hcl2]; rfl
          have hcc : cc = c := by rw [← HCC.out, likeV, hcl2]; rfl
          subst hfd hkk hcc
          clear hlk HKK HCC HFD
          go_wp2_with fail
          refine (step_any _ _ _ _ _ _ _ hRc hk).mono ?_
          rintro e w1 ⟨rfl, hR1, k1⟩
          have hs1 := k1.size
          go_wp2_with fail
          rcases bindR_some hr with ⟨er, h5, rfl⟩ | ⟨l, n5, h5, h6⟩
          · refine (arguments_any hE _ b bp cap T f hf _ _ hR1 h5).mono ?_
            rintro e w2 ⟨k2, a, l, c, n', rfl, hR⟩
            have hblk := (k2.block (w.heap.size + 1) (by omega) (by omega)).trans ((k1.block (w.heap.size + 1) (by omega) (by omega)).trans hxb)
            have hc := cells4 hblk
            have hz := thaw4 hblk
            have hcb2 := (k2.block cb (by omega) (by omega)).trans ((k1.block cb (by omega) (by omega)).trans hcl)
            have c0 : w2.cell? ⟨cb, 0, none⟩ = some (.int .i64 kk) := by simp [World.cell?, hcb2]
            have c1 : w2.cell? ⟨cb, 1, none⟩ = some (.int .i64 cc) := by simp [World.cell?, hcb2]
            go_wp2_with fail
            exact fin_expr Tryd.results131 rfl rfl rfl (store4 hblk _ _ _ _) (postE_bad h (kc.trans (k1.trans k2)) (kept4 _ _ _ _ _ _) (by omega) hR)
          · refine (arguments_any hE _ b bp cap T f hf _ _ hR1 h5).mono ?_
            rintro e w2 ⟨k2, a, c, rfl, hA, hR⟩
            have hs2 := k2.size
            have hblk := (k2.block (w.heap.size + 1) (by omega) (by omega)).trans ((k1.block (w.heap.size + 1) (by omega) (by omega)).trans hxb)
            have hc := cells4 hblk
            have hz := thaw4 hblk
            have hcb2 := (k2.block cb (by omega) (by omega)).trans ((k1.block cb (by omega) (by omega)).trans hcl)
            have hpb2 := (k2.block w.heap.size (by omega) (by omega)).trans ((k1.block w.heap.size (by omega) (by omega)).trans hpb)
            obtain ⟨_, p1, _, _⟩ := cells4 hpb2
            have c0 : w2.cell? ⟨cb, 0, none⟩ = some (.int .i64 kk) := by simp [World.cell?, hcb2]
            have c1 : w2.cell? ⟨cb, 1, none⟩ = some (.int .i64 cc) := by simp [World.cell?, hcb2]
            by_cases hcnt : countBad cc l.length = true
            · rw [if_pos hcnt] at h6
              cases h6
              have hb1 : (cc != -1) = true := by simp [countBad] at hcnt; simpa using hcnt.1
              have hb2 : ((l.length : Int) != cc) = true := by simp [countBad] at hcnt; simpa using hcnt.2
              go_wp2_with fail
              refine (fail_any _ _ _ _ _ _ _ _ _ hR).mono ?_
              rintro e w3 ⟨rfl, hR3, k3⟩
              have hblk3 := (k3.block (w.heap.size + 1) (by omega) (by omega)).trans hblk
              have hc3 := cells4 hblk3
              have hz3 := thaw4 hblk3
              have hcb3 := (k3.block cb (by omega) (by omega)).trans hcb2
              have c03 : w3.cell? ⟨cb, 0, none⟩ = some (.int .i64 kk) := by simp [World.cell?, hcb3]
              go_wp2_with fail
              exact fin_expr Tryd.results131 rfl rfl rfl (store4 hblk3 _ _ _ _) (postE_bad h (kc.trans (k1.trans (k2.trans k3))) (kept4 _ _ _ _ _ _) (by omega) hR3)
            · rw [if_neg hcnt] at h6
              cases h6
              have hA' : AnE (fun g => w.heap.size ≤ g ∧ g ≠ w.heap.size + 1) w2 _ _ := AnE.mk kk 0 [] l (hA.weak (S' := fun g => w.heap.size ≤ g ∧ g ≠ w.heap.size + 1) (Q := AnE (fun g => w.heap.size ≤ g ∧ g ≠ w.heap.size + 1) w2) (fun g hg => by omega) (fun u x hx => hx.move fun g hg _ => ⟨by omega, rfl⟩))
              clear hA
              rcases hb1 : (cc != -1) with _ | _
              · go_wp2_with fail
                exact fin_expr Tryd.results131 rfl rfl rfl (store4 hblk _ _ _ _) (postE_ok h (kc.trans (k1.trans k2)) (kept4 _ _ _ _ _ _) (by omega) hR hA')
              · have hb2 : ((l.length : Int) != cc) = false := by
                  simp only [countBad, hb1, Bool.true_and] at hcnt
                  simpa using hcnt
                go_wp2_with fail
                exact fin_expr Tryd.results131 rfl rfl rfl (store4 hblk _ _ _ _) (postE_ok h (kc.trans (k1.trans k2)) (kept4 _ _ _ _ _ _) (by omega) hR hA')

end Go.Proofs.YtgifghcaeoinoaaDoor
