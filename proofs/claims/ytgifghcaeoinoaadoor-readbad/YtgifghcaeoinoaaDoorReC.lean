/-
  Statements by their first word: keywordStatement. The models of the loop and of the switch are given.
-/
import Derived.Test.YtgifghcaeoinoaaDoorReC0
import Derived.Test.YtgifghcaeoinoaaDoorRdY
namespace Go.Proofs.YtgifghcaeoinoaaDoor
open Go.RowKit
set_option linter.unusedSimpArgs false
set_option linter.unusedVariables false

def keywordStN (ps : List Tok) (E : Nat → Nat → R Ex) (I LP SW : Nat → Nat → R St) (f d : Nat) (p : Tok) (n : Nat) : R St :=
  if p.s == [105, 102] then I d n
  else if p.s == [102, 111, 114] then LP d n
  else if p.s == [115, 119, 105, 116, 99, 104] then SW d n
  else if p.s == [114, 101, 116, 117, 114, 110] then returnM ps E d n
  else if p.s == [112, 114, 105, 110, 116] then printM ps E f d n
  else if p.s == [98, 114, 101, 97, 107] then okR (st0 10 [] []) n
  else if p.s == [99, 111, 110, 116, 105, 110, 117, 101] then okR (st0 11 [] []) n
  else if p.s == [100, 101, 108, 101, 116, 101] then deleteM ps E d n
  else badR (p.at_, 4)

set_option maxHeartbeats 20000000 in
theorem keywordSt_any {ps : List Tok} {E : Nat → Nat → R Ex} {I LP SW : Nat → Nat → R St} (hE : SaidE ps E) (hI : SaidIf ps I) (hLP : SaidF 99 ps LP) (hSW : SaidF 100 ps SW)
    (w : World) (b bp cap T f : Nat) (hf : f ≤ 1000000) (q : RS) (p : Tok) (r : Sum (Int × Int) (St × Nat)) (h : Rdr w b bp cap T ps q) (hr : keywordStN ps E I LP SW f q.depth p q.next = some r) :
    Calls Tryd.prog 88 #[.pointer (some ⟨b, 0, none⟩), p.val] w (PostS b bp cap T ps q w r) := by
  have hbs := h.bsize
  have hps := h.lt
  have hfar := h.far
  have h0 := h.below (((Below.refl w.heap.size w).alloc (Nat.le_refl _) (.cells #[.int .i64 p.kind, .int .i64 p.at_, .int .i64 p.n, .string ⟨p.s.toArray⟩] 78)).alloc (by simp) (.cells #[.int .i64 0, .string ⟨#[]⟩, .string ⟨#[]⟩, .slice none 0 0, .slice none 0 0, .slice none 0 0, .slice none 0 0] 39))
  have k0 : Kept b w ((w.alloc (.cells #[.int .i64 p.kind, .int .i64 p.at_, .int .i64 p.n, .string ⟨p.s.toArray⟩] 78)).alloc (.cells #[.int .i64 0, .string ⟨#[]⟩, .string ⟨#[]⟩, .slice none 0 0, .slice none 0 0, .slice none 0 0, .slice none 0 0] 39)) := ((Kept.refl _ _).alloc _).alloc _
  have hx0 := (heap_alloc2 w (.cells #[.int .i64 p.kind, .int .i64 p.at_, .int .i64 p.n, .string ⟨p.s.toArray⟩] 78) (.cells #[.int .i64 0, .string ⟨#[]⟩, .string ⟨#[]⟩, .slice none 0 0, .slice none 0 0, .slice none 0 0, .slice none 0 0] 39)).2
  unfold keywordStN at hr
  unfold Tok.val
  by_cases h1 : (p.s == [105, 102]) = true
  · rw [if_pos h1] at hr
    go_enter Tryd.func88, Tryd.ntmps88
    go_wp2_with fail
    refine (hI _ _ _ _ _ _ _ h0 hr).mono ?_
    intro e w2 hP
    obtain ⟨k2, v0, v1, v2, a3, l3, c3, a4, l4, c4, a5, l5, c5, a6, l6, c6, ok, rfl⟩ := hP.sh
    have hblk := (k2.block (w.heap.size + 1) (by simp) (by omega)).trans hx0
    have hc := cells7 hblk
    have hz := thaw4 hblk
    have HP : Hid (_) := hP
    clear hP
    go_wp2_with fail
    exact fin_stmt Tryd.results88 rfl rfl rfl (store7 hblk _ _ _ _ _ _ _) (PostS.fwd h k0 (by omega) (by simp) HP.out (kept7 _ _ _ _ _ _ _ _ _))
  · rw [if_neg h1] at hr
    have h1' : (p.s == [105, 102]) = false := by simpa using h1
    clear h1
    by_cases h2 : (p.s == [102, 111, 114]) = true
    · rw [if_pos h2] at hr
      go_enter Tryd.func88, Tryd.ntmps88
      go_wp2_with fail
      refine (hLP _ _ _ _ _ _ _ h0 hr).mono ?_
      intro e w2 hP
      obtain ⟨k2, v0, v1, v2, a3, l3, c3, a4, l4, c4, a5, l5, c5, a6, l6, c6, ok, rfl⟩ := hP.sh
      have hblk := (k2.block (w.heap.size + 1) (by simp) (by omega)).trans hx0
      have hc := cells7 hblk
      have hz := thaw4 hblk
      have HP : Hid (_) := hP
      clear hP
      go_wp2_with fail
      exact fin_stmt Tryd.results88 rfl rfl rfl (store7 hblk _ _ _ _ _ _ _) (PostS.fwd h k0 (by omega) (by simp) HP.out (kept7 _ _ _ _ _ _ _ _ _))
    · rw [if_neg h2] at hr
      have h2' : (p.s == [102, 111, 114]) = false := by simpa using h2
      clear h2
      by_cases h3 : (p.s == [115, 119, 105, 116, 99, 104]) = true
      · rw [if_pos h3] at hr
        go_enter Tryd.func88, Tryd.ntmps88
        go_wp2_with fail
        refine (hSW _ _ _ _ _ _ _ h0 hr).mono ?_
        intro e w2 hP
        obtain ⟨k2, v0, v1, v2, a3, l3, c3, a4, l4, c4, a5, l5, c5, a6, l6, c6, ok, rfl⟩ := hP.sh
        have hblk := (k2.block (w.heap.size + 1) (by simp) (by omega)).trans hx0
        have hc := cells7 hblk
        have hz := thaw4 hblk
        have HP : Hid (_) := hP
        clear hP
        go_wp2_with fail
        exact fin_stmt Tryd.results88 rfl rfl rfl (store7 hblk _ _ _ _ _ _ _) (PostS.fwd h k0 (by omega) (by simp) HP.out (kept7 _ _ _ _ _ _ _ _ _))
      · rw [if_neg h3] at hr
        have h3' : (p.s == [115, 119, 105, 116, 99, 104]) = false := by simpa using h3
        clear h3
        by_cases h4 : (p.s == [114, 101, 116, 117, 114, 110]) = true
        · rw [if_pos h4] at hr
          go_enter Tryd.func88, Tryd.ntmps88
          go_wp2_with fail
          refine (return_any hE _ _ _ _ _ _ _ h0 hr).mono ?_
          intro e w2 hP
          obtain ⟨k2, v0, v1, v2, a3, l3, c3, a4, l4, c4, a5, l5, c5, a6, l6, c6, ok, rfl⟩ := hP.sh
          have hblk := (k2.block (w.heap.size + 1) (by simp) (by omega)).trans hx0
          have hc := cells7 hblk
          have hz := thaw4 hblk
          have HP : Hid (_) := hP
          clear hP
          go_wp2_with fail
          exact fin_stmt Tryd.results88 rfl rfl rfl (store7 hblk _ _ _ _ _ _ _) (PostS.fwd h k0 (by omega) (by simp) HP.out (kept7 _ _ _ _ _ _ _ _ _))
        · rw [if_neg h4] at hr
          have h4' : (p.s == [114, 101, 116, 117, 114, 110]) = false := by simpa using h4
          clear h4
          by_cases h5 : (p.s == [112, 114, 105, 110, 116]) = true
          · rw [if_pos h5] at hr
            go_enter Tryd.func88, Tryd.ntmps88
            go_wp2_with fail
            refine (print_any hE _ _ _ _ _ f hf _ _ h0 hr).mono ?_
            intro e w2 hP
            obtain ⟨k2, v0, v1, v2, a3, l3, c3, a4, l4, c4, a5, l5, c5, a6, l6, c6, ok, rfl⟩ := hP.sh
            have hblk := (k2.block (w.heap.size + 1) (by simp) (by omega)).trans hx0
            have hc := cells7 hblk
            have hz := thaw4 hblk
            have HP : Hid (_) := hP
            clear hP
            go_wp2_with fail
            exact fin_stmt Tryd.results88 rfl rfl rfl (store7 hblk _ _ _ _ _ _ _) (PostS.fwd h k0 (by omega) (by simp) HP.out (kept7 _ _ _ _ _ _ _ _ _))
          · rw [if_neg h5] at hr
            have h5' : (p.s == [112, 114, 105, 110, 116]) = false := by simpa using h5
            clear h5
            by_cases h6 : (p.s == [98, 114, 101, 97, 107]) = true
            · rw [if_pos h6] at hr
              cases hr
              go_enter Tryd.func88, Tryd.ntmps88
              have hc := cells7 hx0
              have hz := thaw4 hx0
              go_wp2_with fail
              exact fin_stmt Tryd.results88 rfl rfl rfl (heap_alloc2 w _ _).2 (postS_ok (x := w.heap.size + 1) h (Kept.refl _ _) (((Kept.refl _ _).alloc _).alloc _) (by omega) h (AnS.mk 10 [] [] [] [] [] [] (Row.nil _ _ _) (Row.nil _ _ _) (Row.nil _ _ _) (Row.nil _ _ _)))
            · rw [if_neg h6] at hr
              have h6' : (p.s == [98, 114, 101, 97, 107]) = false := by simpa using h6
              clear h6
              by_cases h7 : (p.s == [99, 111, 110, 116, 105, 110, 117, 101]) = true
              · rw [if_pos h7] at hr
                cases hr
                go_enter Tryd.func88, Tryd.ntmps88
                have hc := cells7 hx0
                have hz := thaw4 hx0
                go_wp2_with fail
                exact fin_stmt Tryd.results88 rfl rfl rfl (heap_alloc2 w _ _).2 (postS_ok (x := w.heap.size + 1) h (Kept.refl _ _) (((Kept.refl _ _).alloc _).alloc _) (by omega) h (AnS.mk 11 [] [] [] [] [] [] (Row.nil _ _ _) (Row.nil _ _ _) (Row.nil _ _ _) (Row.nil _ _ _)))
              · rw [if_neg h7] at hr
                have h7' : (p.s == [99, 111, 110, 116, 105, 110, 117, 101]) = false := by simpa using h7
                clear h7
                by_cases h8 : (p.s == [100, 101, 108, 101, 116, 101]) = true
                · rw [if_pos h8] at hr
                  go_enter Tryd.func88, Tryd.ntmps88
                  go_wp2_with fail
                  refine (delete_any hE _ _ _ _ _ _ _ h0 hr).mono ?_
                  intro e w2 hP
                  obtain ⟨k2, v0, v1, v2, a3, l3, c3, a4, l4, c4, a5, l5, c5, a6, l6, c6, ok, rfl⟩ := hP.sh
                  have hblk := (k2.block (w.heap.size + 1) (by simp) (by omega)).trans hx0
                  have hc := cells7 hblk
                  have hz := thaw4 hblk
                  have HP : Hid (_) := hP
                  clear hP
                  go_wp2_with fail
                  exact fin_stmt Tryd.results88 rfl rfl rfl (store7 hblk _ _ _ _ _ _ _) (PostS.fwd h k0 (by omega) (by simp) HP.out (kept7 _ _ _ _ _ _ _ _ _))
                · rw [if_neg h8] at hr
                  have h8' : (p.s == [100, 101, 108, 101, 116, 101]) = false := by simpa using h8
                  clear h8
                  cases hr
                  go_enter Tryd.func88, Tryd.ntmps88
                  go_wp2_with fail
                  refine (fail_any _ _ _ _ _ _ _ _ _ h0).mono ?_
                  rintro e w2 ⟨rfl, hR, k2⟩
                  have hblk := (k2.block (w.heap.size + 1) (by simp) (by omega)).trans hx0
                  have hc := cells7 hblk
                  have hz := thaw4 hblk
                  go_wp2_with fail
                  exact fin_stmt Tryd.results88 rfl rfl rfl (store7 hblk _ _ _ _ _ _ _) (postS_bad h (k0.trans k2) (kept7 _ _ _ _ _ _ _ _ _) (by omega) hR)

end Go.Proofs.YtgifghcaeoinoaaDoor
