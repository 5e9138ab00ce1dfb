/-
  Statements: loops.
-/
import Derived.Test.YtgifghcaeoinoaaDoorReB
import Derived.Test.YtgifghcaeoinoaaDoorReC0
namespace Go.Proofs.YtgifghcaeoinoaaDoor
open Go.RowKit
set_option linter.unusedSimpArgs false
set_option linter.unusedVariables false

set_option maxHeartbeats 3000000 in
theorem range_any {ps : List Tok} {E : Nat → Nat → R Ex} {B : Nat → Nat → R (List St)} (hE : SaidE ps E) (hB : SaidB ps B) : SaidF 115 ps (rangeM ps E B) := by
  intro w b bp cap T q r h hr
  have hbs := h.bsize
  have hps := h.lt
  have hfar := h.far
  have h0 := h.below ((Below.refl w.heap.size w).alloc (Nat.le_refl _) (.cells #[.int .i64 0, .string ⟨#[]⟩, .string ⟨#[]⟩, .slice none 0 0, .slice none 0 0, .slice none 0 0, .slice none 0 0] 39))
  have hx0 := heap_alloc_new w (.cells #[.int .i64 0, .string ⟨#[]⟩, .string ⟨#[]⟩, .slice none 0 0, .slice none 0 0, .slice none 0 0, .slice none 0 0] 39)
  unfold rangeM at hr
  go_enter Tryd.func115, Tryd.ntmps115
  go_wp2_with fail
  rcases bindR_some hr with ⟨k, g0, rfl⟩ | ⟨nm0, n1, g0, f0⟩
  · rcases nameM_some g0 with ⟨hT, h3⟩ | ⟨hT, h3⟩
    · cases h3
    · cases h3
      refine (name_no _ _ _ _ _ _ _ h0 hT).mono ?_
      rintro e w1 ⟨rfl, hR, k1⟩
      have hblk := (k1.block w.heap.size (by simp) (by omega)).trans hx0
      have hc := cells7 hblk
      have hz := thaw4 hblk
      go_wp2_with fail
      exact fin_stmt Tryd.results115 rfl rfl rfl (store7 hblk _ _ _ _ _ _ _) (postS_bad h (((Kept.refl _ _).alloc _).trans k1) (kept7 _ _ _ _ _ _ _ _ _) (Nat.le_refl _) hR)
  · rcases nameM_some g0 with ⟨hT, h3⟩ | ⟨hT, h3⟩
    rotate_left
    · cases h3
    cases h3
    refine (name_yes _ _ _ _ _ _ _ h0 hT).mono ?_
    rintro e w1 ⟨rfl, hR1, k1⟩
    have hs1 := k1.size
    simp at hs1
    have hx1 := (k1.block w.heap.size (by simp) (by omega)).trans hx0
    have kw1 : Kept b w w1 := ((Kept.refl b w).alloc _).trans k1
    go_wp2_with fail
    rcases bindR_some f0 with ⟨k, g1, rfl⟩ | ⟨nm1, n2, g1, f1⟩
    · rcases needM_some g1 with ⟨hT, h3⟩ | ⟨hT, h3⟩
      · cases h3
      · cases h3
        refine (mark_no _ _ _ _ _ _ _ _ hR1 hT).mono ?_
        rintro e w2 ⟨rfl, hR, k2⟩
        have hblk := (k2.block w.heap.size (by omega) (by omega)).trans hx1
        have hc := cells7 hblk
        have hz := thaw4 hblk
        go_wp2_with fail
        exact fin_stmt Tryd.results115 rfl rfl rfl (store7 hblk _ _ _ _ _ _ _) (postS_bad h (kw1.trans k2) (kept7 _ _ _ _ _ _ _ _ _) (Nat.le_refl _) hR)
    · rcases needM_some g1 with ⟨hT, h3⟩ | ⟨hT, h3⟩
      rotate_left
      · cases h3
      cases h3
      refine (mark_yes _ _ _ _ _ _ _ _ hR1 hT).mono ?_
      rintro e w2 ⟨rfl, hR2, k2⟩
      have hs2 := k2.size
      have hx2 := (k2.block w.heap.size (by omega) (by omega)).trans hx1
      have kw2 := kw1.trans k2
      go_wp2_with fail
      rcases bindR_some f1 with ⟨k, g2, rfl⟩ | ⟨nm2, n3, g2, f2⟩
      · rcases nameM_some g2 with ⟨hT, h3⟩ | ⟨hT, h3⟩
        · cases h3
        · cases h3
          refine (name_no _ _ _ _ _ _ _ hR2 hT).mono ?_
          rintro e w3 ⟨rfl, hR, k3⟩
          have hblk := (k3.block w.heap.size (by omega) (by omega)).trans hx2
          have hc := cells7 hblk
          have hz := thaw4 hblk
          go_wp2_with fail
          exact fin_stmt Tryd.results115 rfl rfl rfl (store7 hblk _ _ _ _ _ _ _) (postS_bad h (kw2.trans k3) (kept7 _ _ _ _ _ _ _ _ _) (Nat.le_refl _) hR)
      · rcases nameM_some g2 with ⟨hT, h3⟩ | ⟨hT, h3⟩
        rotate_left
        · cases h3
        cases h3
        refine (name_yes _ _ _ _ _ _ _ hR2 hT).mono ?_
        rintro e w3 ⟨rfl, hR3, k3⟩
        have hs3 := k3.size
        have hx3 := (k3.block w.heap.size (by omega) (by omega)).trans hx2
        have kw3 := kw2.trans k3
        go_wp2_with fail
        rcases bindR_some f2 with ⟨k, g3, rfl⟩ | ⟨nm3, n4, g3, f3⟩
        · rcases needM_some g3 with ⟨hT, h3⟩ | ⟨hT, h3⟩
          · cases h3
          · cases h3
            refine (mark_no _ _ _ _ _ _ _ _ hR3 hT).mono ?_
            rintro e w4 ⟨rfl, hR, k4⟩
            have hblk := (k4.block w.heap.size (by omega) (by omega)).trans hx3
            have hc := cells7 hblk
            have hz := thaw4 hblk
            go_wp2_with fail
            exact fin_stmt Tryd.results115 rfl rfl rfl (store7 hblk _ _ _ _ _ _ _) (postS_bad h (kw3.trans k4) (kept7 _ _ _ _ _ _ _ _ _) (Nat.le_refl _) hR)
        · rcases needM_some g3 with ⟨hT, h3⟩ | ⟨hT, h3⟩
          rotate_left
          · cases h3
          cases h3
          refine (mark_yes _ _ _ _ _ _ _ _ hR3 hT).mono ?_
          rintro e w4 ⟨rfl, hR4, k4⟩
          have hs4 := k4.size
          have hx4 := (k4.block w.heap.size (by omega) (by omega)).trans hx3
          have kw4 := kw3.trans k4
          go_wp2_with fail
          rcases bindR_some f3 with ⟨k, g4, rfl⟩ | ⟨nm4, n5, g4, f4⟩
          · rcases needM_some g4 with ⟨hT, h3⟩ | ⟨hT, h3⟩
            · cases h3
            · cases h3
              refine (keyword_no _ _ _ _ _ _ _ _ hR4 hT).mono ?_
              rintro e w5 ⟨rfl, hR, k5⟩
              have hblk := (k5.block w.heap.size (by omega) (by omega)).trans hx4
              have hc := cells7 hblk
              have hz := thaw4 hblk
              go_wp2_with fail
              exact fin_stmt Tryd.results115 rfl rfl rfl (store7 hblk _ _ _ _ _ _ _) (postS_bad h (kw4.trans k5) (kept7 _ _ _ _ _ _ _ _ _) (Nat.le_refl _) hR)
          · rcases needM_some g4 with ⟨hT, h3⟩ | ⟨hT, h3⟩
            rotate_left
            · cases h3
            cases h3
            refine (keyword_yes _ _ _ _ _ _ _ _ hR4 hT).mono ?_
            rintro e w5 ⟨rfl, hR5, k5⟩
            have hs5 := k5.size
            have hx5 := (k5.block w.heap.size (by omega) (by omega)).trans hx4
            have kw5 := kw4.trans k5
            go_wp2_with fail
            refine (headed_any hE hB _ b bp cap T _ 6 _ _ _ hR5 f4).mono ?_
            intro e wz hP
            obtain ⟨kz, v0, v1, v2, a3, l3, c3, a4, l4, c4, a5, l5, c5, a6, l6, c6, ok, rfl⟩ := hP.sh
            have hblk := (kz.block w.heap.size (by omega) (by omega)).trans hx5
            have hc := cells7 hblk
            have hz := thaw4 hblk
            have HP : Hid (_) := hP
            clear hP
            go_wp2_with fail
            exact fin_stmt Tryd.results115 rfl rfl rfl (store7 hblk _ _ _ _ _ _ _) (PostS.fwd h kw5 (by omega) (by omega) HP.out (kept7 _ _ _ _ _ _ _ _ _))

set_option maxHeartbeats 1000000 in
theorem loop_any {ps : List Tok} {E : Nat → Nat → R Ex} {B : Nat → Nat → R (List St)} (hE : SaidE ps E) (hB : SaidB ps B) : SaidF 99 ps (loopM ps E B) := by
  intro w b bp cap T q r h hr
  have hbs := h.bsize
  have hps := h.lt
  have hfar := h.far
  have h0 := h.below ((Below.refl w.heap.size w).alloc (Nat.le_refl _) (.cells #[.int .i64 0, .string ⟨#[]⟩, .string ⟨#[]⟩, .slice none 0 0, .slice none 0 0, .slice none 0 0, .slice none 0 0] 39))
  have hx0 := heap_alloc_new w (.cells #[.int .i64 0, .string ⟨#[]⟩, .string ⟨#[]⟩, .slice none 0 0, .slice none 0 0, .slice none 0 0, .slice none 0 0] 39)
  unfold loopM at hr
  go_enter Tryd.func99, Tryd.ntmps99
  go_wp2_with fail
  refine (atRange_any _ _ _ _ _ _ _ h0).mono ?_
  rintro e w1 ⟨rfl, hb1⟩
  have h1 := h0.below hb1
  have hs1 := hb1.size
  simp at hs1
  have hx1 := (hb1.block w.heap.size (by simp)).trans hx0
  have kw1 : Kept b w w1 := ((Kept.refl b w).alloc _).trans (Kept.of_below hb1)
  rcases hA : atRangeM ps q.next with _ | _
  · rw [hA] at hr
    simp only [Bool.false_eq_true, if_false] at hr
    go_wp2_with fail
    refine (headed_any hE hB _ b bp cap T _ 5 [] [] _ h1 hr).mono ?_
    intro e wz hP
    obtain ⟨kz, v0, v1, v2, a3, l3, c3, a4, l4, c4, a5, l5, c5, a6, l6, c6, ok, rfl⟩ := hP.sh
    have hblk := (kz.block w.heap.size (by omega) (by omega)).trans hx1
    have hc := cells7 hblk
    have hz := thaw4 hblk
    have HP : Hid (_) := hP
    clear hP
    go_wp2_with fail
    exact fin_stmt Tryd.results99 rfl rfl rfl (store7 hblk _ _ _ _ _ _ _) (PostS.fwd (n := q.next) h kw1 (by omega) (by omega) HP.out (kept7 _ _ _ _ _ _ _ _ _))
  · rw [hA] at hr
    simp only [if_true] at hr
    go_wp2_with fail
    refine (range_any hE hB _ b bp cap T _ _ h1 hr).mono ?_
    intro e wz hP
    obtain ⟨kz, v0, v1, v2, a3, l3, c3, a4, l4, c4, a5, l5, c5, a6, l6, c6, ok, rfl⟩ := hP.sh
    have hblk := (kz.block w.heap.size (by omega) (by omega)).trans hx1
    have hc := cells7 hblk
    have hz := thaw4 hblk
    have HP : Hid (_) := hP
    clear hP
    go_wp2_with fail
    exact fin_stmt Tryd.results99 rfl rfl rfl (store7 hblk _ _ _ _ _ _ _) (PostS.fwd (n := q.next) h kw1 (by omega) (by omega) HP.out (kept7 _ _ _ _ _ _ _ _ _))

end Go.Proofs.YtgifghcaeoinoaaDoor
