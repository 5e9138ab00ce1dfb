/-
  The type of an operator with two sides.
-/
import Derived.Test.YtbpnfoihonehgabGreatDoorTyA
namespace Go.Proofs.YtbpnfoihonehgabGreatDoor
open Go.RowKit
set_option linter.unusedSimpArgs false
set_option linter.unusedVariables false

def isIn (s : List UInt8) (l : List (List UInt8)) : Bool := l.any fun o => s == o

def twoT (s : List UInt8) (l r : Int) : Int × Int :=
  if s == [43] then givT l (l == r && (l == 1 || l == 3)) 9
  else if s == [45] || s == [42] || s == [47] || s == [37] then givT 1 (l == r && l == 1) 9
  else if s == [38, 38] || s == [124, 124] then givT 2 (l == r && l == 2) 9
  else if s == [61, 61] || s == [33, 61] then givT 2 (l == r && plainB l) 9
  else if s == [60] || s == [60, 61] || s == [62] || s == [62, 61] then givT 2 (l == r && (l == 1 || l == 3)) 9
  else (0, 4)

set_option maxHeartbeats 8000000 in
theorem typeOfTwo_core (s : List UInt8) (l r : Int) (w : World) (e0 : Ending) (HE : Hid (e0 = tyE (twoT s l r))) : Calls Tryz.prog 119 #[.string ⟨s.toArray⟩, .int .i64 l, .int .i64 r] w fun e w' => e = e0 ∧ w' = w := by
  rcases h43 : (s == [43]) with _ | _
  · skip
    rcases h45 : (s == [45]) with _ | _
    · skip
      rcases h42 : (s == [42]) with _ | _
      · skip
        rcases h47 : (s == [47]) with _ | _
        · skip
          rcases h37 : (s == [37]) with _ | _
          · skip
            rcases ha : (s == [38, 38]) with _ | _
            · skip
              rcases ho : (s == [124, 124]) with _ | _
              · skip
                rcases he : (s == [61, 61]) with _ | _
                · skip
                  rcases hn : (s == [33, 61]) with _ | _
                  · skip
                    rcases hl : (s == [60]) with _ | _
                    · skip
                      rcases hk : (s == [60, 61]) with _ | _
                      · skip
                        rcases hg : (s == [62]) with _ | _
                        · skip
                          rcases hh : (s == [62, 61]) with _ | _
                          · skip
                            go_enter Tryz.func119, Tryz.ntmps119
                            go_wp2_with fail
                            go_ret2
                            exact ⟨by rw [HE.out]; simp only [twoT, h43, h45, h42, h47, h37, ha, ho, he, hn, hl, hk, hg, hh, Bool.false_eq_true, if_false, Bool.or_self]; rfl, rfl⟩
                          · rcases hs : (l == r) with _ | _
                            · skip
                              go_enter Tryz.func119, Tryz.ntmps119
                              go_wp2_with fail
                              refine (given_any _ _ _ _).mono ?_
                              rintro e w1 ⟨rfl, rfl⟩
                              unfold tyE
                              go_wp2_with fail
                              go_ret2
                              exact ⟨by rw [HE.out]; simp only [twoT, h43, h45, h42, h47, h37, ha, ho, he, hn, hl, hk, hg, hh, hs, Bool.false_eq_true, if_false, if_true, Bool.or_false, Bool.or_true, Bool.true_or, Bool.false_or, Bool.or_self, Bool.true_and, Bool.false_and]; rfl, rfl⟩
                            · rcases h1 : (l == 1) with _ | _
                              · rcases h3 : (l == 3) with _ | _
                                · skip
                                  go_enter Tryz.func119, Tryz.ntmps119
                                  go_wp2_with fail
                                  refine (given_any _ _ _ _).mono ?_
                                  rintro e w1 ⟨rfl, rfl⟩
                                  unfold tyE
                                  go_wp2_with fail
                                  go_ret2
                                  exact ⟨by rw [HE.out]; simp only [twoT, h43, h45, h42, h47, h37, ha, ho, he, hn, hl, hk, hg, hh, hs, h1, h3, Bool.false_eq_true, if_false, if_true, Bool.or_false, Bool.or_true, Bool.true_or, Bool.false_or, Bool.or_self, Bool.true_and, Bool.false_and]; rfl, rfl⟩
                                · skip
                                  go_enter Tryz.func119, Tryz.ntmps119
                                  go_wp2_with fail
                                  refine (given_any _ _ _ _).mono ?_
                                  rintro e w1 ⟨rfl, rfl⟩
                                  unfold tyE
                                  go_wp2_with fail
                                  go_ret2
                                  exact ⟨by rw [HE.out]; simp only [twoT, h43, h45, h42, h47, h37, ha, ho, he, hn, hl, hk, hg, hh, hs, h1, h3, Bool.false_eq_true, if_false, if_true, Bool.or_false, Bool.or_true, Bool.true_or, Bool.false_or, Bool.or_self, Bool.true_and, Bool.false_and]; rfl, rfl⟩
                              · skip
                                go_enter Tryz.func119, Tryz.ntmps119
                                go_wp2_with fail
                                refine (given_any _ _ _ _).mono ?_
                                rintro e w1 ⟨rfl, rfl⟩
                                unfold tyE
                                go_wp2_with fail
                                go_ret2
                                exact ⟨by rw [HE.out]; simp only [twoT, h43, h45, h42, h47, h37, ha, ho, he, hn, hl, hk, hg, hh, hs, h1, Bool.false_eq_true, if_false, if_true, Bool.or_false, Bool.or_true, Bool.true_or, Bool.false_or, Bool.or_self, Bool.true_and, Bool.false_and]; rfl, rfl⟩
                        · rcases hs : (l == r) with _ | _
                          · skip
                            go_enter Tryz.func119, Tryz.ntmps119
                            go_wp2_with fail
                            refine (given_any _ _ _ _).mono ?_
                            rintro e w1 ⟨rfl, rfl⟩
                            unfold tyE
                            go_wp2_with fail
                            go_ret2
                            exact ⟨by rw [HE.out]; simp only [twoT, h43, h45, h42, h47, h37, ha, ho, he, hn, hl, hk, hg, hs, Bool.false_eq_true, if_false, if_true, Bool.or_false, Bool.or_true, Bool.true_or, Bool.false_or, Bool.or_self, Bool.true_and, Bool.false_and]; rfl, rfl⟩
                          · rcases h1 : (l == 1) with _ | _
                            · rcases h3 : (l == 3) with _ | _
                              · skip
                                go_enter Tryz.func119, Tryz.ntmps119
                                go_wp2_with fail
                                refine (given_any _ _ _ _).mono ?_
                                rintro e w1 ⟨rfl, rfl⟩
                                unfold tyE
                                go_wp2_with fail
                                go_ret2
                                exact ⟨by rw [HE.out]; simp only [twoT, h43, h45, h42, h47, h37, ha, ho, he, hn, hl, hk, hg, hs, h1, h3, Bool.false_eq_true, if_false, if_true, Bool.or_false, Bool.or_true, Bool.true_or, Bool.false_or, Bool.or_self, Bool.true_and, Bool.false_and]; rfl, rfl⟩
                              · skip
                                go_enter Tryz.func119, Tryz.ntmps119
                                go_wp2_with fail
                                refine (given_any _ _ _ _).mono ?_
                                rintro e w1 ⟨rfl, rfl⟩
                                unfold tyE
                                go_wp2_with fail
                                go_ret2
                                exact ⟨by rw [HE.out]; simp only [twoT, h43, h45, h42, h47, h37, ha, ho, he, hn, hl, hk, hg, hs, h1, h3, Bool.false_eq_true, if_false, if_true, Bool.or_false, Bool.or_true, Bool.true_or, Bool.false_or, Bool.or_self, Bool.true_and, Bool.false_and]; rfl, rfl⟩
                            · skip
                              go_enter Tryz.func119, Tryz.ntmps119
                              go_wp2_with fail
                              refine (given_any _ _ _ _).mono ?_
                              rintro e w1 ⟨rfl, rfl⟩
                              unfold tyE
                              go_wp2_with fail
                              go_ret2
                              exact ⟨by rw [HE.out]; simp only [twoT, h43, h45, h42, h47, h37, ha, ho, he, hn, hl, hk, hg, hs, h1, Bool.false_eq_true, if_false, if_true, Bool.or_false, Bool.or_true, Bool.true_or, Bool.false_or, Bool.or_self, Bool.true_and, Bool.false_and]; rfl, rfl⟩
                      · rcases hs : (l == r) with _ | _
                        · skip
                          go_enter Tryz.func119, Tryz.ntmps119
                          go_wp2_with fail
                          refine (given_any _ _ _ _).mono ?_
                          rintro e w1 ⟨rfl, rfl⟩
                          unfold tyE
                          go_wp2_with fail
                          go_ret2
                          exact ⟨by rw [HE.out]; simp only [twoT, h43, h45, h42, h47, h37, ha, ho, he, hn, hl, hk, hs, Bool.false_eq_true, if_false, if_true, Bool.or_false, Bool.or_true, Bool.true_or, Bool.false_or, Bool.or_self, Bool.true_and, Bool.false_and]; rfl, rfl⟩
                        · rcases h1 : (l == 1) with _ | _
                          · rcases h3 : (l == 3) with _ | _
                            · skip
                              go_enter Tryz.func119, Tryz.ntmps119
                              go_wp2_with fail
                              refine (given_any _ _ _ _).mono ?_
                              rintro e w1 ⟨rfl, rfl⟩
                              unfold tyE
                              go_wp2_with fail
                              go_ret2
                              exact ⟨by rw [HE.out]; simp only [twoT, h43, h45, h42, h47, h37, ha, ho, he, hn, hl, hk, hs, h1, h3, Bool.false_eq_true, if_false, if_true, Bool.or_false, Bool.or_true, Bool.true_or, Bool.false_or, Bool.or_self, Bool.true_and, Bool.false_and]; rfl, rfl⟩
                            · skip
                              go_enter Tryz.func119, Tryz.ntmps119
                              go_wp2_with fail
                              refine (given_any _ _ _ _).mono ?_
                              rintro e w1 ⟨rfl, rfl⟩
                              unfold tyE
                              go_wp2_with fail
                              go_ret2
                              exact ⟨by rw [HE.out]; simp only [twoT, h43, h45, h42, h47, h37, ha, ho, he, hn, hl, hk, hs, h1, h3, Bool.false_eq_true, if_false, if_true, Bool.or_false, Bool.or_true, Bool.true_or, Bool.false_or, Bool.or_self, Bool.true_and, Bool.false_and]; rfl, rfl⟩
                          · skip
                            go_enter Tryz.func119, Tryz.ntmps119
                            go_wp2_with fail
                            refine (given_any _ _ _ _).mono ?_
                            rintro e w1 ⟨rfl, rfl⟩
                            unfold tyE
                            go_wp2_with fail
                            go_ret2
                            exact ⟨by rw [HE.out]; simp only [twoT, h43, h45, h42, h47, h37, ha, ho, he, hn, hl, hk, hs, h1, Bool.false_eq_true, if_false, if_true, Bool.or_false, Bool.or_true, Bool.true_or, Bool.false_or, Bool.or_self, Bool.true_and, Bool.false_and]; rfl, rfl⟩
                    · rcases hs : (l == r) with _ | _
                      · skip
                        go_enter Tryz.func119, Tryz.ntmps119
                        go_wp2_with fail
                        refine (given_any _ _ _ _).mono ?_
                        rintro e w1 ⟨rfl, rfl⟩
                        unfold tyE
                        go_wp2_with fail
                        go_ret2
                        exact ⟨by rw [HE.out]; simp only [twoT, h43, h45, h42, h47, h37, ha, ho, he, hn, hl, hs, Bool.false_eq_true, if_false, if_true, Bool.or_false, Bool.or_true, Bool.true_or, Bool.false_or, Bool.or_self, Bool.true_and, Bool.false_and]; rfl, rfl⟩
                      · rcases h1 : (l == 1) with _ | _
                        · rcases h3 : (l == 3) with _ | _
                          · skip
                            go_enter Tryz.func119, Tryz.ntmps119
                            go_wp2_with fail
                            refine (given_any _ _ _ _).mono ?_
                            rintro e w1 ⟨rfl, rfl⟩
                            unfold tyE
                            go_wp2_with fail
                            go_ret2
                            exact ⟨by rw [HE.out]; simp only [twoT, h43, h45, h42, h47, h37, ha, ho, he, hn, hl, hs, h1, h3, Bool.false_eq_true, if_false, if_true, Bool.or_false, Bool.or_true, Bool.true_or, Bool.false_or, Bool.or_self, Bool.true_and, Bool.false_and]; rfl, rfl⟩
                          · skip
                            go_enter Tryz.func119, Tryz.ntmps119
                            go_wp2_with fail
                            refine (given_any _ _ _ _).mono ?_
                            rintro e w1 ⟨rfl, rfl⟩
                            unfold tyE
                            go_wp2_with fail
                            go_ret2
                            exact ⟨by rw [HE.out]; simp only [twoT, h43, h45, h42, h47, h37, ha, ho, he, hn, hl, hs, h1, h3, Bool.false_eq_true, if_false, if_true, Bool.or_false, Bool.or_true, Bool.true_or, Bool.false_or, Bool.or_self, Bool.true_and, Bool.false_and]; rfl, rfl⟩
                        · skip
                          go_enter Tryz.func119, Tryz.ntmps119
                          go_wp2_with fail
                          refine (given_any _ _ _ _).mono ?_
                          rintro e w1 ⟨rfl, rfl⟩
                          unfold tyE
                          go_wp2_with fail
                          go_ret2
                          exact ⟨by rw [HE.out]; simp only [twoT, h43, h45, h42, h47, h37, ha, ho, he, hn, hl, hs, h1, Bool.false_eq_true, if_false, if_true, Bool.or_false, Bool.or_true, Bool.true_or, Bool.false_or, Bool.or_self, Bool.true_and, Bool.false_and]; rfl, rfl⟩
                  · rcases hs : (l == r) with _ | _
                    · skip
                      go_enter Tryz.func119, Tryz.ntmps119
                      go_wp2_with fail
                      refine (given_any _ _ _ _).mono ?_
                      rintro e w1 ⟨rfl, rfl⟩
                      unfold tyE
                      go_wp2_with fail
                      go_ret2
                      exact ⟨by rw [HE.out]; simp only [twoT, h43, h45, h42, h47, h37, ha, ho, he, hn, hs, Bool.false_eq_true, if_false, if_true, Bool.or_false, Bool.or_true, Bool.true_or, Bool.false_or, Bool.or_self, Bool.true_and, Bool.false_and]; rfl, rfl⟩
                    · skip
                      go_enter Tryz.func119, Tryz.ntmps119
                      go_wp2_with fail
                      refine (isPlain_any _ _).mono ?_
                      rintro e w1 ⟨rfl, rfl⟩
                      go_wp2_with fail
                      refine (given_any _ _ _ _).mono ?_
                      rintro e w1 ⟨rfl, rfl⟩
                      unfold tyE
                      go_wp2_with fail
                      go_ret2
                      exact ⟨by rw [HE.out]; simp only [twoT, h43, h45, h42, h47, h37, ha, ho, he, hn, hs, Bool.false_eq_true, if_false, if_true, Bool.or_false, Bool.or_true, Bool.true_or, Bool.false_or, Bool.or_self, Bool.true_and, Bool.false_and]; rfl, rfl⟩
                · rcases hs : (l == r) with _ | _
                  · skip
                    go_enter Tryz.func119, Tryz.ntmps119
                    go_wp2_with fail
                    refine (given_any _ _ _ _).mono ?_
                    rintro e w1 ⟨rfl, rfl⟩
                    unfold tyE
                    go_wp2_with fail
                    go_ret2
                    exact ⟨by rw [HE.out]; simp only [twoT, h43, h45, h42, h47, h37, ha, ho, he, hs, Bool.false_eq_true, if_false, if_true, Bool.or_false, Bool.or_true, Bool.true_or, Bool.false_or, Bool.or_self, Bool.true_and, Bool.false_and]; rfl, rfl⟩
                  · skip
                    go_enter Tryz.func119, Tryz.ntmps119
                    go_wp2_with fail
                    refine (isPlain_any _ _).mono ?_
                    rintro e w1 ⟨rfl, rfl⟩
                    go_wp2_with fail
                    refine (given_any _ _ _ _).mono ?_
                    rintro e w1 ⟨rfl, rfl⟩
                    unfold tyE
                    go_wp2_with fail
                    go_ret2
                    exact ⟨by rw [HE.out]; simp only [twoT, h43, h45, h42, h47, h37, ha, ho, he, hs, Bool.false_eq_true, if_false, if_true, Bool.or_false, Bool.or_true, Bool.true_or, Bool.false_or, Bool.or_self, Bool.true_and, Bool.false_and]; rfl, rfl⟩
              · rcases hs : (l == r) with _ | _
                · skip
                  go_enter Tryz.func119, Tryz.ntmps119
                  go_wp2_with fail
                  refine (given_any _ _ _ _).mono ?_
                  rintro e w1 ⟨rfl, rfl⟩
                  unfold tyE
                  go_wp2_with fail
                  go_ret2
                  exact ⟨by rw [HE.out]; simp only [twoT, h43, h45, h42, h47, h37, ha, ho, hs, Bool.false_eq_true, if_false, if_true, Bool.or_false, Bool.or_true, Bool.true_or, Bool.false_or, Bool.or_self, Bool.true_and, Bool.false_and]; rfl, rfl⟩
                · skip
                  go_enter Tryz.func119, Tryz.ntmps119
                  go_wp2_with fail
                  refine (given_any _ _ _ _).mono ?_
                  rintro e w1 ⟨rfl, rfl⟩
                  unfold tyE
                  go_wp2_with fail
                  go_ret2
                  exact ⟨by rw [HE.out]; simp only [twoT, h43, h45, h42, h47, h37, ha, ho, hs, Bool.false_eq_true, if_false, if_true, Bool.or_false, Bool.or_true, Bool.true_or, Bool.false_or, Bool.or_self, Bool.true_and, Bool.false_and]; rfl, rfl⟩
            · rcases hs : (l == r) with _ | _
              · skip
                go_enter Tryz.func119, Tryz.ntmps119
                go_wp2_with fail
                refine (given_any _ _ _ _).mono ?_
                rintro e w1 ⟨rfl, rfl⟩
                unfold tyE
                go_wp2_with fail
                go_ret2
                exact ⟨by rw [HE.out]; simp only [twoT, h43, h45, h42, h47, h37, ha, hs, Bool.false_eq_true, if_false, if_true, Bool.or_false, Bool.or_true, Bool.true_or, Bool.false_or, Bool.or_self, Bool.true_and, Bool.false_and]; rfl, rfl⟩
              · skip
                go_enter Tryz.func119, Tryz.ntmps119
                go_wp2_with fail
                refine (given_any _ _ _ _).mono ?_
                rintro e w1 ⟨rfl, rfl⟩
                unfold tyE
                go_wp2_with fail
                go_ret2
                exact ⟨by rw [HE.out]; simp only [twoT, h43, h45, h42, h47, h37, ha, hs, Bool.false_eq_true, if_false, if_true, Bool.or_false, Bool.or_true, Bool.true_or, Bool.false_or, Bool.or_self, Bool.true_and, Bool.false_and]; rfl, rfl⟩
          · rcases hs : (l == r) with _ | _
            · skip
              go_enter Tryz.func119, Tryz.ntmps119
              go_wp2_with fail
              refine (given_any _ _ _ _).mono ?_
              rintro e w1 ⟨rfl, rfl⟩
              unfold tyE
              go_wp2_with fail
              go_ret2
              exact ⟨by rw [HE.out]; simp only [twoT, h43, h45, h42, h47, h37, hs, Bool.false_eq_true, if_false, if_true, Bool.or_false, Bool.or_true, Bool.true_or, Bool.false_or, Bool.or_self, Bool.true_and, Bool.false_and]; rfl, rfl⟩
            · skip
              go_enter Tryz.func119, Tryz.ntmps119
              go_wp2_with fail
              refine (given_any _ _ _ _).mono ?_
              rintro e w1 ⟨rfl, rfl⟩
              unfold tyE
              go_wp2_with fail
              go_ret2
              exact ⟨by rw [HE.out]; simp only [twoT, h43, h45, h42, h47, h37, hs, Bool.false_eq_true, if_false, if_true, Bool.or_false, Bool.or_true, Bool.true_or, Bool.false_or, Bool.or_self, Bool.true_and, Bool.false_and]; rfl, rfl⟩
        · rcases hs : (l == r) with _ | _
          · skip
            go_enter Tryz.func119, Tryz.ntmps119
            go_wp2_with fail
            refine (given_any _ _ _ _).mono ?_
            rintro e w1 ⟨rfl, rfl⟩
            unfold tyE
            go_wp2_with fail
            go_ret2
            exact ⟨by rw [HE.out]; simp only [twoT, h43, h45, h42, h47, hs, Bool.false_eq_true, if_false, if_true, Bool.or_false, Bool.or_true, Bool.true_or, Bool.false_or, Bool.or_self, Bool.true_and, Bool.false_and]; rfl, rfl⟩
          · skip
            go_enter Tryz.func119, Tryz.ntmps119
            go_wp2_with fail
            refine (given_any _ _ _ _).mono ?_
            rintro e w1 ⟨rfl, rfl⟩
            unfold tyE
            go_wp2_with fail
            go_ret2
            exact ⟨by rw [HE.out]; simp only [twoT, h43, h45, h42, h47, hs, Bool.false_eq_true, if_false, if_true, Bool.or_false, Bool.or_true, Bool.true_or, Bool.false_or, Bool.or_self, Bool.true_and, Bool.false_and]; rfl, rfl⟩
      · rcases hs : (l == r) with _ | _
        · skip
          go_enter Tryz.func119, Tryz.ntmps119
          go_wp2_with fail
          refine (given_any _ _ _ _).mono ?_
          rintro e w1 ⟨rfl, rfl⟩
          unfold tyE
          go_wp2_with fail
          go_ret2
          exact ⟨by rw [HE.out]; simp only [twoT, h43, h45, h42, hs, Bool.false_eq_true, if_false, if_true, Bool.or_false, Bool.or_true, Bool.true_or, Bool.false_or, Bool.or_self, Bool.true_and, Bool.false_and]; rfl, rfl⟩
        · skip
          go_enter Tryz.func119, Tryz.ntmps119
          go_wp2_with fail
          refine (given_any _ _ _ _).mono ?_
          rintro e w1 ⟨rfl, rfl⟩
          unfold tyE
          go_wp2_with fail
          go_ret2
          exact ⟨by rw [HE.out]; simp only [twoT, h43, h45, h42, hs, Bool.false_eq_true, if_false, if_true, Bool.or_false, Bool.or_true, Bool.true_or, Bool.false_or, Bool.or_self, Bool.true_and, Bool.false_and]; rfl, rfl⟩
    · rcases hs : (l == r) with _ | _
      · skip
        go_enter Tryz.func119, Tryz.ntmps119
        go_wp2_with fail
        refine (given_any _ _ _ _).mono ?_
        rintro e w1 ⟨rfl, rfl⟩
        unfold tyE
        go_wp2_with fail
        go_ret2
        exact ⟨by rw [HE.out]; simp only [twoT, h43, h45, hs, Bool.false_eq_true, if_false, if_true, Bool.or_false, Bool.or_true, Bool.true_or, Bool.false_or, Bool.or_self, Bool.true_and, Bool.false_and]; rfl, rfl⟩
      · skip
        go_enter Tryz.func119, Tryz.ntmps119
        go_wp2_with fail
        refine (given_any _ _ _ _).mono ?_
        rintro e w1 ⟨rfl, rfl⟩
        unfold tyE
        go_wp2_with fail
        go_ret2
        exact ⟨by rw [HE.out]; simp only [twoT, h43, h45, hs, Bool.false_eq_true, if_false, if_true, Bool.or_false, Bool.or_true, Bool.true_or, Bool.false_or, Bool.or_self, Bool.true_and, Bool.false_and]; rfl, rfl⟩
  · rcases hs : (l == r) with _ | _
    · skip
      go_enter Tryz.func119, Tryz.ntmps119
      go_wp2_with fail
      refine (given_any _ _ _ _).mono ?_
      rintro e w1 ⟨rfl, rfl⟩
      unfold tyE
      go_wp2_with fail
      go_ret2
      exact ⟨by rw [HE.out]; simp only [twoT, h43, hs, Bool.false_eq_true, if_false, if_true, Bool.or_false, Bool.or_true, Bool.true_or, Bool.false_or, Bool.or_self, Bool.true_and, Bool.false_and]; rfl, rfl⟩
    · rcases h1 : (l == 1) with _ | _
      · rcases h3 : (l == 3) with _ | _
        · skip
          go_enter Tryz.func119, Tryz.ntmps119
          go_wp2_with fail
          refine (given_any _ _ _ _).mono ?_
          rintro e w1 ⟨rfl, rfl⟩
          unfold tyE
          go_wp2_with fail
          go_ret2
          exact ⟨by rw [HE.out]; simp only [twoT, h43, hs, h1, h3, Bool.false_eq_true, if_false, if_true, Bool.or_false, Bool.or_true, Bool.true_or, Bool.false_or, Bool.or_self, Bool.true_and, Bool.false_and]; rfl, rfl⟩
        · skip
          go_enter Tryz.func119, Tryz.ntmps119
          go_wp2_with fail
          refine (given_any _ _ _ _).mono ?_
          rintro e w1 ⟨rfl, rfl⟩
          unfold tyE
          go_wp2_with fail
          go_ret2
          exact ⟨by rw [HE.out]; simp only [twoT, h43, hs, h1, h3, Bool.false_eq_true, if_false, if_true, Bool.or_false, Bool.or_true, Bool.true_or, Bool.false_or, Bool.or_self, Bool.true_and, Bool.false_and]; rfl, rfl⟩
      · skip
        go_enter Tryz.func119, Tryz.ntmps119
        go_wp2_with fail
        refine (given_any _ _ _ _).mono ?_
        rintro e w1 ⟨rfl, rfl⟩
        unfold tyE
        go_wp2_with fail
        go_ret2
        exact ⟨by rw [HE.out]; simp only [twoT, h43, hs, h1, Bool.false_eq_true, if_false, if_true, Bool.or_false, Bool.or_true, Bool.true_or, Bool.false_or, Bool.or_self, Bool.true_and, Bool.false_and]; rfl, rfl⟩

theorem typeOfTwo_any (s : List UInt8) (l r : Int) (w : World) : Calls Tryz.prog 119 #[.string ⟨s.toArray⟩, .int .i64 l, .int .i64 r] w fun e w' => e = tyE (twoT s l r) ∧ w' = w := typeOfTwo_core s l r w _ rfl

end Go.Proofs.YtbpnfoihonehgabGreatDoor
