/-
  Package sound: the leaves of its look at code.
-/
import Derived.Test.YtbpbpihboenbeaaDoorIaP
namespace Go.Proofs.YtbpbpihboenbeaaDoor
open Go.RowKit
set_option linter.unusedSimpArgs false
set_option linter.unusedVariables false






theorem ends_any (op : Int) (w : World) : Calls Tryd.prog 61 #[.int .i64 op] w fun e w' => e = .returned (.bool (endsB op)) ∧ w' = w := by
  unfold endsB
  by_cases h1 : 9 ≤ op <;> by_cases h2 : op ≤ 13 <;>
    (go_enter Tryd.func61, Tryd.ntmps61
     go_wp2
     go_ret
     exact ⟨by simp [h1, h2], rfl⟩)

def fitsB (n want : Int) : Bool := n == want || want == -1 || (want == -2 && decide (0 < n))

set_option maxHeartbeats 400000 in
theorem fits_any (n want : Int) (w : World) : Calls Tryd.prog 77 #[.int .i64 n, .int .i64 want] w fun e w' => e = .returned (.bool (fitsB n want)) ∧ w' = w := by
  unfold fitsB
  rcases h1 : (n == want) with _ | _ <;> rcases h2 : (want == -1) with _ | _ <;> rcases h3 : (want == -2) with _ | _ <;> by_cases h4 : 0 < n <;>
    (go_enter Tryd.func77, Tryd.ntmps77
     go_wp2
     go_ret
     exact ⟨by simp [h1, h2, h3, h4], rfl⟩)

set_option maxHeartbeats 2000000 in
theorem isMath_any (s : List UInt8) (w : World) : Calls Tryd.prog 78 #[.string ⟨s.toArray⟩] w fun e w' => e = .returned (.bool (mathB s)) ∧ w' = w := by
  unfold mathB
  rcases h1 : (s == [43]) with _ | _
  · rcases h2 : (s == [45]) with _ | _
    · rcases h3 : (s == [42]) with _ | _
      · rcases h4 : (s == [47]) with _ | _
        · rcases h5 : (s == [37]) with _ | _
          · rcases h6 : (s == [61, 61]) with _ | _
            · rcases h7 : (s == [33, 61]) with _ | _
              · rcases h8 : (s == [60]) with _ | _
                · rcases h9 : (s == [60, 61]) with _ | _
                  · rcases h10 : (s == [62]) with _ | _
                    · rcases h11 : (s == [62, 61]) with _ | _
                      all_goals
                        go_enter Tryd.func78, Tryd.ntmps78
                        go_wp2
                        go_ret
                        exact ⟨rfl, rfl⟩
                    all_goals
                      go_enter Tryd.func78, Tryd.ntmps78
                      go_wp2
                      go_ret
                      exact ⟨rfl, rfl⟩
                  all_goals
                    go_enter Tryd.func78, Tryd.ntmps78
                    go_wp2
                    go_ret
                    exact ⟨rfl, rfl⟩
                all_goals
                  go_enter Tryd.func78, Tryd.ntmps78
                  go_wp2
                  go_ret
                  exact ⟨rfl, rfl⟩
              all_goals
                go_enter Tryd.func78, Tryd.ntmps78
                go_wp2
                go_ret
                exact ⟨rfl, rfl⟩
            all_goals
              go_enter Tryd.func78, Tryd.ntmps78
              go_wp2
              go_ret
              exact ⟨rfl, rfl⟩
          all_goals
            go_enter Tryd.func78, Tryd.ntmps78
            go_wp2
            go_ret
            exact ⟨rfl, rfl⟩
        all_goals
          go_enter Tryd.func78, Tryd.ntmps78
          go_wp2
          go_ret
          exact ⟨rfl, rfl⟩
      all_goals
        go_enter Tryd.func78, Tryd.ntmps78
        go_wp2
        go_ret
        exact ⟨rfl, rfl⟩
    all_goals
      go_enter Tryd.func78, Tryd.ntmps78
      go_wp2
      go_ret
      exact ⟨rfl, rfl⟩
  all_goals
    go_enter Tryd.func78, Tryd.ntmps78
    go_wp2
    go_ret
    exact ⟨rfl, rfl⟩

set_option maxHeartbeats 2000000 in
theorem inForm_any (i : Ins) (vd va vt : Value) (hd : ∃ a n c, vd = .slice a n c) (ha : ∃ a n c, va = .slice a n c) (ht : ∃ a n c, vt = .slice a n c) (w : World) :
    Calls Tryd.prog 71 #[insV i vd va vt] w fun e w' => e = .returned (.bool (formB i)) ∧ Below w.heap.size w w' := by
  obtain ⟨a1, n1, c1, rfl⟩ := hd
  obtain ⟨a2, n2, c2, rfl⟩ := ha
  obtain ⟨a3, n3, c3, rfl⟩ := ht
  unfold formB insV tInt tBool tText
  obtain ⟨op, ds, ar, nn, s, to⟩ := i
  simp only
  rcases h3 : (op == 3) with _ | _
  · rcases h8 : (op == 8) with _ | _
    · rcases h13 : (op == 13) with _ | _
      · go_enter Tryd.func71, Tryd.ntmps71
        go_wp2_with fail
        go_ret
        exact ⟨rfl, below_alloc _ _⟩
      · by_cases g1 : 2 ≤ nn
        · by_cases g2 : nn ≤ 5 <;>
            (go_enter Tryd.func71, Tryd.ntmps71
             go_wp2_with fail
             go_ret
             exact ⟨by simp [g1, g2], below_alloc _ _⟩)
        · go_enter Tryd.func71, Tryd.ntmps71
          go_wp2_with fail
          go_ret
          exact ⟨by simp; omega, below_alloc _ _⟩
    · rcases g1 : (s == [105, 110, 116]) with _ | _ <;> rcases g2 : (s == [98, 111, 111, 108]) with _ | _ <;> rcases g3 : (s == [116, 101, 120, 116]) with _ | _ <;>
          (go_enter Tryd.func71, Tryd.ntmps71
           go_wp2_with fail
           go_ret
           exact ⟨by simp, below_alloc _ _⟩)
  · go_enter Tryd.func71, Tryd.ntmps71
    go_wp2_with fail
    refine (isMath_any s _).mono ?_
    rintro e w1 ⟨rfl, hw1⟩
    have hw1' := hw1.symm
    subst hw1'
    go_wp2_with fail
    go_ret
    exact ⟨rfl, below_alloc _ _⟩

end Go.Proofs.YtbpbpihboenbeaaDoor
