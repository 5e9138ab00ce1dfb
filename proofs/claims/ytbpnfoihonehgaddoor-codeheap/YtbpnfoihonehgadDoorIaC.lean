/-
  The leaves of package ir's look at code.
-/
import Derived.Test.YtbpnfoihonehgadDoorIaA
namespace Go.Proofs.YtbpnfoihonehgadDoor
open Go.RowKit
set_option linter.unusedSimpArgs false
set_option linter.unusedVariables false

theorem below_after {w w1 w2 : World} (h : Below w.heap.size w w1) (k : Below w1.heap.size w1 w2) : Below w.heap.size w w2 :=
  ⟨k.os.trans h.os, k.tape.trans h.tape, k.output.trans h.output, Nat.le_trans h.size k.size, fun i hi => (k.block i (Nat.lt_of_lt_of_le hi h.size)).trans (h.block i hi)⟩

theorem below_alloc (w : World) (o : Obj) : Below w.heap.size w (w.alloc o) := (Below.refl _ _).alloc (Nat.le_refl _) _

theorem blk_alloc {w : World} {x : Nat} {o' : Obj} (h : w.heap[x]? = some o') (o : Obj) : (w.alloc o).heap[x]? = some o' := by
  have hx : x < w.heap.size := by
    rcases Nat.lt_or_ge x w.heap.size with hb | hb
    · exact hb
    · rw [Array.getElem?_eq_none hb] at h; cases h
  rw [Below.heap_alloc _ _ _ hx]; exact h

theorem heap_alloc2 (w : World) (o1 o2 : Obj) : ((w.alloc o1).alloc o2).heap[w.heap.size]? = some o1 ∧ ((w.alloc o1).alloc o2).heap[w.heap.size + 1]? = some o2 := by
  refine ⟨blk_alloc (heap_alloc_new w o1) o2, ?_⟩
  have := heap_alloc_new (w.alloc o1) o2
  simpa using this

/-- the value of an instruction, of code -/
def insV (i : Ins) (vd va vt : Value) : Value := .agg #[.int .i64 i.op, vd, va, .int .i64 i.n, .string ⟨i.s.toArray⟩, vt]
def codV (c : Cod) (vb : Value) : Value := .agg #[.string ⟨c.name.toArray⟩, .int .i64 c.params, .int .i64 c.results, .int .i64 c.vars, .int .i64 c.slots, vb]

theorem ends_any (op : Int) (w : World) : Calls Tryd.prog 41 #[.int .i64 op] w fun e w' => e = .returned (.bool (endsB op)) ∧ w' = w := by
  unfold endsB
  by_cases h1 : 9 ≤ op <;> by_cases h2 : op ≤ 13 <;>
    (go_enter Tryd.func41, Tryd.ntmps41
     go_wp2
     go_ret
     exact ⟨by simp [h1, h2], rfl⟩)

def fitsB (n want : Int) : Bool := n == want || want == -1 || (want == -2 && decide (0 < n))

set_option maxHeartbeats 400000 in
theorem fits_any (n want : Int) (w : World) : Calls Tryd.prog 63 #[.int .i64 n, .int .i64 want] w fun e w' => e = .returned (.bool (fitsB n want)) ∧ w' = w := by
  unfold fitsB
  rcases h1 : (n == want) with _ | _ <;> rcases h2 : (want == -1) with _ | _ <;> rcases h3 : (want == -2) with _ | _ <;> by_cases h4 : 0 < n <;>
    (go_enter Tryd.func63, Tryd.ntmps63
     go_wp2
     go_ret
     exact ⟨by simp [h1, h2, h3, h4], rfl⟩)

set_option maxHeartbeats 2000000 in
theorem isMath_any (s : List UInt8) (w : World) : Calls Tryd.prog 67 #[.string ⟨s.toArray⟩] w fun e w' => e = .returned (.bool (mathB s)) ∧ w' = w := by
  unfold mathB
  rcases h1 : (s == [43]) with _ | _
  · rcases h2 : (s == [45]) with _ | _
    · rcases h3 : (s == [42]) with _ | _
      · rcases h4 : (s == [47]) with _ | _
        · rcases h5 : (s == [37]) with _ | _
          · rcases h6 : (s == [61, 61]) with _ | _
            · rcases h7 : (s == [33, 61]) with _ | _
              · rcases h8 : (s == [60]) with _ | _
                · rcases h9 : (s == [60, 61]) with _ | _
                  · rcases h10 : (s == [62]) with _ | _
                    · rcases h11 : (s == [62, 61]) with _ | _
                      all_goals
                        go_enter Tryd.func67, Tryd.ntmps67
                        go_wp2
                        go_ret
                        exact ⟨rfl, rfl⟩
                    all_goals
                      go_enter Tryd.func67, Tryd.ntmps67
                      go_wp2
                      go_ret
                      exact ⟨rfl, rfl⟩
                  all_goals
                    go_enter Tryd.func67, Tryd.ntmps67
                    go_wp2
                    go_ret
                    exact ⟨rfl, rfl⟩
                all_goals
                  go_enter Tryd.func67, Tryd.ntmps67
                  go_wp2
                  go_ret
                  exact ⟨rfl, rfl⟩
              all_goals
                go_enter Tryd.func67, Tryd.ntmps67
                go_wp2
                go_ret
                exact ⟨rfl, rfl⟩
            all_goals
              go_enter Tryd.func67, Tryd.ntmps67
              go_wp2
              go_ret
              exact ⟨rfl, rfl⟩
          all_goals
            go_enter Tryd.func67, Tryd.ntmps67
            go_wp2
            go_ret
            exact ⟨rfl, rfl⟩
        all_goals
          go_enter Tryd.func67, Tryd.ntmps67
          go_wp2
          go_ret
          exact ⟨rfl, rfl⟩
      all_goals
        go_enter Tryd.func67, Tryd.ntmps67
        go_wp2
        go_ret
        exact ⟨rfl, rfl⟩
    all_goals
      go_enter Tryd.func67, Tryd.ntmps67
      go_wp2
      go_ret
      exact ⟨rfl, rfl⟩
  all_goals
    go_enter Tryd.func67, Tryd.ntmps67
    go_wp2
    go_ret
    exact ⟨rfl, rfl⟩

set_option maxHeartbeats 2000000 in
theorem inForm_any (i : Ins) (vd va vt : Value) (hd : ∃ a n c, vd = .slice a n c) (ha : ∃ a n c, va = .slice a n c) (ht : ∃ a n c, vt = .slice a n c) (w : World) :
    Calls Tryd.prog 55 #[insV i vd va vt] w fun e w' => e = .returned (.bool (formB i)) ∧ Below w.heap.size w w' := by
  obtain ⟨a1, n1, c1, rfl⟩ := hd
  obtain ⟨a2, n2, c2, rfl⟩ := ha
  obtain ⟨a3, n3, c3, rfl⟩ := ht
  unfold formB insV tInt tBool tText
  obtain ⟨op, ds, ar, nn, s, to⟩ := i
  simp only
  rcases h3 : (op == 3) with _ | _
  · rcases h8 : (op == 8) with _ | _
    · rcases h13 : (op == 13) with _ | _
      · go_enter Tryd.func55, Tryd.ntmps55
        go_wp2_with fail
        go_ret
        exact ⟨rfl, below_alloc _ _⟩
      · by_cases g1 : 2 ≤ nn
        · by_cases g2 : nn ≤ 5 <;>
            (go_enter Tryd.func55, Tryd.ntmps55
             go_wp2_with fail
             go_ret
             exact ⟨by simp [g1, g2], below_alloc _ _⟩)
        · go_enter Tryd.func55, Tryd.ntmps55
          go_wp2_with fail
          go_ret
          exact ⟨by simp; omega, below_alloc _ _⟩
    · rcases g1 : (s == [105, 110, 116]) with _ | _ <;> rcases g2 : (s == [98, 111, 111, 108]) with _ | _ <;> rcases g3 : (s == [116, 101, 120, 116]) with _ | _ <;>
          (go_enter Tryd.func55, Tryd.ntmps55
           go_wp2_with fail
           go_ret
           exact ⟨by simp, below_alloc _ _⟩)
  · go_enter Tryd.func55, Tryd.ntmps55
    go_wp2_with fail
    refine (isMath_any s _).mono ?_
    rintro e w1 ⟨rfl, hw1⟩
    have hw1' := hw1.symm
    subst hw1'
    go_wp2_with fail
    go_ret
    exact ⟨rfl, below_alloc _ _⟩

end Go.Proofs.YtbpnfoihonehgadDoor
