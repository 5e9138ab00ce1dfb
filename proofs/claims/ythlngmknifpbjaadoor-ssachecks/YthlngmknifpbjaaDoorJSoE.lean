/-
  All numbers below a bound.
-/
import Derived.Test.YthlngmknifpbjaaDoorJIaQ
namespace Go.Proofs.YthlngmknifpbjaaDoor
section
open Go.RowKit
set_option linter.unusedSimpArgs false
set_option linter.unusedVariables false






theorem ends_any (op : Int) (w : World) : Calls Tryd.prog 64 #[.int .i64 op] w fun e w' => e = .returned (.bool (endsB op)) ∧ w' = w := by
  unfold endsB
  by_cases h1 : 9 ≤ op <;> by_cases h2 : op ≤ 13 <;>
    (go_enter Tryd.func64, Tryd.ntmps64
     go_wp2
     go_ret
     exact ⟨by simp [h1, h2], rfl⟩)

def fitsB (n want : Int) : Bool := n == want || want == -1 || (want == -2 && decide (0 < n))

set_option maxHeartbeats 400000 in
theorem fits_any (n want : Int) (w : World) : Calls Tryd.prog 71 #[.int .i64 n, .int .i64 want] w fun e w' => e = .returned (.bool (fitsB n want)) ∧ w' = w := by
  unfold fitsB
  rcases h1 : (n == want) with _ | _ <;> rcases h2 : (want == -1) with _ | _ <;> rcases h3 : (want == -2) with _ | _ <;> by_cases h4 : 0 < n <;>
    (go_enter Tryd.func71, Tryd.ntmps71
     go_wp2
     go_ret
     exact ⟨by simp [h1, h2, h3, h4], rfl⟩)

set_option maxHeartbeats 2000000 in
theorem isMath_any (s : List UInt8) (w : World) : Calls Tryd.prog 72 #[.string ⟨s.toArray⟩] w fun e w' => e = .returned (.bool (mathB s)) ∧ w' = w := by
  unfold mathB
  rcases h1 : (s == [43]) with _ | _
  · rcases h2 : (s == [45]) with _ | _
    · rcases h3 : (s == [42]) with _ | _
      · rcases h4 : (s == [47]) with _ | _
        · rcases h5 : (s == [37]) with _ | _
          · rcases h6 : (s == [61, 61]) with _ | _
            · rcases h7 : (s == [33, 61]) with _ | _
              · rcases h8 : (s == [60]) with _ | _
                · rcases h9 : (s == [60, 61]) with _ | _
                  · rcases h10 : (s == [62]) with _ | _
                    · rcases h11 : (s == [62, 61]) with _ | _
                      all_goals
                        go_enter Tryd.func72, Tryd.ntmps72
                        go_wp2
                        go_ret
                        exact ⟨rfl, rfl⟩
                    all_goals
                      go_enter Tryd.func72, Tryd.ntmps72
                      go_wp2
                      go_ret
                      exact ⟨rfl, rfl⟩
                  all_goals
                    go_enter Tryd.func72, Tryd.ntmps72
                    go_wp2
                    go_ret
                    exact ⟨rfl, rfl⟩
                all_goals
                  go_enter Tryd.func72, Tryd.ntmps72
                  go_wp2
                  go_ret
                  exact ⟨rfl, rfl⟩
              all_goals
                go_enter Tryd.func72, Tryd.ntmps72
                go_wp2
                go_ret
                exact ⟨rfl, rfl⟩
            all_goals
              go_enter Tryd.func72, Tryd.ntmps72
              go_wp2
              go_ret
              exact ⟨rfl, rfl⟩
          all_goals
            go_enter Tryd.func72, Tryd.ntmps72
            go_wp2
            go_ret
            exact ⟨rfl, rfl⟩
        all_goals
          go_enter Tryd.func72, Tryd.ntmps72
          go_wp2
          go_ret
          exact ⟨rfl, rfl⟩
      all_goals
        go_enter Tryd.func72, Tryd.ntmps72
        go_wp2
        go_ret
        exact ⟨rfl, rfl⟩
    all_goals
      go_enter Tryd.func72, Tryd.ntmps72
      go_wp2
      go_ret
      exact ⟨rfl, rfl⟩
  all_goals
    go_enter Tryd.func72, Tryd.ntmps72
    go_wp2
    go_ret
    exact ⟨rfl, rfl⟩

set_option maxHeartbeats 2000000 in
theorem inForm_any (i : Ins) (vd va vt : Value) (hd : ∃ a n c, vd = .slice a n c) (ha : ∃ a n c, va = .slice a n c) (ht : ∃ a n c, vt = .slice a n c) (w : World) :
    Calls Tryd.prog 68 #[insV i vd va vt] w fun e w' => e = .returned (.bool (formB i)) ∧ Below w.heap.size w w' := by
  obtain ⟨a1, n1, c1, rfl⟩ := hd
  obtain ⟨a2, n2, c2, rfl⟩ := ha
  obtain ⟨a3, n3, c3, rfl⟩ := ht
  unfold formB insV tInt tBool tText
  obtain ⟨op, ds, ar, nn, s, to⟩ := i
  simp only
  rcases h3 : (op == 3) with _ | _
  · rcases h8 : (op == 8) with _ | _
    · rcases h13 : (op == 13) with _ | _
      · go_enter Tryd.func68, Tryd.ntmps68
        go_wp2_with fail
        go_ret
        exact ⟨rfl, below_alloc _ _⟩
      · by_cases g1 : 2 ≤ nn
        · by_cases g2 : nn ≤ 5 <;>
            (go_enter Tryd.func68, Tryd.ntmps68
             go_wp2_with fail
             go_ret
             exact ⟨by simp [g1, g2], below_alloc _ _⟩)
        · go_enter Tryd.func68, Tryd.ntmps68
          go_wp2_with fail
          go_ret
          exact ⟨by simp; omega, below_alloc _ _⟩
    · rcases g1 : (s == [105, 110, 116]) with _ | _ <;> rcases g2 : (s == [98, 111, 111, 108]) with _ | _ <;> rcases g3 : (s == [116, 101, 120, 116]) with _ | _ <;>
          (go_enter Tryd.func68, Tryd.ntmps68
           go_wp2_with fail
           go_ret
           exact ⟨by simp, below_alloc _ _⟩)
  · go_enter Tryd.func68, Tryd.ntmps68
    go_wp2_with fail
    refine (isMath_any s _).mono ?_
    rintro e w1 ⟨rfl, hw1⟩
    have hw1' := hw1.symm
    subst hw1'
    go_wp2_with fail
    go_ret
    exact ⟨rfl, below_alloc _ _⟩
end

section
open Go.RowKit
set_option linter.unusedSimpArgs false
set_option linter.unusedVariables false



theorem outside_any (n most : Int) (mb : Nat) (w : World) (hc : w.cell? ⟨mb, 0, none⟩ = some (.int .i64 most)) : Calls Tryd.prog 53 #[.int .i64 n, .pointer (some ⟨mb, 0, none⟩)] w fun e w' => e = .returned (.bool (!(decide (0 ≤ n) && decide (n < most)))) ∧ w' = w := by
  by_cases h1 : n < 0
  · have h1' : ¬ (0 ≤ n) := by omega
    go_enter Tryd.func53, Tryd.ntmps53
    go_wp2_with fail
    go_ret
    exact ⟨by simp [h1'], rfl⟩
  · have h1' : 0 ≤ n := by omega
    by_cases h2 : n ≥ most
    · have h2' : ¬ (n < most) := by omega
      go_enter Tryd.func53, Tryd.ntmps53
      go_wp2_with fail
      go_ret
      exact ⟨by simp [h2', h1'], rfl⟩
    · have h2' : n < most := by omega
      go_enter Tryd.func53, Tryd.ntmps53
      go_wp2_with fail
      go_ret
      exact ⟨by simp [h2', h1'], rfl⟩

set_option maxHeartbeats 2000000 in
theorem indexFunc_any (most : Int) (mb B : Nat) (v : Value) (l : List Int) (w : World) (hc : w.cell? ⟨mb, 0, none⟩ = some (.int .i64 most)) (hl : Nums B w v l) :
    Calls Tryd.prog 49 #[v, .func (.func 53) #[] #[.pointer (some ⟨mb, 0, none⟩)]] w fun e w' => (∃ r : Int, e = .returned (.int .i64 r) ∧ decide (r ≥ 0) = !belowB most l) ∧ w' = w := by
  obtain ⟨a, c, rfl⟩ := Lies.slice hl
  have hlm := hl.len
  unfold maxLen at hlm
  have HL : Hid (Nums B w (.slice a l.length c) l) := hl
  have HC : Hid (_) := hc
  clear hl hc
  go_enter Tryd.func49, Tryd.ntmps49
  go_wp2_with fail
  go_loopg [8] l.length (fun g s8 wr => ∃ i : Nat, s8 = .int .i64 (i : Nat) ∧ i + g = l.length ∧ wr = w ∧ Hid (∀ j x, j < i → l[j]? = some x → (decide (0 ≤ x) && decide (x < most)) = true))
  case atStart => exact ⟨0, rfl, by omega, rfl, fun j x hj => absurd hj (by omega)⟩
  case round =>
    obtain ⟨i, rfl, hi, rfl, HJ⟩ := hrel
    cases gk with
    | zero =>
      have hlt : ¬ (i : Int) < (l.length : Int) := by omega
      have HA : Hid (belowB most l = true) := all_true fun j x hx => HJ.out j x (by have := (List.getElem?_eq_some_iff.1 hx).1; omega) hx
      go_wp2_with fail
      go_ret
      exact ⟨⟨_, rfl, by rw [HA.out]; rfl⟩, rfl⟩
    | succ g =>
      have hlt : (i : Int) < (l.length : Int) := by omega
      have hilt : i < l.length := by omega
      have hget : l[i]? = some l[i] := List.getElem?_eq_getElem hilt
      generalize l[i] = x at hget
      obtain ⟨ga, o, cs, rfl, hgB, hcs, hP, hcell⟩ := Lies.at HL.out hget
      obtain ⟨rfl, hx⟩ := hP
      have q0 := hcell 0 (by decide)
      simp at q0
      have HG : Hid (_) := hget
      clear hcell hget hcs
      go_wp2_with fail
      refine (outside_any x most mb _ HC.out).mono ?_
      rintro e w1 ⟨rfl, hw1⟩
      have hw1' := hw1.symm
      subst hw1'
      rcases hb : (decide (0 ≤ x) && decide (x < most)) with _ | _
      · have HA : Hid (belowB most l = false) := all_false HG.out hb
        go_wp2_with fail
        go_ret
        exact ⟨⟨_, rfl, by rw [HA.out]; simp⟩, rfl⟩
      · go_wp2_with fail
        go_roundg g
        case measure => omega
        case rel =>
          refine ⟨i + 1, by go_num, by omega, rfl, fun j y hj hy => ?_⟩
          rcases Nat.lt_or_ge j i with h | h
          · exact HJ.out j y h hy
          · have : j = i := by omega
            subst this
            rw [HG.out] at hy
            cases hy
            exact hb

set_option maxHeartbeats 1000000 in
theorem containsFunc_any (most : Int) (mb B : Nat) (v : Value) (l : List Int) (w : World) (hc : w.cell? ⟨mb, 0, none⟩ = some (.int .i64 most)) (hl : Nums B w v l) :
    Calls Tryd.prog 33 #[v, .func (.func 53) #[] #[.pointer (some ⟨mb, 0, none⟩)]] w fun e w' => e = .returned (.bool (!belowB most l)) ∧ w' = w := by
  have HL : Hid (_) := hl
  have HC : Hid (_) := hc
  clear hl hc
  go_enter Tryd.func33, Tryd.ntmps33
  go_wp2_with fail
  refine (indexFunc_any most mb B v l _ HC.out HL.out).mono ?_
  rintro e w1 ⟨⟨r, rfl, hr⟩, hw1⟩
  have hw1' := hw1.symm
  subst hw1'
  have HR : Hid (_) := hr
  clear hr
  go_wp2_with fail
  go_ret
  exact ⟨by rw [← HR.out]; rfl, rfl⟩

theorem new_cell (w : World) (T : TypeId) (v : Value) : (w.alloc (.cells #[v] T)).cell? ⟨w.heap.size, 0, none⟩ = some v := by
  unfold World.cell?
  rw [heap_alloc_new]
  rfl

set_option maxHeartbeats 1000000 in
theorem below_any (most : Int) (B : Nat) (v : Value) (l : List Int) (w : World) (hB : B ≤ w.heap.size) (hl : Nums B w v l) :
    Calls Tryd.prog 41 #[.int .i64 most, v] w fun e w' => e = .returned (.bool (belowB most l)) ∧ Below w.heap.size w w' := by
  have HL : Hid (Nums B (w.alloc (.cells #[.int .i64 most] 3)) v l) := hl.below ((Below.refl _ _).alloc hB _)
  have HC : Hid ((w.alloc (.cells #[.int .i64 most] 3)).cell? ⟨w.heap.size, 0, none⟩ = some (.int .i64 most)) := new_cell w _ _
  obtain ⟨a, c, rfl⟩ := Lies.slice hl
  clear hl
  go_enter Tryd.func41, Tryd.ntmps41
  go_wp2_with fail
  refine (containsFunc_any most _ B _ l _ HC.out HL.out).mono ?_
  rintro e w1 ⟨rfl, hw1⟩
  have hw1' := hw1.symm
  subst hw1'
  go_wp2_with fail
  go_ret
  exact ⟨by simp, below_alloc _ _⟩


theorem cells13 {w : World} {x : Nat} {T : TypeId} {f : Nat × Nat} {c0 c1 c2 c3 c4 c5 c6 c7 c8 c9 c10 c11 c12 : Value} (h : w.heap[x]? = some (.cells #[c0, c1, c2, c3, c4, c5, c6, c7, c8, c9, c10, c11, c12] T f)) :
    w.cell? ⟨x, 0, none⟩ = some c0 ∧ w.cell? ⟨x, 1, none⟩ = some c1 ∧ w.cell? ⟨x, 2, none⟩ = some c2 ∧ w.cell? ⟨x, 3, none⟩ = some c3 ∧ w.cell? ⟨x, 4, none⟩ = some c4 ∧ w.cell? ⟨x, 5, none⟩ = some c5 ∧ w.cell? ⟨x, 6, none⟩ = some c6 ∧ w.cell? ⟨x, 7, none⟩ = some c7 ∧ w.cell? ⟨x, 8, none⟩ = some c8 ∧ w.cell? ⟨x, 9, none⟩ = some c9 ∧ w.cell? ⟨x, 10, none⟩ = some c10 ∧ w.cell? ⟨x, 11, none⟩ = some c11 ∧ w.cell? ⟨x, 12, none⟩ = some c12 := by
  simp [World.cell?, h]

/-- the value of a checker: the rules (four functions, a number), the functions, their places, the code -/
def chkV (fC fB fO fH : Nat) (cs : Array Value) (N : Int) (vf : Value) (mp : Nat) (c : Cod) (vb : Value) : Value := .agg #[.func (.func fC) #[] cs, .func (.func fB) #[] #[], .func (.func fO) #[] #[], .func (.func fH) #[] #[], .int .i64 N, vf, .map (some mp), .string ⟨c.name.toArray⟩, .int .i64 c.params, .int .i64 c.results, .int .i64 c.vars, .int .i64 c.slots, vb]
end

end Go.Proofs.YthlngmknifpbjaaDoor
