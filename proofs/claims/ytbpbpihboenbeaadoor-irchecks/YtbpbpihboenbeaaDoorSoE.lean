/-
  All numbers below a bound.
-/
import Derived.Test.YtbpbpihboenbeaaDoorSoC
namespace Go.Proofs.YtbpbpihboenbeaaDoor
open Go.RowKit
set_option linter.unusedSimpArgs false
set_option linter.unusedVariables false



theorem outside_any (n most : Int) (mb : Nat) (w : World) (hc : w.cell? ⟨mb, 0, none⟩ = some (.int .i64 most)) : Calls Tryd.prog 44 #[.int .i64 n, .pointer (some ⟨mb, 0, none⟩)] w fun e w' => e = .returned (.bool (!(decide (0 ≤ n) && decide (n < most)))) ∧ w' = w := by
  by_cases h1 : n < 0
  · have h1' : ¬ (0 ≤ n) := by omega
    go_enter Tryd.func44, Tryd.ntmps44
    go_wp2_with fail
    go_ret
    exact ⟨by simp [h1'], rfl⟩
  · have h1' : 0 ≤ n := by omega
    by_cases h2 : n ≥ most
    · have h2' : ¬ (n < most) := by omega
      go_enter Tryd.func44, Tryd.ntmps44
      go_wp2_with fail
      go_ret
      exact ⟨by simp [h2', h1'], rfl⟩
    · have h2' : n < most := by omega
      go_enter Tryd.func44, Tryd.ntmps44
      go_wp2_with fail
      go_ret
      exact ⟨by simp [h2', h1'], rfl⟩

set_option maxHeartbeats 2000000 in
theorem indexFunc_any (most : Int) (mb B : Nat) (v : Value) (l : List Int) (w : World) (hc : w.cell? ⟨mb, 0, none⟩ = some (.int .i64 most)) (hl : Nums B w v l) :
    Calls Tryd.prog 57 #[v, .func (.func 44) #[] #[.pointer (some ⟨mb, 0, none⟩)]] w fun e w' => (∃ r : Int, e = .returned (.int .i64 r) ∧ decide (r ≥ 0) = !belowB most l) ∧ w' = w := by
  obtain ⟨a, c, rfl⟩ := Lies.slice hl
  have hlm := hl.len
  unfold maxLen at hlm
  have HL : Hid (Nums B w (.slice a l.length c) l) := hl
  have HC : Hid (_) := hc
  clear hl hc
  go_enter Tryd.func57, Tryd.ntmps57
  go_wp2_with fail
  go_loopg [8] l.length (fun g s8 wr => ∃ i : Nat, s8 = .int .i64 (i : Nat) ∧ i + g = l.length ∧ wr = w ∧ Hid (∀ j x, j < i → l[j]? = some x → (decide (0 ≤ x) && decide (x < most)) = true))
  case atStart => exact ⟨0, rfl, by omega, rfl, fun j x hj => absurd hj (by omega)⟩
  case round =>
    obtain ⟨i, rfl, hi, rfl, HJ⟩ := hrel
    cases gk with
    | zero =>
      have hlt : ¬ (i : Int) < (l.length : Int) := by omega
      have HA : Hid (belowB most l = true) := all_true fun j x hx => HJ.out j x (by have := (List.getElem?_eq_some_iff.1 hx).1; omega) hx
      go_wp2_with fail
      go_ret
      exact ⟨⟨_, rfl, by rw [HA.out]; rfl⟩, rfl⟩
    | succ g =>
      have hlt : (i : Int) < (l.length : Int) := by omega
      have hilt : i < l.length := by omega
      have hget : l[i]? = some l[i] := List.getElem?_eq_getElem hilt
      generalize l[i] = x at hget
      obtain ⟨ga, o, cs, rfl, hgB, hcs, hP, hcell⟩ := Lies.at HL.out hget
      obtain ⟨rfl, hx⟩ := hP
      have q0 := hcell 0 (by decide)
      simp at q0
      have HG : Hid (_) := hget
      clear hcell hget hcs
      go_wp2_with fail
      refine (outside_any x most mb _ HC.out).mono ?_
      rintro e w1 ⟨rfl, hw1⟩
      have hw1' := hw1.symm
      subst hw1'
      rcases hb : (decide (0 ≤ x) && decide (x < most)) with _ | _
      · have HA : Hid (belowB most l = false) := all_false HG.out hb
        go_wp2_with fail
        go_ret
        exact ⟨⟨_, rfl, by rw [HA.out]; simp⟩, rfl⟩
      · go_wp2_with fail
        go_roundg g
        case measure => omega
        case rel =>
          refine ⟨i + 1, by go_num, by omega, rfl, fun j y hj hy => ?_⟩
          rcases Nat.lt_or_ge j i with h | h
          · exact HJ.out j y h hy
          · have : j = i := by omega
            subst this
            rw [HG.out] at hy
            cases hy
            exact hb

set_option maxHeartbeats 1000000 in
theorem containsFunc_any (most : Int) (mb B : Nat) (v : Value) (l : List Int) (w : World) (hc : w.cell? ⟨mb, 0, none⟩ = some (.int .i64 most)) (hl : Nums B w v l) :
    Calls Tryd.prog 43 #[v, .func (.func 44) #[] #[.pointer (some ⟨mb, 0, none⟩)]] w fun e w' => e = .returned (.bool (!belowB most l)) ∧ w' = w := by
  have HL : Hid (_) := hl
  have HC : Hid (_) := hc
  clear hl hc
  go_enter Tryd.func43, Tryd.ntmps43
  go_wp2_with fail
  refine (indexFunc_any most mb B v l _ HC.out HL.out).mono ?_
  rintro e w1 ⟨⟨r, rfl, hr⟩, hw1⟩
  have hw1' := hw1.symm
  subst hw1'
  have HR : Hid (_) := hr
  clear hr
  go_wp2_with fail
  go_ret
  exact ⟨by rw [← HR.out]; rfl, rfl⟩

theorem new_cell (w : World) (T : TypeId) (v : Value) : (w.alloc (.cells #[v] T)).cell? ⟨w.heap.size, 0, none⟩ = some v := by
  unfold World.cell?
  rw [heap_alloc_new]
  rfl

set_option maxHeartbeats 1000000 in
theorem below_any (most : Int) (B : Nat) (v : Value) (l : List Int) (w : World) (hB : B ≤ w.heap.size) (hl : Nums B w v l) :
    Calls Tryd.prog 29 #[.int .i64 most, v] w fun e w' => e = .returned (.bool (belowB most l)) ∧ Below w.heap.size w w' := by
  have HL : Hid (Nums B (w.alloc (.cells #[.int .i64 most] 3)) v l) := hl.below ((Below.refl _ _).alloc hB _)
  have HC : Hid ((w.alloc (.cells #[.int .i64 most] 3)).cell? ⟨w.heap.size, 0, none⟩ = some (.int .i64 most)) := new_cell w _ _
  obtain ⟨a, c, rfl⟩ := Lies.slice hl
  clear hl
  go_enter Tryd.func29, Tryd.ntmps29
  go_wp2_with fail
  refine (containsFunc_any most _ B _ l _ HC.out HL.out).mono ?_
  rintro e w1 ⟨rfl, hw1⟩
  have hw1' := hw1.symm
  subst hw1'
  go_wp2_with fail
  go_ret
  exact ⟨by simp, below_alloc _ _⟩


theorem cells13 {w : World} {x : Nat} {T : TypeId} {f : Nat × Nat} {c0 c1 c2 c3 c4 c5 c6 c7 c8 c9 c10 c11 c12 : Value} (h : w.heap[x]? = some (.cells #[c0, c1, c2, c3, c4, c5, c6, c7, c8, c9, c10, c11, c12] T f)) :
    w.cell? ⟨x, 0, none⟩ = some c0 ∧ w.cell? ⟨x, 1, none⟩ = some c1 ∧ w.cell? ⟨x, 2, none⟩ = some c2 ∧ w.cell? ⟨x, 3, none⟩ = some c3 ∧ w.cell? ⟨x, 4, none⟩ = some c4 ∧ w.cell? ⟨x, 5, none⟩ = some c5 ∧ w.cell? ⟨x, 6, none⟩ = some c6 ∧ w.cell? ⟨x, 7, none⟩ = some c7 ∧ w.cell? ⟨x, 8, none⟩ = some c8 ∧ w.cell? ⟨x, 9, none⟩ = some c9 ∧ w.cell? ⟨x, 10, none⟩ = some c10 ∧ w.cell? ⟨x, 11, none⟩ = some c11 ∧ w.cell? ⟨x, 12, none⟩ = some c12 := by
  simp [World.cell?, h]

/-- the value of a checker: the rules (four functions, a number), the functions, their places, the code -/
def chkV (fC fB fO fH : Nat) (cs : Array Value) (N : Int) (vf : Value) (mp : Nat) (c : Cod) (vb : Value) : Value := .agg #[.func (.func fC) #[] cs, .func (.func fB) #[] #[], .func (.func fO) #[] #[], .func (.func fH) #[] #[], .int .i64 N, vf, .map (some mp), .string ⟨c.name.toArray⟩, .int .i64 c.params, .int .i64 c.results, .int .i64 c.vars, .int .i64 c.slots, vb]

end Go.Proofs.YtbpbpihboenbeaaDoor
