/-
  The statement's own answer: numbers in bounds, texts in a list, a function by its name.
-/
import Derived.Test.YthlngmknifpbjaaDoorJIaQ
import Derived.RegionTactic
import Derived.Deep.RegionWith
namespace Go.Proofs.YthlngmknifpbjaaDoor
open Go.RowKit Go.Maps
set_option linter.unusedSimpArgs false
set_option linter.unusedVariables false

theorem in_any (n a b : Int) (w : World) : Calls Tryd.prog 23 #[.int .i64 n, .int .i64 a, .int .i64 b] w fun e w' => e = .returned (.bool (decide (a ≤ n) && decide (n ≤ b))) ∧ w' = w := by
  by_cases h1 : a ≤ n
  · have h1' : n ≥ a := h1
    by_cases h2 : n ≤ b <;>
      (go_enter Tryd.func23, Tryd.ntmps23
       go_wp2_with fail
       go_ret
       exact ⟨by simp [h1, h2], rfl⟩)
  · have h1' : ¬ n ≥ a := h1
    go_enter Tryd.func23, Tryd.ntmps23
    go_wp2_with fail
    go_ret
    exact ⟨by simp; omega, rfl⟩

theorem closes_any (op : Int) (w : World) : Calls Tryd.prog 22 #[.int .i64 op] w fun e w' => e = .returned (.bool (endsB op)) ∧ w' = w := by
  go_enter Tryd.func22, Tryd.ntmps22
  go_wp2_with fail
  refine (in_any _ _ _ _).mono ?_
  rintro e w1 ⟨rfl, hw1⟩
  have hw1' := hw1.symm
  subst hw1'
  go_wp2_with fail
  go_ret
  exact ⟨rfl, rfl⟩

def allB (hi : Int) (l : List Int) : Bool := l.all fun n => decide (0 ≤ n) && decide (n ≤ hi)

theorem allB_below (m : Int) (l : List Int) : allB (m - 1) l = belowB m l := by
  unfold allB belowB
  congr 1
  funext n
  have : decide (n ≤ m - 1) = decide (n < m) := by
    by_cases h : n < m
    · simp [h]; omega
    · simp [h]; omega
  rw [this]

set_option maxHeartbeats 2000000 in
theorem allIn_any (hi : Int) (B : Nat) (v : Value) (l : List Int) (w : World) (hl : Nums B w v l) :
    Calls Tryd.prog 10 #[v, .int .i64 0, .int .i64 hi] w fun e w' => e = .returned (.bool (allB hi l)) ∧ w' = w := by
  obtain ⟨a, c, rfl⟩ := Lies.slice hl
  have hlm := hl.len
  unfold maxLen at hlm
  have HL : Hid (Nums B w (.slice a l.length c) l) := hl
  obtain ⟨r, hr⟩ : ∃ r, r = allB hi l := ⟨_, rfl⟩
  rw [← hr]
  have HR : Hid (r = allB hi l) := hr
  clear hl hr
  go_enter Tryd.func10, Tryd.ntmps10
  go_wp2_with fail
  go_loopg [7] l.length (fun g s7 wr => ∃ i : Nat, s7 = .int .i64 (i : Nat) ∧ i + g = l.length ∧ wr = w ∧ Hid (∀ j x, j < i → l[j]? = some x → (decide (0 ≤ x) && decide (x ≤ hi)) = true))
  case atStart => exact ⟨0, rfl, by omega, rfl, fun j x hj => absurd hj (by omega)⟩
  case round =>
    obtain ⟨i, rfl, hi', rfl, HJ⟩ := hrel
    cases gk with
    | zero =>
      have hlt : ¬ (i : Int) < (l.length : Int) := by omega
      have HA : Hid (r = true) := HR.out.trans (all_true fun j x hx => HJ.out j x (by have := (List.getElem?_eq_some_iff.1 hx).1; omega) hx)
      go_wp2_with fail
      go_ret
      exact ⟨by rw [HA.out]; rfl, rfl⟩
    | succ g =>
      have hlt : (i : Int) < (l.length : Int) := by omega
      have hilt : i < l.length := by omega
      have hget : l[i]? = some l[i] := List.getElem?_eq_getElem hilt
      generalize l[i] = x at hget
      obtain ⟨ga, o, cs, rfl, hgB, hcs, hP, hcell⟩ := Lies.at HL.out hget
      obtain ⟨rfl, hx⟩ := hP
      have q0 := hcell 0 (by decide)
      simp at q0
      have HG : Hid (_) := hget
      clear hcell hget hcs
      go_wp2_with fail
      refine (in_any x 0 hi _).mono ?_
      rintro e w1 ⟨rfl, hw1⟩
      have hw1' := hw1.symm
      subst hw1'
      rcases hb : (decide (0 ≤ x) && decide (x ≤ hi)) with _ | _
      · have HA : Hid (r = false) := HR.out.trans (all_false HG.out hb)
        go_wp2_with fail
        go_ret
        exact ⟨by rw [HA.out]; rfl, rfl⟩
      · go_wp2_with fail
        go_roundg g
        case measure => omega
        case rel =>
          refine ⟨i + 1, by go_num, by omega, rfl, fun j y hj hy => ?_⟩
          rcases Nat.lt_or_ge j i with h | h
          · exact HJ.out j y h hy
          · have : j = i := by omega
            subst this
            rw [HG.out] at hy
            cases hy
            exact hb

set_option maxHeartbeats 2000000 in
theorem isIn_any (s : List UInt8) (L : List (List UInt8)) (g0 cap : Nat) (w : World) (hL : L.length ≤ 100) (hc : ∀ (i : Nat) (x : List UInt8), L[i]? = some x → w.cell? ⟨g0, i, none⟩ = some (.string ⟨x.toArray⟩)) :
    Calls Tryd.prog 52 #[.slice (some ⟨g0, 0, none⟩) L.length cap, .string ⟨s.toArray⟩] w fun e w' => e = .returned (.bool (L.any fun x => x == s)) ∧ w' = w := by
  obtain ⟨r, hr⟩ : ∃ r, r = L.any fun x => x == s := ⟨_, rfl⟩
  rw [← hr]
  have HR : Hid (r = L.any fun x => x == s) := hr
  have HC : Hid (_) := hc
  clear hr hc
  go_enter Tryd.func52, Tryd.ntmps52
  go_wp2_with fail
  go_loopg [5] L.length (fun g s5 wr => ∃ i : Nat, s5 = .int .i64 (i : Nat) ∧ i + g = L.length ∧ wr = w ∧ Hid (∀ (j : Nat) (x : List UInt8), j < i → L[j]? = some x → (x == s) = false))
  case atStart => exact ⟨0, rfl, by omega, rfl, fun j x hj => absurd hj (by omega)⟩
  case round =>
    obtain ⟨i, rfl, hi', rfl, HJ⟩ := hrel
    cases gk with
    | zero =>
      have hlt : ¬ (i : Int) < (L.length : Int) := by omega
      have HA : Hid (r = false) := by
        unfold Hid
        rw [HR.out, List.any_eq_false]
        intro x hx
        obtain ⟨j, hj⟩ := List.getElem?_of_mem hx
        have := HJ.out j x (by have := (List.getElem?_eq_some_iff.1 hj).1; omega) hj
        simp [this]
      go_wp2_with fail
      go_ret
      exact ⟨by rw [HA.out]; rfl, rfl⟩
    | succ g =>
      have hlt : (i : Int) < (L.length : Int) := by omega
      have hilt : i < L.length := by omega
      have hget : L[i]? = some L[i] := List.getElem?_eq_getElem hilt
      generalize L[i] = x at hget
      have q0 := HC.out i x hget
      have HG : Hid (_) := hget
      clear hget
      rcases hb : (x == s) with _ | _
      · go_wp2_with fail
        go_roundg g
        case measure => omega
        case rel =>
          refine ⟨i + 1, by go_num, by omega, rfl, fun j y hj hy => ?_⟩
          rcases Nat.lt_or_ge j i with h | h
          · exact HJ.out j y h hy
          · have : j = i := by omega
            subst this
            rw [HG.out] at hy
            cases hy
            exact hb
      · have HA : Hid (r = true) := by
          unfold Hid
          rw [HR.out, List.any_eq_true]
          exact ⟨x, List.mem_of_getElem? HG.out, hb⟩
        go_wp2_with fail
        go_ret
        exact ⟨by rw [HA.out]; rfl, rfl⟩

def mathL : List (List UInt8) := [[43], [45], [42], [47], [37], [61, 61], [33, 61], [60], [60, 61], [62], [62, 61]]
theorem mathL_any (s : List UInt8) : (mathL.any fun x => x == s) = mathB s := by
  have e : ∀ x : List UInt8, (x == s) = (s == x) := fun x => BEq.comm
  simp only [mathL, List.any_cons, List.any_nil, e, mathB, Bool.or_false, Bool.or_assoc]

theorem mathCells (w : World) (T : TypeId) (i : Nat) (x : List UInt8) (hx : mathL[i]? = some x) : (w.alloc (.cells #[.string ⟨#[43]⟩, .string ⟨#[45]⟩, .string ⟨#[42]⟩, .string ⟨#[47]⟩, .string ⟨#[37]⟩, .string ⟨#[61, 61]⟩, .string ⟨#[33, 61]⟩, .string ⟨#[60]⟩, .string ⟨#[60, 61]⟩, .string ⟨#[62]⟩, .string ⟨#[62, 61]⟩] T)).cell? ⟨w.heap.size, i, none⟩ = some (.string ⟨x.toArray⟩) := by
  have e : (#[.string ⟨#[43]⟩, .string ⟨#[45]⟩, .string ⟨#[42]⟩, .string ⟨#[47]⟩, .string ⟨#[37]⟩, .string ⟨#[61, 61]⟩, .string ⟨#[33, 61]⟩, .string ⟨#[60]⟩, .string ⟨#[60, 61]⟩, .string ⟨#[62]⟩, .string ⟨#[62, 61]⟩] : Array Value) = (mathL.map fun x => Value.string ⟨x.toArray⟩).toArray := rfl
  unfold World.cell?
  rw [e, heap_alloc_new]
  simp [hx]

set_option maxHeartbeats 2000000 in
theorem isMathR_any (s : List UInt8) (w : World) : Calls Tryd.prog 35 #[.string ⟨s.toArray⟩] w fun e w' => e = .returned (.bool (mathB s)) ∧ Below w.heap.size w w' := by
  rw [← mathL_any]
  go_enter Tryd.func35, Tryd.ntmps35
  go_wp2_with fail
  refine (isIn_any s mathL w.heap.size 11 _ (by decide) (mathCells w _)).mono ?_
  rintro e w1 ⟨rfl, hw1⟩
  have hw1' := hw1.symm
  subst hw1'
  go_wp2_with fail
  go_ret
  exact ⟨rfl, below_alloc _ _⟩

end Go.Proofs.YthlngmknifpbjaaDoor
