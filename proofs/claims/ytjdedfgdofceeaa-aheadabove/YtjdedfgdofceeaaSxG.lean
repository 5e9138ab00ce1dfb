/-
  slices.Contains and slices.Equal of numbers, as posternkeep.AheadAbove asks them.
-/
import Derived.Test.YtjdedfgdofceeaaSaB
namespace Go.Proofs.Ytjdedfgdofceeaa
open Go.RowKit
set_option linter.unusedSimpArgs false
set_option linter.unusedVariables false

set_option maxHeartbeats 1000000 in
theorem index_any (B : Nat) (va : Value) (xs : List Int) (n : Int) (w : World) (hBw : B ≤ w.heap.size) (ha : Nums B w va xs) :
    Calls Try.prog 24 #[va, .int .i64 n] w fun e w' => (∃ i : Int, e = .returned (.int .i64 i) ∧ (0 ≤ i ↔ n ∈ xs)) ∧ ∃ k, w' = w.drewN k := by
  obtain ⟨a1, c1, rfl⟩ := Lies.slice ha
  have hl := ha.len
  unfold maxLen at hl
  have HA : Hid (Nums B w (.slice a1 xs.length c1) xs) := ha
  clear ha
  go_enter Try.func24, Try.ntmps24
  go_wp2_with fail
  go_loopg [8] xs.length (fun g s8 wr => ∃ i : Nat, s8 = .int .i64 (i : Nat) ∧ i + g = xs.length ∧ Hid (∃ n, wr = w.drewN n) ∧ Hid (n ∉ xs.take i))
  case atStart => exact ⟨0, rfl, by omega, ⟨0, rfl⟩, by unfold Hid; simp⟩
  case round =>
    obtain ⟨i, rfl, hi', HK0, HNI⟩ := hrel
    have HK : Hid (Below w.heap.size w wr) := by
      obtain ⟨n0, e0⟩ := HK0.out
      rw [e0]; exact below_drewN (Below.refl _ _) n0
    cases gk with
    | zero =>
      have hlt : ¬ (i : Int) < (xs.length : Int) := by omega
      have HR : Hid (n ∉ xs) := by
        have h := HNI.out
        rw [List.take_of_length_le (by omega)] at h
        exact h
      go_wp2_with fail
      go_ret
      exact ⟨⟨_, rfl, by constructor; (intro h; omega); (intro h; exact absurd h HR.out)⟩, HK0.out⟩
    | succ g =>
      have hlt : (i : Int) < (xs.length : Int) := by omega
      have hilt : i < xs.length := by omega
      have hget : xs[i]? = some xs[i] := List.getElem?_eq_getElem hilt
      generalize xs[i] = x at hget
      have HGT : Hid (xs[i]? = some x) := hget
      obtain ⟨g1, o1, cs1, rfl, _, hcs1, ⟨rfl, hx⟩, hcell1⟩ := Lies.at (HA.out.below (HK.out.mono hBw)) hget
      have q0 := hcell1 0 (by decide)
      simp at q0
      clear hcell1 hget hcs1
      rcases hb : (n == x) with _ | _
      · have HNE : Hid (n ≠ x) := by unfold Hid; simpa using hb
        go_wp2_with fail
        have HK2 : Hid (∃ n, wr = w.drewN n) := HK0.out
        have HN2 : Hid (n ∉ xs.take (i + 1)) := by
          unfold Hid
          rw [List.take_add_one, HGT.out]
          simp only [Option.toList_some, List.mem_append, List.mem_singleton, not_or]
          exact ⟨HNI.out, HNE.out⟩
        go_roundg g
        case measure => omega
        case rel => exact ⟨i + 1, by go_num, by omega, HK2, HN2⟩
      · have HEQ : Hid (n = x) := by unfold Hid; simpa using hb
        go_wp2_with fail
        go_ret
        exact ⟨⟨_, rfl, ⟨fun _ => by rw [HEQ.out]; exact List.mem_of_getElem? HGT.out, fun _ => by omega⟩⟩, HK0.out⟩

set_option maxHeartbeats 1000000 in
theorem contains_any (B : Nat) (va : Value) (xs : List Int) (n : Int) (w : World) (hBw : B ≤ w.heap.size) (ha : Nums B w va xs) :
    Calls Try.prog 13 #[va, .int .i64 n] w fun e w' => e = .returned (.bool (decide (n ∈ xs))) ∧ ∃ k, w' = w.drewN k := by
  have HA : Hid (_) := index_any B va xs n w hBw ha
  obtain ⟨a1, c1, rfl⟩ := Lies.slice ha
  clear ha
  go_enter Try.func13, Try.ntmps13
  go_wp2_with fail
  refine Calls.mono HA.out ?_
  rintro e w1 ⟨⟨i, rfl, hi⟩, hk⟩
  have HI : Hid (_) := hi
  have HK : Hid (_) := hk
  clear hi hk
  go_wp2_with fail
  go_ret
  refine ⟨?_, HK.out⟩
  show Ending.returned (Value.bool (decide (0 ≤ i))) = .returned (.bool (decide (n ∈ xs)))
  rw [decide_eq_decide.2 HI.out]

set_option maxHeartbeats 1000000 in
theorem equal_same (B : Nat) (va vb : Value) (xs : List Int) (w : World) (hBw : B ≤ w.heap.size) (ha : Nums B w va xs) (hb : Nums B w vb xs) :
    Calls Try.prog 12 #[va, vb] w fun e w' => e = .returned (.bool true) ∧ ∃ n, w' = w.drewN n := by
  obtain ⟨a1, c1, rfl⟩ := Lies.slice ha
  obtain ⟨a2, c2, rfl⟩ := Lies.slice hb
  have hl := ha.len
  unfold maxLen at hl
  have HA : Hid (Nums B w (.slice a1 xs.length c1) xs) := ha
  have HB : Hid (Nums B w (.slice a2 xs.length c2) xs) := hb
  clear ha hb
  go_enter Try.func12, Try.ntmps12
  go_wp2_with fail
  go_loopg [13] xs.length (fun g s13 wr => ∃ i : Nat, s13 = .int .i64 (i : Nat) ∧ i + g = xs.length ∧ Hid (∃ n, wr = w.drewN n))
  case atStart => exact ⟨0, rfl, by omega, 0, rfl⟩
  case round =>
    obtain ⟨i, rfl, hi', HK0⟩ := hrel
    have HK : Hid (Below w.heap.size w wr) := by
      obtain ⟨n0, e0⟩ := HK0.out
      rw [e0]; exact below_drewN (Below.refl _ _) n0
    cases gk with
    | zero =>
      have hlt : ¬ (i : Int) < (xs.length : Int) := by omega
      go_wp2_with fail
      go_ret
      exact ⟨rfl, HK0.out⟩
    | succ g =>
      have hlt : (i : Int) < (xs.length : Int) := by omega
      have hilt : i < xs.length := by omega
      have hget : xs[i]? = some xs[i] := List.getElem?_eq_getElem hilt
      generalize xs[i] = x at hget
      obtain ⟨g1, o1, cs1, rfl, _, hcs1, ⟨rfl, hx⟩, hcell1⟩ := Lies.at (HA.out.below (HK.out.mono hBw)) hget
      obtain ⟨g2, o2, cs2, rfl, _, hcs2, ⟨rfl, _⟩, hcell2⟩ := Lies.at (HB.out.below (HK.out.mono hBw)) hget
      have q0 := hcell1 0 (by decide)
      have q1 := hcell2 0 (by decide)
      simp at q0 q1
      clear hcell1 hcell2 hget hcs1 hcs2
      go_wp2_with fail
      go_quiet (fail)
      have HK2 : Hid (∃ n, wr.drewN nq = w.drewN n) := by
        obtain ⟨n0, e0⟩ := HK0.out
        exact ⟨n0 + nq, by rw [e0, World.drewN_drewN]⟩
      go_wp2_with fail
      go_roundg g
      case measure => omega
      case rel => exact ⟨i + 1, by go_num, by omega, HK2⟩

end Go.Proofs.Ytjdedfgdofceeaa
