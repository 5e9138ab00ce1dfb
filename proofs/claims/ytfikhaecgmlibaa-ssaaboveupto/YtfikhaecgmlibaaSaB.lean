/-
  Two lists of lists of numbers are one: how the statement looks; the last one of a list.
-/
import Derived.Test.YtfikhaecgmlibaaSaA
import Derived.RegionTactic
import Derived.Deep.RegionWith
import Derived.Deep.QuietTactic
import Derived.BigQuiet
namespace Go.Proofs.Ytfikhaecgmlibaa
open Go.RowKit
set_option linter.unusedSimpArgs false
set_option linter.unusedVariables false

theorem below_drewN {B : Nat} {a w : World} (h : Below B a w) (n : Nat) : Below B a (w.drewN n) := ⟨h.os, h.tape, h.output, h.size, h.block⟩

set_option maxHeartbeats 1000000 in
theorem sameInts_one (B : Nat) (va vb : Value) (xs : List Int) (w : World) (hBw : B ≤ w.heap.size) (ha : Nums B w va xs) (hb : Nums B w vb xs) :
    Calls Try.prog 13 #[va, vb] w fun e w' => e = .returned (.bool true) ∧ ∃ n, w' = w.drewN n := by
  obtain ⟨a1, c1, rfl⟩ := Lies.slice ha
  obtain ⟨a2, c2, rfl⟩ := Lies.slice hb
  have hl := ha.len
  unfold maxLen at hl
  have HA : Hid (Nums B w (.slice a1 xs.length c1) xs) := ha
  have HB : Hid (Nums B w (.slice a2 xs.length c2) xs) := hb
  clear ha hb
  go_enter Try.func13, Try.ntmps13
  go_wp2_with fail
  go_loopg [5] xs.length (fun g s5 wr => ∃ i : Nat, s5 = .int .i64 (i : Nat) ∧ i + g = xs.length ∧ Hid (∃ n, wr = w.drewN n))
  case atStart => exact ⟨0, rfl, by omega, 0, rfl⟩
  case round =>
    obtain ⟨i, rfl, hi', HK0⟩ := hrel
    have HK : Hid (Below w.heap.size w wr) := by
      obtain ⟨n0, e0⟩ := HK0.out
      rw [e0]; exact below_drewN (Below.refl _ _) n0
    cases gk with
    | zero =>
      have hlt : ¬ (i : Int) < (xs.length : Int) := by omega
      go_wp2_with fail
      go_ret
      exact ⟨rfl, HK0.out⟩
    | succ g =>
      have hlt : (i : Int) < (xs.length : Int) := by omega
      have hilt : i < xs.length := by omega
      have hget : xs[i]? = some xs[i] := List.getElem?_eq_getElem hilt
      generalize xs[i] = x at hget
      obtain ⟨g1, o1, cs1, rfl, _, hcs1, ⟨rfl, hx⟩, hcell1⟩ := Lies.at (HA.out.below (HK.out.mono hBw)) hget
      obtain ⟨g2, o2, cs2, rfl, _, hcs2, ⟨rfl, _⟩, hcell2⟩ := Lies.at (HB.out.below (HK.out.mono hBw)) hget
      have q0 := hcell1 0 (by decide)
      have q1 := hcell2 0 (by decide)
      simp at q0 q1
      clear hcell1 hcell2 hget hcs1 hcs2
      go_wp2_with fail
      go_quiet (fail)
      have HK2 : Hid (∃ n, wr.drewN nq = w.drewN n) := by
        obtain ⟨n0, e0⟩ := HK0.out
        exact ⟨n0 + nq, by rw [e0, World.drewN_drewN]⟩
      go_wp2_with fail
      go_roundg g
      case measure => omega
      case rel => exact ⟨i + 1, by go_num, by omega, HK2⟩

set_option maxHeartbeats 1000000 in
theorem sameLists_one (B : Nat) (va vb : Value) (xs : List (List Int)) (w : World) (hBw : B ≤ w.heap.size) (ha : Rws B w va xs) (hb : Rws B w vb xs) :
    Calls Try.prog 6 #[va, vb] w fun e w' => e = .returned (.bool true) ∧ ∃ n, w' = w.drewN n := by
  obtain ⟨a1, c1, rfl⟩ := Lies.slice ha
  obtain ⟨a2, c2, rfl⟩ := Lies.slice hb
  have hl := ha.len
  unfold maxLen at hl
  have HA : Hid (Rws B w (.slice a1 xs.length c1) xs) := ha
  have HB : Hid (Rws B w (.slice a2 xs.length c2) xs) := hb
  clear ha hb
  go_enter Try.func6, Try.ntmps6
  go_wp2_with fail
  go_loopg [5] xs.length (fun g s5 wr => ∃ i : Nat, s5 = .int .i64 (i : Nat) ∧ i + g = xs.length ∧ Hid (∃ n, wr = w.drewN n))
  case atStart => exact ⟨0, rfl, by omega, 0, rfl⟩
  case round =>
    obtain ⟨i, rfl, hi', HK0⟩ := hrel
    have HK : Hid (Below w.heap.size w wr) := by
      obtain ⟨n0, e0⟩ := HK0.out
      rw [e0]; exact below_drewN (Below.refl _ _) n0
    cases gk with
    | zero =>
      have hlt : ¬ (i : Int) < (xs.length : Int) := by omega
      go_wp2_with fail
      go_ret
      exact ⟨rfl, HK0.out⟩
    | succ g =>
      have hlt : (i : Int) < (xs.length : Int) := by omega
      have hilt : i < xs.length := by omega
      have hget : xs[i]? = some xs[i] := List.getElem?_eq_getElem hilt
      generalize xs[i] = x at hget
      obtain ⟨g1, o1, cs1, rfl, _, hcs1, ⟨u1, rfl, hu1⟩, hcell1⟩ := Lies.at (HA.out.below (HK.out.mono hBw)) hget
      obtain ⟨g2, o2, cs2, rfl, _, hcs2, ⟨u2, rfl, hu2⟩, hcell2⟩ := Lies.at (HB.out.below (HK.out.mono hBw)) hget
      obtain ⟨b1, k1, rfl⟩ := Lies.slice hu1
      obtain ⟨b2, k2, rfl⟩ := Lies.slice hu2
      have q0 := hcell1 0 (by decide)
      have q1 := hcell2 0 (by decide)
      simp at q0 q1
      have HU1 : Hid (_) := hu1
      have HU2 : Hid (_) := hu2
      have hbw : B ≤ wr.heap.size := Nat.le_trans hBw HK.out.size
      clear hcell1 hcell2 hget hcs1 hcs2 hu1 hu2
      go_wp2_with fail
      have HCALL : ∀ n, Calls Try.prog 13 #[.slice b1 x.length k1, .slice b2 x.length k2] (wr.drewN n) fun e w' => e = .returned (.bool true) ∧ ∃ m, w' = (wr.drewN n).drewN m := fun n =>
        sameInts_one B _ _ x _ hbw (Nums.below HU1.out (below_drewN (Below.refl _ _) n)) (Nums.below HU2.out (below_drewN (Below.refl _ _) n))
      go_quiet (exact Calls.quiet_of (HCALL _))
      have HK2 : Hid (∃ n, wr.drewN nq = w.drewN n) := by
        obtain ⟨n0, e0⟩ := HK0.out
        exact ⟨n0 + nq, by rw [e0, World.drewN_drewN]⟩
      go_wp2_with fail
      go_roundg g
      case measure => omega
      case rel => exact ⟨i + 1, by go_num, by omega, HK2⟩

set_option maxHeartbeats 1000000 in
theorem endsWith_any (B : Nat) (v : Value) (xs : List Int) (n : Int) (w : World) (hv : Nums B w v xs) :
    Calls Try.prog 23 #[v, .int .i64 n] w fun e w' => e = .returned (.bool (xs.getLast? == some n)) ∧ w' = w := by
  obtain ⟨a1, c1, rfl⟩ := Lies.slice hv
  have hl := hv.len
  unfold maxLen at hl
  have HA : Hid (Nums B w (.slice a1 xs.length c1) xs) := hv
  clear hv
  rcases List.eq_nil_or_concat xs with rfl | ⟨ys, y, rfl⟩
  · simp only [List.length_nil]
    go_enter Try.func23, Try.ntmps23
    go_wp2_with fail
    go_ret
    exact ⟨rfl, rfl⟩
  · have hget : (ys.concat y)[ys.length]? = some y := by simp
    obtain ⟨g1, o1, cs1, rfl, _, hcs1, ⟨rfl, hx⟩, hcell1⟩ := Lies.at HA.out hget
    have q0 := hcell1 0 (by decide)
    obtain ⟨r, hr⟩ : ∃ r, r = ((ys.concat y).getLast? == some n) := ⟨_, rfl⟩
    rw [← hr]
    have hr2 : r = (y == n) := by rw [hr]; simp
    have hlen : (ys.concat y).length = ys.length + 1 := by simp
    simp only [hlen] at hl ⊢
    generalize ys.length = m at hl q0 ⊢
    simp at q0
    have HR : Hid (r = (y == n)) := hr2
    clear hr hr2 hget hcell1 HA hlen
    have h0 : (0 : Int) < ((m + 1 : Nat) : Int) := by omega
    have h1 : (((m + 1 : Nat) : Int) - 1) = (m : Int) := by omega
    go_enter Try.func23, Try.ntmps23
    go_wp2_with fail
    go_ret
    exact ⟨by rw [HR.out]; rfl, rfl⟩

end Go.Proofs.Ytfikhaecgmlibaa
