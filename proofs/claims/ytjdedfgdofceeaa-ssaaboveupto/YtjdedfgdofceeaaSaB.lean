/-
  Two lists of lists of numbers are one: how the statement looks; the last one of a list.
-/
import Derived.Test.YtjdedfgdofceeaaSaA
import Derived.RegionTactic
import Derived.Deep.RegionWith
import Derived.Deep.QuietTactic
import Derived.BigQuiet
namespace Go.Proofs.Ytjdedfgdofceeaa
open Go.RowKit
set_option linter.unusedSimpArgs false
set_option linter.unusedVariables false

theorem below_drewN {B : Nat} {a w : World} (h : Below B a w) (n : Nat) : Below B a (w.drewN n) := ⟨h.os, h.tape, h.output, h.size, h.block⟩

set_option maxHeartbeats 1000000 in
theorem sameInts_one (B : Nat) (va vb : Value) (xs : List Int) (w : World) (hBw : B ≤ w.heap.size) (ha : Nums B w va xs) (hb : Nums B w vb xs) :
    Calls Try.prog 16 #[va, vb] w fun e w' => e = .returned (.bool true) ∧ ∃ n, w' = w.drewN n := by
  obtain ⟨a1, c1, rfl⟩ := Lies.slice ha
  obtain ⟨a2, c2, rfl⟩ := Lies.slice hb
  have hl := ha.len
  unfold maxLen at hl
  have HA : Hid (Nums B w (.slice a1 xs.length c1) xs) := ha
  have HB : Hid (Nums B w (.slice a2 xs.length c2) xs) := hb
  clear ha hb
  go_enter Try.func16, Try.ntmps16
  go_wp2_with fail
  go_loopg [5] xs.length (fun g s5 wr => ∃ i : Nat, s5 = .int .i64 (i : Nat) ∧ i + g = xs.length ∧ Hid (∃ n, wr = w.drewN n))
  case atStart => exact ⟨0, rfl, by omega, 0, rfl⟩
  case round =>
    obtain ⟨i, rfl, hi', HK0⟩ := hrel
    have HK : Hid (Below w.heap.size w wr) := by
      obtain ⟨n0, e0⟩ := HK0.out
      rw [e0]; exact below_drewN (Below.refl _ _) n0
    cases gk with
    | zero =>
      have hlt : ¬ (i : Int) < (xs.length : Int) := by omega
      go_wp2_with fail
      go_ret
      exact ⟨rfl, HK0.out⟩
    | succ g =>
      have hlt : (i : Int) < (xs.length : Int) := by omega
      have hilt : i < xs.length := by omega
      have hget : xs[i]? = some xs[i] := List.getElem?_eq_getElem hilt
      generalize xs[i] = x at hget
      obtain ⟨g1, o1, cs1, rfl, _, hcs1, ⟨rfl, hx⟩, hcell1⟩ := Lies.at (HA.out.below (HK.out.mono hBw)) hget
      obtain ⟨g2, o2, cs2, rfl, _, hcs2, ⟨rfl, _⟩, hcell2⟩ := Lies.at (HB.out.below (HK.out.mono hBw)) hget
      have q0 := hcell1 0 (by decide)
      have q1 := hcell2 0 (by decide)
      simp at q0 q1
      clear hcell1 hcell2 hget hcs1 hcs2
      go_wp2_with fail
      go_quiet (fail)
      have HK2 : Hid (∃ n, wr.drewN nq = w.drewN n) := by
        obtain ⟨n0, e0⟩ := HK0.out
        exact ⟨n0 + nq, by rw [e0, World.drewN_drewN]⟩
      go_wp2_with fail
      go_roundg g
      case measure => omega
      case rel => exact ⟨i + 1, by go_num, by omega, HK2⟩

set_option maxHeartbeats 1000000 in
theorem sameLists_one (B : Nat) (va vb : Value) (xs : List (List Int)) (w : World) (hBw : B ≤ w.heap.size) (ha : Rws B w va xs) (hb : Rws B w vb xs) :
    Calls Try.prog 8 #[va, vb] w fun e w' => e = .returned (.bool true) ∧ ∃ n, w' = w.drewN n := by
  obtain ⟨a1, c1, rfl⟩ := Lies.slice ha
  obtain ⟨a2, c2, rfl⟩ := Lies.slice hb
  have hl := ha.len
  unfold maxLen at hl
  have HA : Hid (Rws B w (.slice a1 xs.length c1) xs) := ha
  have HB : Hid (Rws B w (.slice a2 xs.length c2) xs) := hb
  clear ha hb
  go_enter Try.func8, Try.ntmps8
  go_wp2_with fail
  go_loopg [5] xs.length (fun g s5 wr => ∃ i : Nat, s5 = .int .i64 (i : Nat) ∧ i + g = xs.length ∧ Hid (∃ n, wr = w.drewN n))
  case atStart => exact ⟨0, rfl, by omega, 0, rfl⟩
  case round =>
    obtain ⟨i, rfl, hi', HK0⟩ := hrel
    have HK : Hid (Below w.heap.size w wr) := by
      obtain ⟨n0, e0⟩ := HK0.out
      rw [e0]; exact below_drewN (Below.refl _ _) n0
    cases gk with
    | zero =>
      have hlt : ¬ (i : Int) < (xs.length : Int) := by omega
      go_wp2_with fail
      go_ret
      exact ⟨rfl, HK0.out⟩
    | succ g =>
      have hlt : (i : Int) < (xs.length : Int) := by omega
      have hilt : i < xs.length := by omega
      have hget : xs[i]? = some xs[i] := List.getElem?_eq_getElem hilt
      generalize xs[i] = x at hget
      obtain ⟨g1, o1, cs1, rfl, _, hcs1, ⟨u1, rfl, hu1⟩, hcell1⟩ := Lies.at (HA.out.below (HK.out.mono hBw)) hget
      obtain ⟨g2, o2, cs2, rfl, _, hcs2, ⟨u2, rfl, hu2⟩, hcell2⟩ := Lies.at (HB.out.below (HK.out.mono hBw)) hget
      obtain ⟨b1, k1, rfl⟩ := Lies.slice hu1
      obtain ⟨b2, k2, rfl⟩ := Lies.slice hu2
      have q0 := hcell1 0 (by decide)
      have q1 := hcell2 0 (by decide)
      simp at q0 q1
      have HU1 : Hid (_) := hu1
      have HU2 : Hid (_) := hu2
      have hbw : B ≤ wr.heap.size := Nat.le_trans hBw HK.out.size
      clear hcell1 hcell2 hget hcs1 hcs2 hu1 hu2
      go_wp2_with fail
      have HCALL : ∀ n, Calls Try.prog 16 #[.slice b1 x.length k1, .slice b2 x.length k2] (wr.drewN n) fun e w' => e = .returned (.bool true) ∧ ∃ m, w' = (wr.drewN n).drewN m := fun n =>
        sameInts_one B _ _ x _ hbw (Nums.below HU1.out (below_drewN (Below.refl _ _) n)) (Nums.below HU2.out (below_drewN (Below.refl _ _) n))
      go_quiet (exact Calls.quiet_of (HCALL _))
      have HK2 : Hid (∃ n, wr.drewN nq = w.drewN n) := by
        obtain ⟨n0, e0⟩ := HK0.out
        exact ⟨n0 + nq, by rw [e0, World.drewN_drewN]⟩
      go_wp2_with fail
      go_roundg g
      case measure => omega
      case rel => exact ⟨i + 1, by go_num, by omega, HK2⟩

end Go.Proofs.Ytjdedfgdofceeaa
