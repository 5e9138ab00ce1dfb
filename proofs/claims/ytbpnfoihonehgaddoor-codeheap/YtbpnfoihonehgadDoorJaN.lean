/-
  A list of numbers is copied.
-/
import Derived.Test.YtbpnfoihonehgadDoorJaG
import Derived.Test.YtbpnfoihonehgadDoorJaK0
import Derived.Lib.SliceRun
namespace Go.Proofs.YtbpnfoihonehgadDoor
open Go.RowKit
set_option linter.unusedSimpArgs false
set_option linter.unusedVariables false

theorem add_at (g o j : Nat) : (⟨g, o, none⟩ : Addr).add j = ⟨g, o + j, none⟩ := by unfold Addr.add; split <;> simp_all

set_option maxHeartbeats 1000000 in
set_option maxRecDepth 20000 in
theorem clone_nil (w : World) : Calls Tryd.prog 17 #[.slice none 0 0] w fun e w' => e = .returned (.slice none 0 0) ∧ w' = w := by
  have hq := fun w : World => Lib.run_eql_slice_nil (P := Tryd.prog) w 23 3 none 0 0 0 0 Tryd.underlying23
  go_enter Tryd.func17, Tryd.ntmps17
  go_wp2_with fail
  go_ret
  exact ⟨rfl, rfl⟩

set_option maxHeartbeats 1000000 in
set_option maxRecDepth 20000 in
theorem clone_some (w : World) (B : Nat) (v : Value) (xs : List Int) (hB : B ≤ w.heap.size) (h : Nums B w v xs) (hl : 0 < xs.length) (hx : xs.length ≤ 20000) :
    Calls Tryd.prog 17 #[v] w fun e w' => ∃ v', e = .returned v' ∧ w'.ownsRow w.heap.size 3 1 v' xs.length (numsL xs) ∧ Below w.heap.size w w' := by
  obtain ⟨x0, hx0⟩ : ∃ x0, xs[0]? = some x0 := ⟨_, List.getElem?_eq_getElem hl⟩
  obtain ⟨ga, o, ka, rfl, hga, _⟩ := nums_at h hx0
  have HN : Hid (∀ j u, (numsL xs)[j]? = some u → (w.alloc (.cells #[] 3)).cell? ((⟨ga, o, none⟩ : Addr).add j) = some u) := by
    intro j u hu
    have hj : j < xs.length := by have := (List.getElem?_eq_some_iff.1 hu).1; rwa [numsL_len] at this
    obtain ⟨ga', o', ka', he, _, hc⟩ := nums_at h (List.getElem?_eq_getElem hj)
    cases he
    rw [numsL_get xs j _ (List.getElem?_eq_getElem hj)] at hu
    cases hu
    rw [add_at, (below_alloc w _).cell (p := ⟨ga, o + j, none⟩) (by show ga < w.heap.size; omega)]
    exact hc
  have HO : Hid ((w.alloc (.cells #[] 3)).ownsRow w.heap.size 3 1 (.slice (some ⟨w.heap.size, 0, none⟩) 0 0) 0 []) := World.ownsRow_made w #[] 0 (Nat.le_refl _) (Nat.zero_le _) (by simp)
  obtain ⟨i0, hi, hz0, hz1, hzb⟩ := infoParts infoInt
  obtain ⟨N, hN⟩ : ∃ N, N = xs.length := ⟨_, rfl⟩
  have HNN : Hid (N = xs.length) := hN
  rw [← hN] at hl hx ⊢
  clear h hx0 hN hga
  have hq := fun w : World => Lib.run_eql_slice_nil (P := Tryd.prog) w 23 3 (some ⟨ga, o, none⟩) N ka 0 0 Tryd.underlying23
  go_enter Tryd.func17, Tryd.ntmps17
  go_wp2_with (at_builtin; refine wpList_append_lies _ rfl _ _ 23 (by rfl) w.heap.size 3 i0 _ 1 8 Tryd.underlying23 hi hz0 hz1 hzb rfl (by decide) (.slice (some ⟨w.heap.size, 0, none⟩) 0 0) 0 [] (by rfl) HO.out ⟨ga, o, none⟩ N ka (numsL xs) (by rfl) (by rw [numsL_len, ← HNN.out]; omega) HN.out (nums_one xs) hl (by unfold maxLen; omega) (by omega) (by simp) (w.heap.size + 1) (by simp) ?_)
  intro gg cp w2 hown hgrow hat hlt
  have HOW : Hid (w2.ownsRow w.heap.size 3 1 (.slice (some ⟨gg, 0, none⟩) N cp) N (numsL xs)) := by
    unfold Hid
    simpa using hown
  have HB : Hid (Below w.heap.size w w2) := ⟨hgrow.os, hgrow.tape, hgrow.output, Nat.le_trans (by simp) hgrow.size, fun k hk => (hgrow.block k (by simp; omega) (by simp [Value.ownBlock]; omega)).trans ((below_alloc w _).block k hk)⟩
  clear hown hgrow hat
  go_wp2_with fail
  go_ret
  exact ⟨_, rfl, HOW.out, HB.out⟩

end Go.Proofs.YtbpnfoihonehgadDoor
