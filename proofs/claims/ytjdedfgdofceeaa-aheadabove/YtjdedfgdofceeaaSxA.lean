/-
  posternkeep.AheadAbove; plain: what is above all that lead to a block is above it.
-/
import Derived.Test.YtjdedfgdofceeaaSbS
namespace Go.Proofs.Ytjdedfgdofceeaa
set_option linter.unusedSimpArgs false
set_option linter.unusedVariables false

variable {pre : Nat → List Nat}
theorem dom_ahead {i k : Nat} (h0 : i ≠ 0) (hk : k ≠ i) : Dom pre k i ↔ ∀ a, a ∈ pre i → Rch pre a → Dom pre k a := by
  constructor
  · intro h a ha _ hw
    exact h (.step hw ha fun e => hk e.symm)
  · intro h hw
    cases hw with
    | start _ => exact h0 rfl
    | step hw ha _ => exact h _ ha hw.rch hw
theorem dom_self (i : Nat) : Dom pre i i := by
  intro hw
  cases hw with
  | start h => exact h rfl
  | step _ _ h => exact h rfl
theorem dom_zero (i : Nat) : Dom pre 0 i := by
  intro hw
  induction hw with
  | start h => exact h rfl
  | step _ _ _ ih => exact ih
theorem dom_of_zero {k : Nat} (h : Dom pre k 0) : k = 0 := by
  by_cases e : k = 0
  · exact e
  · exact absurd (Wy.start (fun h => e h.symm)) h

variable {L : List (List Int)} {n : Nat}
open Classical in
theorem row_mem {j k : Nat} (hk : k < n) : ((k : Nat) : Int) ∈ rowD (abD L) j n ↔ Rch (preL L) k ∧ Rch (preL L) j ∧ Dom (preL L) k j := by
  unfold rowD
  simp only [List.mem_map, List.mem_filter, List.mem_range]
  constructor
  · rintro ⟨x, ⟨_, h⟩, e⟩
    have : x = k := by omega
    subst this
    unfold abD at h
    exact of_decide_eq_true h
  · intro h
    exact ⟨k, ⟨hk, by unfold abD; exact decide_eq_true h⟩, rfl⟩
open Classical in
theorem row_empty {j : Nat} (hj : j < n) : (rowD (abD L) j n).length = 0 ↔ ¬ Rch (preL L) j := by
  constructor
  · intro h hr
    have h1 := (row_mem (L := L) (j := j) hj).2 ⟨hr, hr, dom_self j⟩
    have h2 := List.length_eq_zero_iff.1 h
    rw [h2] at h1
    cases h1
  · intro h
    refine List.length_eq_zero_iff.2 ?_
    unfold rowD
    rw [List.filter_eq_nil_iff.2]
    · rfl
    · intro k _ hk
      unfold abD at hk
      exact h (of_decide_eq_true hk).2.1
open Classical in
theorem row_first (hn : 0 < n) : rowD (abD L) 0 n = [0] := by
  obtain ⟨m, rfl⟩ : ∃ m, n = m + 1 := ⟨n - 1, by omega⟩
  unfold rowD
  rw [List.range_succ_eq_map, List.filter_cons_of_pos (by unfold abD; exact decide_eq_true ⟨Rch.zero _, Rch.zero _, dom_self 0⟩), List.filter_eq_nil_iff.2]
  · rfl
  · intro k hk hd
    unfold abD at hd
    have h1 := dom_of_zero (of_decide_eq_true hd).2.2
    obtain ⟨x, _, rfl⟩ := List.mem_map.1 hk
    cases h1

end Go.Proofs.Ytjdedfgdofceeaa
