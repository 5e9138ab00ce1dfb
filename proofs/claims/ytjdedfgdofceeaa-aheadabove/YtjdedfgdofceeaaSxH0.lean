/-
  posternkeep.AheadAbove; plain: what the loop over those ahead asks.
-/
import Derived.Test.YtjdedfgdofceeaaSxA
namespace Go.Proofs.Ytjdedfgdofceeaa
set_option linter.unusedSimpArgs false
set_option linter.unusedVariables false

variable {pre : Nat → List Nat}
theorem rch_of_dom {k i : Nat} (hi : Rch pre i) (h : Dom pre k i) : Rch pre k := by
  by_cases hk : Rch pre k
  · exact hk
  · exfalso
    refine h ?_
    clear h
    induction hi with
    | start _ => exact .start (fun e => hk (e ▸ Rch.zero _))
    | step h1 h2 _ ih => exact .step ih h2 (fun e => hk (e ▸ Rch.next h1 h2))

variable {L : List (List Int)} {n : Nat}
open Classical in
theorem asks {q k : Nat} (hq : q < n) (hk : k < n) : (rowD (abD L) q n).length = 0 ∨ ((k : Nat) : Int) ∈ rowD (abD L) q n ↔ (Rch (preL L) q → Dom (preL L) k q) := by
  rw [row_empty hq, row_mem hk]
  constructor
  · rintro (h | h) hr
    · exact absurd hr h
    · exact h.2.2
  · intro h
    by_cases hr : Rch (preL L) q
    · exact .inr ⟨rch_of_dom hr (h hr), hr, h hr⟩
    · exact .inl hr
/-- has each of them k above it, if anything is above it? -/
noncomputable def allF (L : List (List Int)) (n k : Nat) (l : List Nat) : Bool := l.all fun q => decide ((rowD (abD L) q n).length = 0) || decide (((k : Nat) : Int) ∈ rowD (abD L) q n)
theorem allF_nil (k : Nat) : allF L n k [] = true := rfl
theorem allF_take {l : List Nat} {t q k : Nat} (h : l[t]? = some q) : allF L n k (l.take (t + 1)) = (allF L n k (l.take t) && (decide ((rowD (abD L) q n).length = 0) || decide (((k : Nat) : Int) ∈ rowD (abD L) q n))) := by
  unfold allF
  rw [List.take_add_one, h, Option.toList_some, List.all_append]
  simp
open Classical in
theorem allF_all {i k : Nat} (hi : i < n) (hk : k < n) (h0 : i ≠ 0) (hki : k ≠ i) (hr : (rowD (abD L) i n).length ≠ 0) (hlt : ∀ q, q ∈ preL L i → q < n) : allF L n k (preL L i) = decide (((k : Nat) : Int) ∈ rowD (abD L) i n) := by
  have hR : Rch (preL L) i := by
    by_cases h : Rch (preL L) i
    · exact h
    · exact absurd ((row_empty hi).2 h) hr
  rw [Bool.eq_iff_iff, decide_eq_true_iff, row_mem hk]
  unfold allF
  rw [List.all_eq_true]
  constructor
  · intro h
    have hd : Dom (preL L) k i := (dom_ahead h0 hki).2 fun a ha => (asks (hlt a ha) hk).1 (by have := h a ha; simpa using this)
    exact ⟨rch_of_dom hR hd, hR, hd⟩
  · rintro ⟨_, _, hd⟩ q hq
    have := (asks (hlt q hq) hk).2 ((dom_ahead h0 hki).1 hd q hq)
    simpa using this
theorem row_has {i : Nat} (hi : i < n) (h0 : 0 < n) (hr : (rowD (abD L) i n).length ≠ 0) : (0 : Int) ∈ rowD (abD L) i n ∧ ((i : Nat) : Int) ∈ rowD (abD L) i n := by
  classical
  have hR : Rch (preL L) i := by
    by_cases h : Rch (preL L) i
    · exact h
    · exact absurd ((row_empty hi).2 h) hr
  exact ⟨(row_mem (k := 0) h0).2 ⟨Rch.zero _, hR, dom_zero i⟩, (row_mem hi).2 ⟨hR, hR, dom_self i⟩⟩

end Go.Proofs.Ytjdedfgdofceeaa
