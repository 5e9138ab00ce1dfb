/-
  Package ssa: Above; a list of a grid gives way to a fresh one.
-/
import Derived.Test.YtjdedfgdofceeaaSbQ
import Derived.Test.YtjdedfgdofceeaaSbR0
namespace Go.Proofs.Ytjdedfgdofceeaa
open Go.RowKit
set_option linter.unusedSimpArgs false
set_option linter.unusedVariables false

/-- a fresh list takes the place of list i -/
theorem Grid.put {w w1 : World} {B n i gB c : Nat} {vs : List Value} {f : Nat → List Int} {u' : Value} {x : List Int} (h : Grid w B n (.slice (some ⟨gB, 0, none⟩) n c) vs f) (hi : i < n)
    (hg : Below w.heap.size w w1) (hub' : ∀ k, u'.ownBlock = some k → w.heap.size ≤ k) (ho : w1.ownsRow B 3 1 u' x.length (numsL x)) :
    Grid (w1.setCell ⟨gB, i, none⟩ u') B n (.slice (some ⟨gB, 0, none⟩) n c) (vs.set i u') (upd f i x) ∧ ∀ N, N ≤ B → N ≤ w.heap.size → Below N w (w1.setCell ⟨gB, i, none⟩ u') := by
  have hgB := own_lt h.row (g := gB) rfl
  have hk : ∀ k, k ≠ gB → (w1.setCell ⟨gB, i, none⟩ u').heap[k]? = w1.heap[k]? := fun k hk => Below.heap_setCell _ _ _ _ hk
  have hil : i < vs.length := by rw [h.len]; exact hi
  have hlt : ∀ {j : Nat} {y : Value}, vs[j]? = some y → j < n := fun {j y} hy => by
    have := (List.getElem?_eq_some_iff.1 hy).1; rw [h.len] at this; exact this
  refine ⟨⟨?_, fun j y hj hy => ?_, fun j l y y' k hy hy' e e' => ?_, fun j y k hy e => ?_⟩, fun N hN hN2 => ?_⟩
  · have h1 : w1.ownsRow B 31 1 (.slice (some ⟨gB, 0, none⟩) n c) n vs := own_same h.row fun g hgg => by
      have : gB = g := by simpa [Value.ownBlock] using hgg
      subst this
      exact hg.block gB hgB.2
    exact own_set h1 i u' (by omega)
  · by_cases hji : j = i
    · subst hji
      rw [List.getElem?_set_self hil] at hy
      cases hy
      rw [upd_same]
      refine own_same ho fun g hgg => hk g fun e => ?_
      subst e
      have := hub' g hgg; omega
    · rw [List.getElem?_set_ne (fun e => hji e.symm)] at hy
      rw [upd_other _ _ hji]
      have h1 := h.each j y hj hy
      refine own_same h1 fun g hgg => ?_
      rw [hk g fun e => h.away j y g hy hgg (by rw [e]; rfl)]
      exact hg.block g (own_lt h1 hgg).2
  · by_cases hji : j = i <;> by_cases hli : l = i
    · rw [hji, hli]
    · subst hji
      rw [List.getElem?_set_self hil] at hy
      rw [List.getElem?_set_ne (fun e => hli e.symm)] at hy'
      cases hy
      have := hub' k e
      have := (own_lt (h.each l y' (hlt hy') hy') e').2; omega
    · subst hli
      rw [List.getElem?_set_self hil] at hy'
      rw [List.getElem?_set_ne (fun e => hji e.symm)] at hy
      cases hy'
      have := hub' k e'
      have := (own_lt (h.each j y (hlt hy) hy) e).2; omega
    · rw [List.getElem?_set_ne (fun e => hji e.symm)] at hy
      rw [List.getElem?_set_ne (fun e => hli e.symm)] at hy'
      exact h.apart j l y y' k hy hy' e e'
  · by_cases hji : j = i
    · subst hji
      rw [List.getElem?_set_self hil] at hy
      cases hy
      intro e3
      have : gB = k := by simpa [Value.ownBlock] using e3
      have := hub' k e; have := hgB.2; omega
    · rw [List.getElem?_set_ne (fun e => hji e.symm)] at hy
      exact h.away j y k hy e
  · have hs : (w1.setCell ⟨gB, i, none⟩ u').heap.size = w1.heap.size := by simp [World.setCell]
    refine ⟨hg.os, hg.tape, hg.output, by rw [hs]; have := hg.size; omega, fun k hkN => ?_⟩
    rw [hk k (by have := hgB.1; omega)]
    exact hg.block k (by omega)

end Go.Proofs.Ytjdedfgdofceeaa
