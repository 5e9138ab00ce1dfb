/-
  Which blocks lead to a block, plain.
-/
import Derived.Test.YtjdedfgdofceeaaSaB
namespace Go.Proofs.Ytjdedfgdofceeaa
open Go.RowKit
set_option linter.unusedSimpArgs false
set_option linter.unusedVariables false

/-- the places in the last instruction of a block -/
def leadsL (b : List Ins) : List Int := match b.getLast? with
  | none => []
  | some i => i.to
/-- does block i lead to block t -/
def leadsB (bs : List (List Ins)) (t i : Nat) : Bool := (leadsL (bs.getD i [])).contains (t : Int)
/-- those of the first m blocks that lead to block t -/
def rowB (bs : List (List Ins)) (t m : Nat) : List Int := ((List.range m).filter (leadsB bs t)).map fun i => ((i : Nat) : Int)
def aheadF (bs : List (List Ins)) : Nat → List Int := fun t => rowB bs t bs.length
def aheadL (bs : List (List Ins)) : List (List Int) := (List.range bs.length).map (aheadF bs)

theorem rowB_zero (bs : List (List Ins)) (t : Nat) : rowB bs t 0 = [] := rfl
theorem rowB_succ (bs : List (List Ins)) (t m : Nat) : rowB bs t (m + 1) = if leadsB bs t m then rowB bs t m ++ [(m : Int)] else rowB bs t m := by
  unfold rowB
  rw [List.range_succ, List.filter_append, List.map_append]
  by_cases h : leadsB bs t m = true
  · simp [h]
  · simp [h]
theorem rowB_mem {bs : List (List Ins)} {t m : Nat} {y : Int} (h : y ∈ rowB bs t m) : 0 ≤ y ∧ y < m := by
  unfold rowB at h
  obtain ⟨i, hi, rfl⟩ := List.mem_map.1 h
  have := List.mem_range.1 (List.mem_filter.1 hi).1
  omega
theorem rowB_len (bs : List (List Ins)) (t m : Nat) : (rowB bs t m).length ≤ m := by
  unfold rowB
  rw [List.length_map]
  exact Nat.le_trans (List.length_filter_le _ _) (by simp)
theorem rowB_last {bs : List (List Ins)} {t m : Nat} : (rowB bs t m).getLast? ≠ some (m : Int) := fun h => by
  have := rowB_mem (List.mem_of_getLast? h)
  omega

theorem contains_take (l : List Int) (k : Nat) (y t : Int) (h : l[k]? = some y) : (l.take (k + 1)).contains t = ((l.take k).contains t || y == t) := by
  rw [List.take_add_one, h]
  simp only [Option.toList_some, List.contains_eq_mem, List.mem_append, List.mem_singleton]
  by_cases e : t = y
  · subst e; simp
  · have e2 : (y == t) = false := by simpa using fun h => e h.symm
    simp [e, e2]

/-- list t' when the look is at block i for block t -/
def stF (bs : List (List Ins)) (t i : Nat) : Nat → List Int := fun t' => if t' < t then aheadF bs t' else if t' = t then rowB bs t i else []
theorem stF_here (bs : List (List Ins)) (t i : Nat) : stF bs t i t = rowB bs t i := by simp [stF]
theorem stF_push {bs : List (List Ins)} {t i : Nat} (h : leadsB bs t i = true) : upd (stF bs t i) t (stF bs t i t ++ [(i : Int)]) = stF bs t (i + 1) := by
  funext t'
  by_cases e : t' = t
  · subst e
    rw [upd_same, stF_here, stF_here, rowB_succ, if_pos h]
  · rw [upd_other _ _ e]
    simp [stF, e]
theorem stF_skip {bs : List (List Ins)} {t i : Nat} (h : leadsB bs t i = false) : stF bs t i = stF bs t (i + 1) := by
  funext t'
  by_cases e : t' = t
  · subst e
    rw [stF_here, stF_here, rowB_succ, h]
    simp
  · simp [stF, e]
theorem stF_next (bs : List (List Ins)) (t : Nat) : stF bs t bs.length = stF bs (t + 1) 0 := by
  funext t'
  unfold stF
  by_cases h1 : t' < t
  · rw [if_pos h1, if_pos (by omega)]
  · by_cases h2 : t' = t
    · subst h2
      rw [if_neg h1, if_pos rfl, if_pos (by omega)]
      rfl
    · rw [if_neg h1, if_neg h2, if_neg (by omega)]
      split
      · exact (rowB_zero _ _).symm
      · rfl
theorem stF_start (bs : List (List Ins)) : stF bs 0 0 = fun _ => [] := by
  funext t'
  unfold stF
  rw [if_neg (by omega)]
  split
  · exact rowB_zero _ _
  · rfl

end Go.Proofs.Ytjdedfgdofceeaa
