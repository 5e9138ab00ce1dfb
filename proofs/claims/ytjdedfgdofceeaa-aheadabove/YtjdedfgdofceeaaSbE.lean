/-
  Package posternref: what is above each block (AboveOf): its walk.
-/
import Derived.Test.YtjdedfgdofceeaaSbD
namespace Go.Proofs.Ytjdedfgdofceeaa
open Go.RowKit
set_option linter.unusedSimpArgs false
set_option linter.unusedVariables false

/-- those of the first m blocks that are above block j -/
def rowD (dm : Nat → Nat → Bool) (j m : Nat) : List Int := ((List.range m).filter (fun k => dm k j)).map fun i => ((i : Nat) : Int)
theorem rowD_succ (dm : Nat → Nat → Bool) (j m : Nat) : rowD dm j (m + 1) = if dm m j then rowD dm j m ++ [(m : Int)] else rowD dm j m := by
  unfold rowD
  rw [List.range_succ, List.filter_append, List.map_append]
  by_cases h : dm m j = true
  · simp [h]
  · simp [h]
theorem rowD_len (dm : Nat → Nat → Bool) (j m : Nat) : (rowD dm j m).length ≤ m := by
  unfold rowD
  rw [List.length_map]
  exact Nat.le_trans (List.length_filter_le _ _) (by simp)
theorem rowD_mem {dm : Nat → Nat → Bool} {j m : Nat} {y : Int} (h : y ∈ rowD dm j m) : 0 ≤ y ∧ y < m := by
  unfold rowD at h
  obtain ⟨i, hi, rfl⟩ := List.mem_map.1 h
  have := List.mem_range.1 (List.mem_filter.1 hi).1
  omega
/-- list j when the look is at block i without block k -/
def stD (dm : Nat → Nat → Bool) (k i : Nat) : Nat → List Int := fun j => if j < i then rowD dm j (k + 1) else rowD dm j k
theorem stD_zero (dm : Nat → Nat → Bool) : stD dm 0 0 = fun _ => [] := by funext j; simp [stD, rowD]
theorem stD_here (dm : Nat → Nat → Bool) (k i : Nat) : stD dm k i i = rowD dm i k := by simp [stD]
theorem stD_next {dm : Nat → Nat → Bool} {k n j : Nat} (h : j < n) : stD dm k n j = stD dm (k + 1) 0 j := by simp [stD, h]
theorem stD_dead {dm : Nat → Nat → Bool} {k j : Nat} (h : dm k j = false) : stD dm k 0 j = stD dm (k + 1) 0 j := by simp [stD, rowD_succ, h]
theorem stD_skip {dm : Nat → Nat → Bool} {k i : Nat} (h : dm k i = false) : stD dm k i = stD dm k (i + 1) := by
  funext j
  unfold stD
  by_cases h1 : j < i
  · rw [if_pos h1, if_pos (by omega)]
  · by_cases h2 : j = i
    · subst h2; rw [if_neg h1, if_pos (by omega), rowD_succ, h]; simp
    · rw [if_neg h1, if_neg (by omega)]
theorem stD_push {dm : Nat → Nat → Bool} {k i : Nat} (h : dm k i = true) : upd (stD dm k i) i (stD dm k i i ++ [(k : Int)]) = stD dm k (i + 1) := by
  funext j
  by_cases e : j = i
  · subst e; rw [upd_same, stD_here]; unfold stD; rw [if_pos (by omega), rowD_succ, if_pos h]
  · rw [upd_other _ _ e]
    unfold stD
    by_cases h1 : j < i
    · rw [if_pos h1, if_pos (by omega)]
    · rw [if_neg h1, if_neg (by omega)]

/-- a row of truths beside the lists that are made -/
structure Kp (wr : World) (gB n : Nat) (vs : List Value) (v : Value) (f : Nat → Bool) : Prop where
  row : wr.ownsRow 0 4 1 v n (bools n f)
  main : ∀ g, v.ownBlock = some g → g ≠ gB
  each : ∀ (g i : Nat) (u : Value), v.ownBlock = some g → vs[i]? = some u → u.ownBlock ≠ some g
theorem Kp.keep {wr w' : World} {gB n : Nat} {vs : List Value} {v : Value} {f : Nat → Bool} (h : Kp wr gB n vs v f) (k : Below wr.heap.size wr w') : Kp w' gB n vs v f :=
  ⟨own_same h.row fun g hg => k.block g (own_lt h.row hg).2, h.main, h.each⟩
theorem Kp.push {wr w1 : World} {gB n i : Nat} {vs : List Value} {v u u' : Value} {f : Nat → Bool} (h : Kp wr gB n vs v f) (hu : vs[i]? = some u)
    (hg : wr.grownBy w1 u.ownBlock) (hat : u'.ownBlock = u.ownBlock ∨ u'.ownBlock = some wr.heap.size) : Kp (w1.setCell ⟨gB, i, none⟩ u') gB n (vs.set i u') v f := by
  refine ⟨own_same h.row fun g hgg => ?_, h.main, fun g j y hgg hy e => ?_⟩
  · rw [Below.heap_setCell _ _ _ _ (h.main g hgg)]
    exact hg.block g (own_lt h.row hgg).2 fun e => h.each g i u hgg hu e.symm
  · by_cases hji : j = i
    · subst hji
      rw [List.getElem?_set_self (List.getElem?_eq_some_iff.1 hu).1] at hy
      cases hy
      rcases hat with e2 | e2
      · exact h.each g j u hgg hu (by rw [← e2]; exact e)
      · have := (own_lt h.row hgg).2
        rw [e2] at e
        have : wr.heap.size = g := by simpa using e
        omega
    · rw [List.getElem?_set_ne (fun e => hji e.symm)] at hy
      exact h.each g j y hgg hy e
theorem Kp.get {wr : World} {gB n i : Nat} {vs : List Value} {v : Value} {f : Nat → Bool} (h : Kp wr gB n vs v f) (hi : i < n) : ∃ g c, v = .slice (some ⟨g, 0, none⟩) n c ∧ wr.cell? ⟨g, i, none⟩ = some (.bool (f i)) := by
  obtain ⟨g, c, he, _, _, _, _, _, hat⟩ := own_at h.row (by omega)
  exact ⟨g, c, he, hat i _ (bools_get f hi)⟩

/-- what the loops keep -/
structure AB (w wr : World) (n gB : Nat) (hd : Array Value) (vs : List Value) (f : Nat → List Int) : Prop where
  grid : Grid wr (w.heap.size + 1) n (.slice (some ⟨gB, 0, none⟩) n n) vs f
  blk : wr.heap[w.heap.size]? = some (.cells hd 24)
  bel : Below w.heap.size w wr
theorem AB.keep {w wr w' : World} {n gB : Nat} {hd : Array Value} {vs : List Value} {f : Nat → List Int} (h : AB w wr n gB hd vs f) (k : Below wr.heap.size wr w') : AB w w' n gB hd vs f :=
  ⟨h.grid.keep k, (k.block _ (lt_of_block h.blk)).trans h.blk, h.bel.trans (k.mono h.bel.size)⟩
theorem AB.push {w wr w1 : World} {n i gB : Nat} {hd : Array Value} {vs : List Value} {f : Nat → List Int} {u u' : Value} {x : Int} (h : AB w wr n gB hd vs f) (hi : i < n) (hu : vs[i]? = some u)
    (hg : wr.grownBy w1 u.ownBlock) (hat : u'.ownBlock = u.ownBlock ∨ u'.ownBlock = some wr.heap.size) (ho : w1.ownsRow (w.heap.size + 1) 3 1 u' ((f i).length + 1) (numsL (f i) ++ [numV x])) :
    AB w (w1.setCell ⟨gB, i, none⟩ u') n gB hd (vs.set i u') (upd f i (f i ++ [x])) := by
  obtain ⟨h1, h2⟩ := h.grid.push hi hu hg hat ho
  have h3 := h2 (w.heap.size + 1) (Nat.le_refl _) (by have := lt_of_block h.blk; omega)
  exact ⟨h1, (h3.block _ (by omega)).trans h.blk, h.bel.trans (h3.mono (by omega))⟩
theorem AB.new {w wr w' : World} {n gB : Nat} {hd : Array Value} {vs : List Value} {f : Nat → List Int} {v : Value} {g : Nat → Bool} (h : AB w wr n gB hd vs f) (ho : w'.ownsRow wr.heap.size 4 1 v n (bools n g)) : Kp w' gB n vs v g := by
  refine ⟨own_base ho (Nat.zero_le _), fun k hk e => ?_, fun k i u hk hu e => ?_⟩
  · subst e
    have := (own_lt ho hk).1
    have := (own_lt h.grid.row (g := k) rfl).2
    omega
  · have hi : i < n := by have := (List.getElem?_eq_some_iff.1 hu).1; rw [h.grid.len] at this; exact this
    have := (own_lt (h.grid.each i u hi hu) e).2
    have := (own_lt ho hk).1
    omega
theorem AB.congr {w wr : World} {n gB : Nat} {hd : Array Value} {vs : List Value} {f f' : Nat → List Int} (h : AB w wr n gB hd vs f) (e : ∀ i, i < n → f i = f' i) : AB w wr n gB hd vs f' := ⟨h.grid.congr e, h.blk, h.bel⟩

end Go.Proofs.Ytjdedfgdofceeaa
