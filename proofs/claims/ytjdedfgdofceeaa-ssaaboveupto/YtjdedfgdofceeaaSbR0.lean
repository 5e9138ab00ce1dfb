/-
  Package ssa: Above; plain: the chain of a block, in order, is the chain of the nearest one above it with the block put in.
-/
import Derived.Test.YtjdedfgdofceeaaSbN1
namespace Go.Proofs.Ytjdedfgdofceeaa
set_option linter.unusedSimpArgs false
set_option linter.unusedVariables false

theorem range_split {n b : Nat} (h : b < n) : List.range n = List.range b ++ b :: (List.range (n - b - 1)).map (fun x => b + 1 + x) := by
  obtain ⟨m, hm⟩ : ∃ m, m = n - b - 1 := ⟨_, rfl⟩
  have e : n = (b + 1) + m := by omega
  rw [← hm, e, List.range_add, List.range_succ, List.append_assoc]
  simp
theorem countP_all {p : Nat → Bool} : ∀ {l : List Nat}, (∀ x ∈ l, p x = true) → l.countP p = l.length
  | [], _ => rfl
  | a :: l, h => by rw [List.countP_cons_of_pos (h a (by simp)), countP_all fun x hx => h x (by simp [hx]), List.length_cons]
theorem countP_no {p : Nat → Bool} : ∀ {l : List Nat}, (∀ x ∈ l, p x = false) → l.countP p = 0
  | [], _ => rfl
  | a :: l, h => by rw [List.countP_cons_of_neg (by rw [h a (by simp)]; simp), countP_no fun x hx => h x (by simp [hx])]

theorem ins_filter {n b : Nat} {P : Nat → Bool} (hb : b < n) (hP : P b = false) :
    ((List.range n).filter P).take (((List.range n).filter P).countP (fun x => decide (x < b))) ++ b :: ((List.range n).filter P).drop (((List.range n).filter P).countP (fun x => decide (x < b))) = (List.range n).filter (fun x => P x || x == b) := by
  have h1 : (List.range n).filter P = (List.range b).filter P ++ ((List.range (n - b - 1)).map (fun x => b + 1 + x)).filter P := by
    rw [range_split hb, List.filter_append, List.filter_cons_of_neg (by rw [hP]; simp)]
  have h2 : ((List.range n).filter P).countP (fun x => decide (x < b)) = ((List.range b).filter P).length := by
    rw [h1, List.countP_append, countP_all (l := (List.range b).filter P), countP_no (l := ((List.range (n - b - 1)).map (fun x => b + 1 + x)).filter P), Nat.add_zero]
    · intro x hx
      obtain ⟨y, _, rfl⟩ := List.mem_map.1 (List.mem_filter.1 hx).1
      simp; omega
    · intro x hx
      have := List.mem_range.1 (List.mem_filter.1 hx).1
      simpa using this
  rw [h2, h1, List.take_left, List.drop_left, range_split hb, List.filter_append, List.filter_cons_of_pos (by simp)]
  congr 1
  · refine List.filter_congr fun x hx => ?_
    have := List.mem_range.1 hx
    have : (x == b) = false := by simp; omega
    rw [this, Bool.or_false]
  · congr 1
    refine List.filter_congr fun x hx => ?_
    obtain ⟨y, _, rfl⟩ := List.mem_map.1 hx
    have : (b + 1 + y == b) = false := by simp; omega
    rw [this, Bool.or_false]

theorem filter_sorted (n : Nat) (P : Nat → Bool) : ((List.range n).filter P).Pairwise (· ≤ ·) :=
  (List.pairwise_le_range).filter P

/-- chains: of a block behind another one -/
theorem ch_up {u : Nat → Option Nat} {b c x : Nat} (h : u b = some c) : Ch u x b ↔ x = b ∨ Ch u x c := by
  constructor
  · intro k
    cases k with
    | here => exact .inl rfl
    | up e k => rw [h] at e; cases e; exact .inr k
  · rintro (rfl | k)
    · exact .here
    · exact .up h k
theorem ch_top {u : Nat → Option Nat} {b x : Nat} (h : u b = none) : Ch u x b ↔ x = b := by
  constructor
  · intro k
    cases k with
    | here => rfl
    | up e k => rw [h] at e; cases e
  · rintro rfl; exact .here

end Go.Proofs.Ytjdedfgdofceeaa
