/-
  The table of counts; what the statement says of the counts.
-/
import Derived.Test.YtbpbpihboenbeaaDoorSoC
namespace Go.Proofs.YtbpbpihboenbeaaDoor
open Go.RowKit
set_option linter.unusedSimpArgs false
set_option linter.unusedVariables false

/-- the table of package ir: three numbers an operator -/
def ctL : List (Int × Int × Int) := [(0, 0, 0), (1, 0, 0), (1, 1, 0), (1, 2, 0), (1, 1, 0), (0, 2, 0), (1, 1, 0), (-1, -1, 0), (0, -1, 0), (0, 0, 1), (0, 1, 2), (0, 1, -2), (0, -1, 0), (0, 0, 0)]
def ct1 (i : Nat) : Int := (ctL.getD i (0, 0, 0)).1
def ct2 (i : Nat) : Int := (ctL.getD i (0, 0, 0)).2.1
def ct3 (i : Nat) : Int := (ctL.getD i (0, 0, 0)).2.2

def TabC (w : World) : Prop := ∀ i, i < 14 → w.cell? ⟨0, i * 3, none⟩ = some (.int .i64 (ct1 i)) ∧ w.cell? ⟨0, i * 3 + 1, none⟩ = some (.int .i64 (ct2 i)) ∧ w.cell? ⟨0, i * 3 + 2, none⟩ = some (.int .i64 (ct3 i))

theorem TabC.below {w w' : World} {B : Nat} (h : TabC w) (hB : 0 < B) (k : Below B w w') : TabC w' := by
  have g1 := hB
  intro i hi
  obtain ⟨h1, h2, h3⟩ := h i hi
  exact ⟨(k.cell (p := ⟨0, i * 3, none⟩) g1).trans h1, (k.cell (p := ⟨0, i * 3 + 1, none⟩) g1).trans h2, (k.cell (p := ⟨0, i * 3 + 2, none⟩) g1).trans h3⟩

theorem below_set {B : Nat} {a w : World} (h : Below B a w) {g i : Nat} (hg : B ≤ g) (v : Value) : Below B a (w.setCell ⟨g, i, none⟩ v) :=
  h.trans ⟨rfl, rfl, rfl, by simp [World.setCell], fun k hk => Below.heap_setCell _ _ _ _ (by show k ≠ g; omega)⟩

theorem fits_n (n : Nat) (x : Nat) : fitsB (n : Int) (x : Int) = (n == x) := by
  unfold fitsB
  have h1 : ((x : Int) == -1) = false := beq_eq_false_iff_ne.2 (by omega)
  have h2 : ((x : Int) == -2) = false := beq_eq_false_iff_ne.2 (by omega)
  rw [h1, h2]
  by_cases h : n = x
  · subst h; simp
  · have h3 : ((n : Int) == (x : Int)) = false := beq_eq_false_iff_ne.2 (by omega)
    have h4 : (n == x) = false := beq_eq_false_iff_ne.2 h
    rw [h3, h4]
    rfl

theorem fits_any1 (n : Nat) : fitsB (n : Int) (-1) = true := by unfold fitsB; simp
theorem fits_some (n : Nat) : fitsB (n : Int) (-2) = decide (0 < n) := by
  unfold fitsB
  have h1 : ((n : Int) == -2) = false := beq_eq_false_iff_ne.2 (by omega)
  rw [h1]
  simp

theorem counts_eq (k d a t : Nat) (h1 : 1 ≤ k) (h2 : k < 14) : (fitsB d (ct1 k) && (fitsB a (ct2 k) && fitsB t (ct3 k))) = countOk (k : Int) d a t := by
  have f0 : ∀ n : Nat, fitsB (n : Int) 0 = (n == 0) := fun n => fits_n n 0
  have f1 : ∀ n : Nat, fitsB (n : Int) 1 = (n == 1) := fun n => fits_n n 1
  have f2 : ∀ n : Nat, fitsB (n : Int) 2 = (n == 2) := fun n => fits_n n 2
  have f3 := fits_any1
  have f4 := fits_some
  match k, h1, h2 with
  | 1, _, _ =>
    show (fitsB (d : Int) 1 && (fitsB (a : Int) 0 && fitsB (t : Int) 0)) = (d == 1 && (a == 0 && t == 0))
    rw [f1 d, f0 a, f0 t]
  | 2, _, _ =>
    show (fitsB (d : Int) 1 && (fitsB (a : Int) 1 && fitsB (t : Int) 0)) = (d == 1 && (a == 1 && t == 0))
    rw [f1 d, f1 a, f0 t]
  | 3, _, _ =>
    show (fitsB (d : Int) 1 && (fitsB (a : Int) 2 && fitsB (t : Int) 0)) = (d == 1 && (a == 2 && t == 0))
    rw [f1 d, f2 a, f0 t]
  | 4, _, _ =>
    show (fitsB (d : Int) 1 && (fitsB (a : Int) 1 && fitsB (t : Int) 0)) = (d == 1 && (a == 1 && t == 0))
    rw [f1 d, f1 a, f0 t]
  | 5, _, _ =>
    show (fitsB (d : Int) 0 && (fitsB (a : Int) 2 && fitsB (t : Int) 0)) = (d == 0 && (a == 2 && t == 0))
    rw [f0 d, f2 a, f0 t]
  | 6, _, _ =>
    show (fitsB (d : Int) 1 && (fitsB (a : Int) 1 && fitsB (t : Int) 0)) = (d == 1 && (a == 1 && t == 0))
    rw [f1 d, f1 a, f0 t]
  | 7, _, _ =>
    show (fitsB (d : Int) (-1) && (fitsB (a : Int) (-1) && fitsB (t : Int) 0)) = (t == 0)
    rw [f3 d, f3 a, f0 t]
    rfl
  | 8, _, _ =>
    show (fitsB (d : Int) 0 && (fitsB (a : Int) (-1) && fitsB (t : Int) 0)) = (d == 0 && t == 0)
    rw [f0 d, f3 a, f0 t]
    rfl
  | 9, _, _ =>
    show (fitsB (d : Int) 0 && (fitsB (a : Int) 0 && fitsB (t : Int) 1)) = (d == 0 && (a == 0 && t == 1))
    rw [f0 d, f0 a, f1 t]
  | 10, _, _ =>
    show (fitsB (d : Int) 0 && (fitsB (a : Int) 1 && fitsB (t : Int) 2)) = (d == 0 && (a == 1 && t == 2))
    rw [f0 d, f1 a, f2 t]
  | 11, _, _ =>
    show (fitsB (d : Int) 0 && (fitsB (a : Int) 1 && fitsB (t : Int) (-2))) = (d == 0 && (a == 1 && decide (0 < t)))
    rw [f0 d, f1 a, f4 t]
  | 12, _, _ =>
    show (fitsB (d : Int) 0 && (fitsB (a : Int) (-1) && fitsB (t : Int) 0)) = (d == 0 && t == 0)
    rw [f0 d, f3 a, f0 t]
    rfl
  | 13, _, _ =>
    show (fitsB (d : Int) 0 && (fitsB (a : Int) 0 && fitsB (t : Int) 0)) = (d == 0 && (a == 0 && t == 0))
    rw [f0 d, f0 a, f0 t]

end Go.Proofs.YtbpbpihboenbeaaDoor
