/-
  Rows of numbers that a call has made, by what stands at each place; a row reversed.
-/
import Derived.Test.YtjdedfgdofceeaaSbJ
import Derived.Test.YtjdedfgdofceeaaShelf
import Derived.Lib.OwnBridge
namespace Go.Proofs.Ytjdedfgdofceeaa
open Go.RowKit
set_option linter.unusedSimpArgs false
set_option linter.unusedVariables false

theorem rev_own (base : Nat) (u : Value) (l : List Int) (W : World) (h : W.ownsRow base 3 1 u l.length (numsL l)) :
    Calls Try.prog 34 #[u] W fun e w' => e = .returned (.tuple #[]) ∧ w'.ownsRow base 3 1 u l.length (numsL l.reverse) ∧ Below base W w' := by
  by_cases hu : u = .slice none 0 0
  · subst hu
    have hl : l.length = 0 := by
      rcases h.2 with ⟨_, h0⟩ | ⟨g, cap, cur, hv, _⟩
      · exact h0
      · cases hv
    refine (Try.slices_Reverse_int_empty none 0 W).mono ?_
    rintro e w' ⟨rfl, rfl⟩
    have : l = [] := List.length_eq_zero_iff.1 hl
    subst this
    exact ⟨rfl, h, Below.refl _ _⟩
  · obtain ⟨g, cap, rfl, hb, hlt, hn, hm, hl, hH⟩ := Go.Lib.holds_of_ownsRow (enc := Value.int .i64) (zs := l) h hu
    refine (Try.slices_Reverse_int g 0 cap l W hH (by unfold maxLen at hm; omega)).mono ?_
    rintro e w' ⟨rfl, q, rfl⟩
    have h2 := Go.Lib.ownsRow_putRow (enc := Value.int .i64) (q := q) (k := l.length) (ys := l.reverse) h (by simp) (Nat.le_refl _)
    rw [List.take_of_length_le (by simp)] at h2
    exact ⟨rfl, h2, Go.Lib.below_putRow (Below.refl _ _) hb⟩

/-- numbers by their places -/
def fnL (n : Nat) (f : Nat → Int) : List Int := (List.range n).map f
theorem fnL_len (n : Nat) (f : Nat → Int) : (fnL n f).length = n := by simp [fnL]
theorem fnL_get {n i : Nat} (f : Nat → Int) (h : i < n) : (numsL (fnL n f))[i]? = some (.int .i64 (f i)) := by
  refine numsL_get _ _ _ ?_
  unfold fnL; rw [List.getElem?_map, List.getElem?_range h]; rfl
def fset (f : Nat → Int) (i : Nat) (x : Int) : Nat → Int := fun j => if j = i then x else f j
theorem fset_same (f : Nat → Int) (i : Nat) (x : Int) : fset f i x i = x := by simp [fset]
theorem fset_other (f : Nat → Int) {i j : Nat} (x : Int) (h : j ≠ i) : fset f i x j = f j := by simp [fset, h]
theorem fnL_congr {n : Nat} {f f' : Nat → Int} (h : ∀ i, i < n → f i = f' i) : fnL n f = fnL n f' := by
  unfold fnL; exact List.map_congr_left fun i hi => h i (List.mem_range.1 hi)
theorem fnL_set {n i : Nat} (f : Nat → Int) (x : Int) (h : i < n) : (numsL (fnL n f)).set i (.int .i64 x) = numsL (fnL n (fset f i x)) := by
  refine List.ext_getElem? fun k => ?_
  by_cases hk : k < n
  · by_cases e : i = k
    · subst e
      rw [List.getElem?_set_self (by rw [numsL_len, fnL_len]; exact h), fnL_get _ hk, fset_same]
    · rw [List.getElem?_set_ne e, fnL_get _ hk, fnL_get _ hk, fset_other _ _ (fun h => e h.symm)]
  · rw [List.getElem?_eq_none (by rw [List.length_set, numsL_len, fnL_len]; omega), List.getElem?_eq_none (by rw [numsL_len, fnL_len]; omega)]
theorem fnL_const (n : Nat) (x : Int) : numsL (fnL n (fun _ => x)) = List.replicate n (.int .i64 x) := by
  unfold numsL fnL; rw [List.map_map]
  refine List.ext_getElem? fun k => ?_
  by_cases hk : k < n
  · rw [List.getElem?_map, List.getElem?_range hk, List.getElem?_replicate, if_pos hk]; rfl
  · rw [List.getElem?_eq_none (by simp; omega), List.getElem?_eq_none (by simp; omega)]

/-- a row of numbers of one's own, as long as it has room -/
structure RowI (w : World) (S g n : Nat) (f : Nat → Int) : Prop where
  own : w.ownsRow S 3 1 (.slice (some ⟨g, 0, none⟩) n n) n (numsL (fnL n f))

variable {w w' : World} {S g n : Nat} {f : Nat → Int}
theorem RowI.lt (h : RowI w S g n f) : S ≤ g ∧ g < w.heap.size := own_lt h.own rfl
theorem RowI.get (h : RowI w S g n f) {i : Nat} (hi : i < n) : w.cell? ⟨g, i, none⟩ = some (.int .i64 (f i)) ∧ w.frozen? ⟨g, i, none⟩ = false := by
  obtain ⟨g', c, he, _, _, _, _, hfz, hat⟩ := own_at h.own (by omega)
  cases he
  exact ⟨hat i _ (fnL_get f hi), hfz i⟩
theorem RowI.set (h : RowI w S g n f) {i : Nat} (hi : i < n) (x : Int) : RowI (w.setCell ⟨g, i, none⟩ (.int .i64 x)) S g n (fset f i x) := by
  have h1 := own_set h.own i (.int .i64 x) (by omega)
  rw [fnL_set f x hi] at h1
  exact ⟨h1⟩
theorem RowI.keep (h : RowI w S g n f) (k : w'.heap[g]? = w.heap[g]?) : RowI w' S g n f := ⟨own_same h.own fun g' hg => by
  have : g' = g := by simpa [Value.ownBlock] using hg.symm
  rw [this]; exact k⟩
theorem RowI.off (h : RowI w S g n f) {g' i : Nat} (hg : g' ≠ g) (v : Value) : RowI (w.setCell ⟨g', i, none⟩ v) S g n f := h.keep (Below.heap_setCell _ _ _ _ (fun e => hg e.symm))
theorem RowI.below (h : RowI w S g n f) {B : Nat} (k : Below B w w') (hg : g < B) : RowI w' S g n f := h.keep (k.block g hg)
theorem RowI.base (h : RowI w S g n f) {S' : Nat} (hS : S' ≤ S) : RowI w S' g n f := ⟨own_base' h.own hS⟩
theorem RowI.congr (h : RowI w S g n f) {f' : Nat → Int} (k : ∀ i, i < n → f i = f' i) : RowI w S g n f' := ⟨by rw [← fnL_congr k]; exact h.own⟩
theorem below_set {B : Nat} {a w : World} (h : Below B a w) {g i : Nat} (hg : B ≤ g) (v : Value) : Below B a (w.setCell ⟨g, i, none⟩ v) :=
  h.trans ⟨rfl, rfl, rfl, by simp [World.setCell], fun k hk => Below.heap_setCell _ _ _ _ (by show k ≠ g; omega)⟩
theorem below_keep {B g : Nat} {w w' : World} (k : Below B w w') (hg : g < B) : w'.heap[g]? = w.heap[g]? := k.block g hg

end Go.Proofs.Ytjdedfgdofceeaa
