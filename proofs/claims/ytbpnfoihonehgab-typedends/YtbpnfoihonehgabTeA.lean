/-
  A block of statements in memory, and whether it ends.
-/
import Derived.Test.YtbpnfoihonehgabProg
import Derived.WalkKit
import Derived.WalkSpells
import Derived.WalkLawsBesides
import Derived.Deep.LoopGhost
import Derived.Deep.Slices
import Derived.ProofKit
namespace Go.Proofs.Ytbpnfoihonehgab
open Go.RowKit
set_option linter.unusedSimpArgs false
set_option linter.unusedVariables false

def allB (B : Nat → Bool) (n : Nat) : Bool := (List.range n).all B

theorem allB_true {B : Nat → Bool} {n : Nat} (h : ∀ j, j < n → B j = true) : allB B n = true := by
  unfold allB; rw [List.all_eq_true]; intro x hx; exact h x (by simpa using hx)

theorem allB_false {B : Nat → Bool} {n i : Nat} (hi : i < n) (h : B i = false) : allB B n = false := by
  unfold allB; rw [List.all_eq_false]; exact ⟨i, by simpa using hi, by simp [h]⟩

/-- seven cells in a row -/
structure Seven (w : World) (g o : Nat) (v0 v1 v2 v3 v4 v5 v6 : Value) : Prop where
  c0 : w.cell? ⟨g, o, none⟩ = some v0
  c1 : w.cell? ⟨g, o + 1, none⟩ = some v1
  c2 : w.cell? ⟨g, o + 2, none⟩ = some v2
  c3 : w.cell? ⟨g, o + 3, none⟩ = some v3
  c4 : w.cell? ⟨g, o + 4, none⟩ = some v4
  c5 : w.cell? ⟨g, o + 5, none⟩ = some v5
  c6 : w.cell? ⟨g, o + 6, none⟩ = some v6

theorem Seven.lt {w : World} {g o : Nat} {v0 v1 v2 v3 v4 v5 v6 : Value} (h : Seven w g o v0 v1 v2 v3 v4 v5 v6) : g < w.heap.size := World.block_lt_of_cell? w ⟨g, o, none⟩ h.c0

theorem Seven.below {w w' : World} {g o : Nat} {v0 v1 v2 v3 v4 v5 v6 : Value} (h : Seven w g o v0 v1 v2 v3 v4 v5 v6) (k : Below w.heap.size w w') : Seven w' g o v0 v1 v2 v3 v4 v5 v6 := by
  have hl := h.lt
  have e : ∀ j, w'.cell? ⟨g, j, none⟩ = w.cell? ⟨g, j, none⟩ := fun j => k.cell (p := ⟨g, j, none⟩) hl
  exact ⟨by rw [e]; exact h.c0, by rw [e]; exact h.c1, by rw [e]; exact h.c2, by rw [e]; exact h.c3, by rw [e]; exact h.c4, by rw [e]; exact h.c5, by rw [e]; exact h.c6⟩

/-- the cases of a switch: the numbers, the block -/
def CasesAt (P : Value → Bool → Prop) (w : World) (ac : Option Addr) (lc : Nat) (V : Nat → Value) (B : Nat → Bool) : Prop :=
  ∀ i, i < lc → ∃ g o x, ac = some ⟨g, o, none⟩ ∧ w.cell? ⟨g, o + i * 2, none⟩ = some x ∧ w.cell? ⟨g, o + i * 2 + 1, none⟩ = some (V i) ∧ (∃ a l c, V i = .slice a l c) ∧ (∃ a l c, x = .slice a l c) ∧ P (V i) (B i)

/-- how a block lies in memory, at most n deep, and whether it ends -/
def EndsV : Nat → World → Value → Bool → Prop
  | 0, _, _, _ => False
  | n + 1, w, v, b => (∃ a cap, v = .slice a 0 cap ∧ b = false) ∨
    ∃ (g off len cap : Nat) (k : Int) (s t : ByteArray) (ax : Option Addr) (lx cx : Nat) (ab : Option Addr) (lb cb : Nat) (ae : Option Addr) (le ce : Nat) (ac : Option Addr) (lc cc : Nat) (b1 b2 : Bool) (V : Nat → Value) (B : Nat → Bool),
      v = .slice (some ⟨g, off, none⟩) (len + 1) cap ∧ len + 1 ≤ maxLen ∧ lc ≤ maxLen ∧
      Seven w g (off + len * 7) (.int .i64 k) (.string s) (.string t) (.slice ax lx cx) (.slice ab lb cb) (.slice ae le ce) (.slice ac lc cc) ∧
      EndsV n w (.slice ab lb cb) b1 ∧ EndsV n w (.slice ae le ce) b2 ∧ CasesAt (EndsV n w) w ac lc V B ∧
      b = (k == 8 || (k == 4 && (b1 && b2)) || (k == 7 && (allB B lc && b2)))

theorem CasesAt.imp {P Q : Value → Bool → Prop} {w : World} {ac : Option Addr} {lc : Nat} {V : Nat → Value} {B : Nat → Bool} (h : CasesAt P w ac lc V B) (hp : ∀ v b, P v b → Q v b) : CasesAt Q w ac lc V B := by
  intro i hi
  obtain ⟨g, o, x, h1, h2, h3, h4, h5, h6⟩ := h i hi
  exact ⟨g, o, x, h1, h2, h3, h4, h5, hp _ _ h6⟩

theorem CasesAt.below {P Q : Value → Bool → Prop} {w w' : World} {ac : Option Addr} {lc : Nat} {V : Nat → Value} {B : Nat → Bool} (h : CasesAt P w ac lc V B) (k : Below w.heap.size w w') (hp : ∀ v b, P v b → Q v b) : CasesAt Q w' ac lc V B := by
  intro i hi
  obtain ⟨g, o, x, h1, h2, h3, h4, h5, h6⟩ := h i hi
  have hl : g < w.heap.size := World.block_lt_of_cell? w ⟨g, o + i * 2, none⟩ h2
  exact ⟨g, o, x, h1, by rw [k.cell (p := ⟨g, o + i * 2, none⟩) hl]; exact h2, by rw [k.cell (p := ⟨g, o + i * 2 + 1, none⟩) hl]; exact h3, h4, h5, hp _ _ h6⟩

theorem EndsV.below {w w' : World} (k : Below w.heap.size w w') : ∀ (n : Nat) (v : Value) (b : Bool), EndsV n w v b → EndsV n w' v b
  | 0, _, _, h => h.elim
  | n + 1, v, b, .inl h => .inl h
  | n + 1, v, b, .inr ⟨g, off, len, cap, kk, s, t, ax, lx, cx, ab, lb, cb, ae, le, ce, ac, lc, cc, b1, b2, V, B, h1, h2, h3, h4, h5, h6, h7, h8⟩ =>
    .inr ⟨g, off, len, cap, kk, s, t, ax, lx, cx, ab, lb, cb, ae, le, ce, ac, lc, cc, b1, b2, V, B, h1, h2, h3, h4.below k, EndsV.below k n _ _ h5, EndsV.below k n _ _ h6, h7.below k (EndsV.below k n), h8⟩

theorem EndsV.up {w : World} : ∀ (n : Nat) (v : Value) (b : Bool), EndsV n w v b → EndsV (n + 1) w v b
  | 0, _, _, h => h.elim
  | n + 1, v, b, .inl h => .inl h
  | n + 1, v, b, .inr ⟨g, off, len, cap, kk, s, t, ax, lx, cx, ab, lb, cb, ae, le, ce, ac, lc, cc, b1, b2, V, B, h1, h2, h3, h4, h5, h6, h7, h8⟩ =>
    .inr ⟨g, off, len, cap, kk, s, t, ax, lx, cx, ab, lb, cb, ae, le, ce, ac, lc, cc, b1, b2, V, B, h1, h2, h3, h4, EndsV.up n _ _ h5, EndsV.up n _ _ h6, h7.imp (EndsV.up n), h8⟩

theorem EndsV.le {w : World} {n m : Nat} (h : n ≤ m) {v : Value} {b : Bool} (hx : EndsV n w v b) : EndsV m w v b := by
  induction h with
  | refl => exact hx
  | step _ ih => exact EndsV.up _ _ _ ih

theorem below_after {w w1 w2 : World} (h : Below w.heap.size w w1) (k : Below w1.heap.size w1 w2) : Below w.heap.size w w2 :=
  ⟨k.os.trans h.os, k.tape.trans h.tape, k.output.trans h.output, Nat.le_trans h.size k.size, fun i hi => (k.block i (Nat.lt_of_lt_of_le hi h.size)).trans (h.block i hi)⟩

theorem below_alloc (w : World) (o : Obj) : Below w.heap.size w (w.alloc o) := (Below.refl _ _).alloc (Nat.le_refl _) _

theorem cells7 {w : World} {x : Nat} {T : TypeId} {f : Nat × Nat} {c0 c1 c2 c3 c4 c5 c6 : Value} (h : w.heap[x]? = some (.cells #[c0, c1, c2, c3, c4, c5, c6] T f)) :
    w.cell? ⟨x, 0, none⟩ = some c0 ∧ w.cell? ⟨x, 1, none⟩ = some c1 ∧ w.cell? ⟨x, 2, none⟩ = some c2 ∧ w.cell? ⟨x, 3, none⟩ = some c3 ∧ w.cell? ⟨x, 4, none⟩ = some c4 ∧ w.cell? ⟨x, 5, none⟩ = some c5 ∧ w.cell? ⟨x, 6, none⟩ = some c6 := by
  simp [World.cell?, h]

theorem four7 {k : Int} (h : (k == 4) = true) : (k == 7) = false := by
  have : k = 4 := by simpa using h
  subst this; rfl

theorem blk_alloc {w : World} {x : Nat} {o' : Obj} (h : w.heap[x]? = some o') (o : Obj) : (w.alloc o).heap[x]? = some o' := by
  have hx : x < w.heap.size := by
    rcases Nat.lt_or_ge x w.heap.size with hb | hb
    · exact hb
    · rw [Array.getElem?_eq_none hb] at h; cases h
  rw [Below.heap_alloc _ _ _ hx]; exact h

end Go.Proofs.Ytbpnfoihonehgab
