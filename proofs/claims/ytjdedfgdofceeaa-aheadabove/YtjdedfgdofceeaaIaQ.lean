/-
  Rows of one's own; what a world keeps.
-/
import Derived.Test.YtjdedfgdofceeaaIaP
import Derived.Deep.AppendLies
namespace Go.Proofs.Ytjdedfgdofceeaa
open Go.RowKit
set_option linter.unusedSimpArgs false
set_option linter.unusedVariables false

def numV (n : Int) : Value := .int .i64 n

def strV (s : List UInt8) : Value := .string ⟨s.toArray⟩

def numsL (xs : List Int) : List Value := xs.map numV

def strsL (xs : List (List UInt8)) : List Value := xs.map strV

theorem own_same {w w' : World} {base size n : Nat} {e : TypeId} {v : Value} {xs : List Value} (h : w.ownsRow base e size v n xs) (hb : ∀ g, v.ownBlock = some g → w'.heap[g]? = w.heap[g]?) :
    w'.ownsRow base e size v n xs := by
  refine ⟨h.1, ?_⟩
  rcases h.2 with h2 | ⟨g, cap, cur, hv, hg, hh, r⟩
  · exact Or.inl h2
  · subst hv
    exact Or.inr ⟨g, cap, cur, rfl, hg, by rw [hb g rfl]; exact hh, r⟩

theorem own_slice {w : World} {base size n : Nat} {e : TypeId} {v : Value} {xs : List Value} (h : w.ownsRow base e size v n xs) : ∃ a c, v = .slice a n c := by
  rcases h.2 with ⟨rfl, rfl⟩ | ⟨g, cap, cur, rfl, _⟩
  · exact ⟨_, _, rfl⟩
  · exact ⟨_, _, rfl⟩

theorem own_cap {w : World} {base size n : Nat} {e : TypeId} {a : Option Addr} {c : Nat} {xs : List Value} (h : w.ownsRow base e size (.slice a n c) n xs) : n ≤ c ∧ c ≤ maxLen := by
  rcases h.2 with ⟨h1, rfl⟩ | ⟨g, cap, cur, hv, _, _, h2, h3, _⟩
  · cases h1; exact ⟨Nat.le_refl _, Nat.zero_le _⟩
  · cases hv; exact ⟨h2, h3⟩

theorem own_at {w : World} {base size n : Nat} {e : TypeId} {v : Value} {xs : List Value} (h : w.ownsRow base e size v n xs) (hn : 0 < n) :
    ∃ g cap, v = .slice (some ⟨g, 0, none⟩) n cap ∧ base ≤ g ∧ g < w.heap.size ∧ n ≤ cap ∧ cap ≤ maxLen ∧ (∀ o, w.frozen? ⟨g, o, none⟩ = false) ∧ ∀ j u, xs[j]? = some u → w.cell? ⟨g, j, none⟩ = some u := by
  rcases h.2 with ⟨_, h0⟩ | ⟨g, cap, cur, hv, hb, hg, h2, h3, h4, h5⟩
  · omega
  · subst hv
    have hc := h.cells (g := g) rfl
    refine ⟨g, cap, rfl, hb, lt_of_block hg, h2, h3, fun o => by simp [World.frozen?, hg], fun j u hu => ?_⟩
    have := hc j u hu
    rwa [show (⟨g, 0, none⟩ : Addr).add j = ⟨g, j, none⟩ from by unfold Addr.add; split <;> simp_all] at this

/-- one cell is written -/
theorem own_set {w : World} {base size n g cap : Nat} {e : TypeId} {xs : List Value} (h : w.ownsRow base e size (.slice (some ⟨g, 0, none⟩) n cap) n xs) (j : Nat) (u : Value) (hj : j < n * size) :
    (w.setCell ⟨g, j, none⟩ u).ownsRow base e size (.slice (some ⟨g, 0, none⟩) n cap) n (xs.set j u) := by
  obtain ⟨h1, h2⟩ := h
  refine ⟨by simpa using h1, ?_⟩
  rcases h2 with ⟨h2, _⟩ | ⟨g', cap', cur, hv, hb, hh, hn, hc, hs, ht⟩
  · cases h2
  · cases hv
    refine .inr ⟨g, cap, _, rfl, hb, heap_setCell_same hh u, hn, hc, by simpa using hs, ?_⟩
    rw [Array.toList_setIfInBounds, List.take_set, ht]

/-- a row is cut -/
theorem own_cut {w : World} {base size n k g cap : Nat} {e : TypeId} {xs : List Value} (h : w.ownsRow base e size (.slice (some ⟨g, 0, none⟩) n cap) n xs) (hk : k ≤ n) :
    w.ownsRow base e size (.slice (some ⟨g, 0, none⟩) k cap) k (xs.take (k * size)) := by
  obtain ⟨h1, h2⟩ := h
  have hle : k * size ≤ n * size := Nat.mul_le_mul_right _ hk
  refine ⟨by rw [List.length_take, h1, Nat.min_eq_left hle], ?_⟩
  rcases h2 with ⟨h2, _⟩ | ⟨g', cap', cur, hv, hb, hh, hn, hc, hs, ht⟩
  · cases h2
  · cases hv
    exact .inr ⟨g, cap, cur, rfl, hb, hh, Nat.le_trans hk hn, hc, hs, by rw [← ht, List.take_take, Nat.min_eq_left hle]⟩

theorem numsL_get (xs : List Int) (j : Nat) (x : Int) (h : xs[j]? = some x) : (numsL xs)[j]? = some (numV x) := by simp [numsL, h]

theorem numsL_len (xs : List Int) : (numsL xs).length = xs.length := by simp [numsL]

theorem strsL_len (xs : List (List UInt8)) : (strsL xs).length = xs.length := by simp [strsL]

theorem numsL_set (xs : List Int) (j : Nat) (x : Int) : (numsL xs).set j (numV x) = numsL (xs.set j x) := by simp [numsL, List.map_set]

theorem numsL_take (xs : List Int) (j : Nat) : (numsL xs).take j = numsL (xs.take j) := by simp [numsL, List.map_take]

theorem numsL_append (xs ys : List Int) : numsL xs ++ numsL ys = numsL (xs ++ ys) := by simp [numsL]

theorem strsL_append (xs ys : List (List UInt8)) : strsL xs ++ strsL ys = strsL (xs ++ ys) := by simp [strsL]

theorem nums_one (xs : List Int) : ∀ u ∈ numsL xs, u.oneCell' = true := by
  intro u hu
  obtain ⟨x, _, rfl⟩ := List.mem_map.1 hu
  rfl

/-- what a world keeps: all blocks that are not the machine's -/
structure Fr (w : World) (col : Nat → Nat) (w' : World) (col' : Nat → Nat) : Prop where
  os : w'.os = w.os
  tape : w'.tape = w.tape
  output : w'.output = w.output
  size : w.heap.size ≤ w'.heap.size
  block : ∀ k, k < w.heap.size → col k = 0 → w'.heap[k]? = w.heap[k]? ∧ col' k = 0

theorem Fr.refl (w : World) (col : Nat → Nat) : Fr w col w col := ⟨rfl, rfl, rfl, Nat.le_refl _, fun _ _ h => ⟨rfl, h⟩⟩

theorem Fr.trans {u v w : World} {a b c : Nat → Nat} (h : Fr u a v b) (k : Fr v b w c) : Fr u a w c :=
  ⟨k.os.trans h.os, k.tape.trans h.tape, k.output.trans h.output, Nat.le_trans h.size k.size, fun i hi h0 => by
    have h1 := h.block i hi h0
    have h2 := k.block i (Nat.lt_of_lt_of_le hi h.size) h1.2
    exact ⟨h2.1.trans h1.1, h2.2⟩⟩

/-- nothing old is turned -/
theorem Fr.of_below {w w' : World} (col : Nat → Nat) (h : Below w.heap.size w w') : Fr w col w' col := ⟨h.os, h.tape, h.output, h.size, fun k hk h0 => ⟨h.block k hk, h0⟩⟩

theorem Fr.below {w w' : World} {col col' : Nat → Nat} {B : Nat} (h : Fr w col w' col') (hB : B ≤ w.heap.size) (h0 : ∀ k, k < B → col k = 0) : Below B w w' :=
  ⟨h.os, h.tape, h.output, h.size, fun k hk => (h.block k (by omega) (h0 k hk)).1⟩

end Go.Proofs.Ytjdedfgdofceeaa
