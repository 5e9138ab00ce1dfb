/-
  Two lists of lists of numbers are one: how the statement looks; the last one of a list.
-/
import Derived.Test.YthlngmknifpbjaaDoorJIaQ
import Derived.OwnWalk
import Derived.SizedLaws
import Derived.RegionTactic
import Derived.Deep.RegionWith
import Derived.Deep.QuietTactic
import Derived.BigQuiet
namespace Go.Proofs.YthlngmknifpbjaaDoor
section
open Go.RowKit
set_option linter.unusedSimpArgs false
set_option linter.unusedVariables false

def IsRow (B : Nat) (w : World) (cs : List Value) (x : List Int) : Prop := ∃ u, cs = [u] ∧ Nums B w u x
/-- lists of lists of numbers, to be read -/
def Rws (B : Nat) (w : World) (v : Value) (xs : List (List Int)) : Prop := Lies 1 B w (IsRow B w) v xs

theorem IsRow.below {B : Nat} {w w' : World} {cs : List Value} {x : List Int} (h : IsRow B w cs x) (k : Below B w w') : IsRow B w' cs x := by
  obtain ⟨u, h1, h2⟩ := h
  exact ⟨u, h1, h2.below k⟩
theorem Rws.below {B : Nat} {w w' : World} {v : Value} {xs : List (List Int)} (h : Rws B w v xs) (k : Below B w w') : Rws B w' v xs := Lies.below h k fun _ _ h => IsRow.below h k
theorem Nums.up {B B' : Nat} {w : World} {v : Value} {xs : List Int} (h : Nums B w v xs) (k : B ≤ B') : Nums B' w v xs := Lies.up h k fun _ _ h => h
theorem Rws.up {B B' : Nat} {w : World} {v : Value} {xs : List (List Int)} (h : Rws B w v xs) (k : B ≤ B') : Rws B' w v xs := Lies.up h k fun cs x ⟨u, h1, h2⟩ => ⟨u, h1, Nums.up h2 k⟩

theorem infoParts {e : TypeId} {z : Value} {s b : Nat} (h : (Tryd.prog.info? e).map (fun i => (i.zero, i.size, i.bytes)) = some (some z, s, b)) : ∃ i, Tryd.prog.info? e = some i ∧ i.zero = some z ∧ i.size = s ∧ i.bytes = b := by
  cases hi : Tryd.prog.info? e with
  | none => rw [hi] at h; cases h
  | some i =>
    rw [hi] at h
    simp only [Option.map_some, Option.some.injEq, Prod.mk.injEq] at h
    exact ⟨i, rfl, h.1, h.2.1, h.2.2⟩
theorem infoInt : (Tryd.prog.info? 3).map (fun i => (i.zero, i.size, i.bytes)) = some (some (.int .i64 0), 1, 8) := by kernel_rfl
theorem infoInts : (Tryd.prog.info? 23).map (fun i => (i.zero, i.size, i.bytes)) = some (some (.slice none 0 0), 1, 24) := by kernel_rfl

/-- lists that a function makes: n of them, list i is f i -/
structure Grid (w : World) (B n : Nat) (v : Value) (vs : List Value) (f : Nat → List Int) : Prop where
  row : w.ownsRow B 23 1 v n vs
  each : ∀ (i : Nat) (u : Value), i < n → vs[i]? = some u → w.ownsRow B 3 1 u (f i).length (numsL (f i))
  apart : ∀ (i j : Nat) (u u' : Value) (k : Nat), vs[i]? = some u → vs[j]? = some u' → u.ownBlock = some k → u'.ownBlock = some k → i = j
  away : ∀ (i : Nat) (u : Value) (k : Nat), vs[i]? = some u → u.ownBlock = some k → v.ownBlock ≠ some k

theorem own_lt {w : World} {base size n : Nat} {e : TypeId} {v : Value} {xs : List Value} (h : w.ownsRow base e size v n xs) {g : Nat} (hg : v.ownBlock = some g) : base ≤ g ∧ g < w.heap.size := by
  rcases h.2 with ⟨h1, _⟩ | ⟨g', cap, cur, hv, hb, hh, _⟩
  · subst h1; cases hg
  · subst hv
    have : g' = g := by simpa [Value.ownBlock] using hg
    subst this
    exact ⟨hb, lt_of_block hh⟩

theorem Grid.len {w : World} {B n : Nat} {v : Value} {vs : List Value} {f : Nat → List Int} (h : Grid w B n v vs f) : vs.length = n := by have := h.row.1; omega

theorem Grid.at {w : World} {B n : Nat} {v : Value} {vs : List Value} {f : Nat → List Int} (h : Grid w B n v vs f) {i : Nat} (hi : i < n) :
    ∃ g c u a k, v = .slice (some ⟨g, 0, none⟩) n c ∧ B ≤ g ∧ g < w.heap.size ∧ vs[i]? = some u ∧ u = .slice a (f i).length k ∧ w.cell? ⟨g, i, none⟩ = some u ∧ w.frozen? ⟨g, i, none⟩ = false := by
  obtain ⟨g, c, hv, h1, h2, _, _, h3, h4⟩ := own_at h.row (by omega)
  obtain ⟨u, hu⟩ : ∃ u, vs[i]? = some u := ⟨_, List.getElem?_eq_getElem (by rw [h.len]; exact hi)⟩
  obtain ⟨a, k, hs⟩ := own_slice (h.each i u hi hu)
  exact ⟨g, c, u, a, k, hv, h1, h2, hu, hs, h4 _ _ hu, h3 _⟩

theorem Grid.keep {w w' : World} {B n : Nat} {v : Value} {vs : List Value} {f : Nat → List Int} (h : Grid w B n v vs f) (k : Below w.heap.size w w') : Grid w' B n v vs f :=
  ⟨own_same h.row fun g hg => k.block g (own_lt h.row hg).2, fun i u hi hu => own_same (h.each i u hi hu) fun g hg => k.block g (own_lt (h.each i u hi hu) hg).2, h.apart, h.away⟩

theorem Grid.made {w : World} {B n : Nat} {v : Value} (h : w.ownsRow B 23 1 v n (madeCells (Value.slice none 0 0).cells (n * 1)).toList) : Grid w B n v (List.replicate n (.slice none 0 0)) (fun _ => []) := by
  have h1 : (madeCells (Value.slice none 0 0).cells (n * 1)).toList = List.replicate n (.slice none 0 0) := by rw [Nat.mul_one]; exact toList_madeCells_one _ _
  rw [h1] at h
  have hz : ∀ (i : Nat) (u : Value), (List.replicate n (Value.slice none 0 0))[i]? = some u → u = .slice none 0 0 := fun i u hu => by
    rw [List.getElem?_replicate] at hu
    split at hu
    · exact (Option.some.inj hu).symm
    · cases hu
  exact ⟨h, fun i u hi hu => by rw [hz i u hu]; exact World.ownsRow_nil _ _ _ _, fun i j u u' k hu _ hk _ => by (rw [hz i u hu] at hk; cases hk), fun i u k hu hk => by (rw [hz i u hu] at hk; cases hk)⟩

/-- list i of f is another one -/
def upd (f : Nat → List Int) (i : Nat) (x : List Int) : Nat → List Int := fun j => if j = i then x else f j
theorem upd_same (f : Nat → List Int) (i : Nat) (x : List Int) : upd f i x i = x := by simp [upd]
theorem upd_other (f : Nat → List Int) {i j : Nat} (x : List Int) (h : j ≠ i) : upd f i x j = f j := by simp [upd, h]

/-- a number comes to list i -/
theorem Grid.push {w w1 : World} {B n i gB c : Nat} {vs : List Value} {f : Nat → List Int} {u u' : Value} {x : Int} (h : Grid w B n (.slice (some ⟨gB, 0, none⟩) n c) vs f) (hi : i < n) (hu : vs[i]? = some u)
    (hg : w.grownBy w1 u.ownBlock) (hat : u'.ownBlock = u.ownBlock ∨ u'.ownBlock = some w.heap.size) (ho : w1.ownsRow B 3 1 u' ((f i).length + 1) (numsL (f i) ++ [numV x])) :
    Grid (w1.setCell ⟨gB, i, none⟩ u') B n (.slice (some ⟨gB, 0, none⟩) n c) (vs.set i u') (upd f i (f i ++ [x])) ∧ ∀ N, N ≤ B → N ≤ w.heap.size → Below N w (w1.setCell ⟨gB, i, none⟩ u') := by
  have hgB := own_lt h.row (g := gB) rfl
  have hk : ∀ k, k ≠ gB → (w1.setCell ⟨gB, i, none⟩ u').heap[k]? = w1.heap[k]? := fun k hk => Below.heap_setCell _ _ _ _ hk
  have hub : ∀ k, u.ownBlock = some k → B ≤ k ∧ k < w.heap.size := fun k hk => own_lt (h.each i u hi hu) hk
  have hub' : ∀ k, u'.ownBlock = some k → u.ownBlock = some k ∨ k = w.heap.size := fun k hk => by
    rcases hat with e | e
    · left; rw [← e]; exact hk
    · right; rw [e] at hk; injection hk with hk; exact hk.symm
  have hil : i < vs.length := by rw [h.len]; exact hi
  refine ⟨⟨?_, fun j y hj hy => ?_, fun j l y y' k hy hy' e e' => ?_, fun j y k hy e => ?_⟩, fun N hN hN2 => ?_⟩
  · have h1 : w1.ownsRow B 23 1 (.slice (some ⟨gB, 0, none⟩) n c) n vs := own_same h.row fun g hgg => by
      have : gB = g := by simpa [Value.ownBlock] using hgg
      subst this
      exact hg.block gB hgB.2 fun e => h.away i u gB hu e.symm rfl
    exact own_set h1 i u' (by omega)
  · by_cases hji : j = i
    · subst hji
      rw [List.getElem?_set_self hil] at hy
      cases hy
      rw [upd_same, List.length_append, ← numsL_append]
      refine own_same ho fun g hgg => hk g fun e => ?_
      subst e
      rcases hub' g hgg with e | e
      · exact h.away _ u g hu e rfl
      · have := hgB.2; omega
    · rw [List.getElem?_set_ne (fun e => hji e.symm)] at hy
      rw [upd_other _ _ hji]
      have h1 := h.each j y hj hy
      refine own_same h1 fun g hgg => ?_
      rw [hk g fun e => h.away j y g hy hgg (by rw [e]; rfl)]
      exact hg.block g (own_lt h1 hgg).2 fun e => hji (h.apart j i y u g hy hu hgg e.symm)
  · by_cases hji : j = i <;> by_cases hli : l = i
    · rw [hji, hli]
    · subst hji
      rw [List.getElem?_set_self hil] at hy
      rw [List.getElem?_set_ne (fun e => hli e.symm)] at hy'
      cases hy
      rcases hub' k e with e2 | e2
      · exact absurd (h.apart l j y' u k hy' hu e' e2) hli
      · have hl : l < n := by have := (List.getElem?_eq_some_iff.1 hy').1; rw [h.len] at this; exact this
        have := (own_lt (h.each l y' hl hy') e').2; omega
    · subst hli
      rw [List.getElem?_set_self hil] at hy'
      rw [List.getElem?_set_ne (fun e => hji e.symm)] at hy
      cases hy'
      rcases hub' k e' with e2 | e2
      · exact absurd (h.apart j l y u k hy hu e e2) hji
      · have hl : j < n := by have := (List.getElem?_eq_some_iff.1 hy).1; rw [h.len] at this; exact this
        have := (own_lt (h.each j y hl hy) e).2; omega
    · rw [List.getElem?_set_ne (fun e => hji e.symm)] at hy
      rw [List.getElem?_set_ne (fun e => hli e.symm)] at hy'
      exact h.apart j l y y' k hy hy' e e'
  · by_cases hji : j = i
    · subst hji
      rw [List.getElem?_set_self hil] at hy
      cases hy
      rcases hub' k e with e2 | e2
      · exact h.away _ u k hu e2
      · intro e3
        have : gB = k := by simpa [Value.ownBlock] using e3
        have := hgB.2; omega
    · rw [List.getElem?_set_ne (fun e => hji e.symm)] at hy
      exact h.away j y k hy e
  · refine ⟨hg.os, hg.tape, hg.output, by have := hg.size; simpa [World.setCell] using this, fun k hkN => ?_⟩
    rw [hk k (by have := hgB.1; omega)]
    exact hg.block k (by omega) fun e => by have := (hub k e.symm).1; omega

theorem nums_of_own {w : World} {B : Nat} {u : Value} {x : List Int} (h : w.ownsRow B 3 1 u x.length (numsL x)) (hx : ∀ y ∈ x, I64 y) : Nums w.heap.size w u x := by
  obtain ⟨a, c, rfl⟩ := own_slice h
  have hc := own_cap h
  refine ⟨by omega, a, c, rfl, fun h0 => ?_⟩
  obtain ⟨g, cap, he, _, hg, _, _, _, hat⟩ := own_at h h0
  cases he
  refine ⟨g, 0, rfl, hg, fun i y hy => ⟨[.int .i64 y], rfl, ⟨rfl, hx y (List.mem_of_getElem? hy)⟩, fun j hj => ?_⟩⟩
  have hj0 : j = 0 := by omega
  subst hj0
  have := hat i _ (numsL_get x i y hy)
  simpa [numV] using this

/-- what was made can be read -/
theorem Grid.rws {w : World} {B n : Nat} {v : Value} {vs : List Value} {f : Nat → List Int} (h : Grid w B n v vs f) (hx : ∀ i, i < n → ∀ y ∈ f i, I64 y) : Rws w.heap.size w v ((List.range n).map f) := by
  obtain ⟨a, c, rfl⟩ := own_slice h.row
  have hc := own_cap h.row
  refine ⟨by simp; omega, a, c, by simp, fun h0 => ?_⟩
  have hn : 0 < n := by simpa using h0
  obtain ⟨g, cap, he, _, hg, _, _, _, hat⟩ := own_at h.row hn
  cases he
  refine ⟨g, 0, rfl, hg, fun i y hy => ?_⟩
  have hi : i < n := by
    have := (List.getElem?_eq_some_iff.1 hy).1
    simpa using this
  have hy' : y = f i := by
    rw [List.getElem?_map, List.getElem?_range hi] at hy
    exact (Option.some.inj hy).symm
  subst hy'
  obtain ⟨u, hu⟩ : ∃ u, vs[i]? = some u := ⟨_, List.getElem?_eq_getElem (by rw [h.len]; exact hi)⟩
  refine ⟨[u], rfl, ⟨u, rfl, nums_of_own (h.each i u hi hu) (hx i hi)⟩, fun j hj => ?_⟩
  have hj0 : j = 0 := by omega
  subst hj0
  have := hat i u hu
  simpa using this
end

section
open Go.RowKit
set_option linter.unusedSimpArgs false
set_option linter.unusedVariables false

theorem below_drewN {B : Nat} {a w : World} (h : Below B a w) (n : Nat) : Below B a (w.drewN n) := ⟨h.os, h.tape, h.output, h.size, h.block⟩
end

end Go.Proofs.YthlngmknifpbjaaDoor
