/-
  Rows that grow by one element: what stands in memory behind 'append' and the stores of the element's cells. Nothing here names the program.
-/
import Derived.Test.YtgifghcaeoinoaaDoorRdT
namespace Go.Proofs.YtgifghcaeoinoaaDoor
open Go.RowKit
set_option linter.unusedSimpArgs false
set_option linter.unusedVariables false

/-- cells stored one behind the other -/
def setL (w : World) (g : Nat) : Nat → List Value → World
  | _, [] => w
  | o, a :: ys => setL (w.setCell ⟨g, o, none⟩ a) g (o + 1) ys

theorem setL_size (g : Nat) : ∀ (ys : List Value) (o : Nat) (w : World), (setL w g o ys).heap.size = w.heap.size
  | [], _, _ => rfl
  | a :: ys, o, w => by rw [setL, setL_size g ys]; simp [World.setCell]

theorem setL_other (g k : Nat) (hk : k ≠ g) : ∀ (ys : List Value) (o : Nat) (w : World), (setL w g o ys).heap[k]? = w.heap[k]?
  | [], _, _ => rfl
  | a :: ys, o, w => by rw [setL, setL_other g k hk ys]; exact Below.heap_setCell _ _ _ _ hk

theorem setL_os (g : Nat) : ∀ (ys : List Value) (o : Nat) (w : World), (setL w g o ys).os = w.os ∧ (setL w g o ys).tape = w.tape ∧ (setL w g o ys).output = w.output
  | [], _, _ => ⟨rfl, rfl, rfl⟩
  | a :: ys, o, w => by rw [setL]; exact setL_os g ys _ _

theorem setL_same {g : Nat} {T : TypeId} {f : Nat × Nat} : ∀ (ys : List Value) (o : Nat) (w : World) (cur : Array Value), w.heap[g]? = some (.cells cur T f) → o + ys.length ≤ cur.size →
    ∃ cur', (setL w g o ys).heap[g]? = some (.cells cur' T f) ∧ cur'.size = cur.size ∧ cur'.toList = cur.toList.take o ++ ys ++ cur.toList.drop (o + ys.length)
  | [], o, w, cur, h, hs => ⟨cur, h, rfl, by simp⟩
  | a :: ys, o, w, cur, h, hs => by
    have hs' : o + (ys.length + 1) ≤ cur.size := by simpa using hs
    obtain ⟨cur', h1, h2, h3⟩ := setL_same ys (o + 1) (w.setCell ⟨g, o, none⟩ a) (cur.setIfInBounds o a) (heap_setCell_same h a) (by simp; omega)
    refine ⟨cur', h1, by simpa using h2, ?_⟩
    rw [h3]
    have hl : o < cur.toList.length := by simp; omega
    simp only [Array.toList_setIfInBounds, List.length_cons]
    rw [List.take_set, List.drop_set_of_lt (by omega)]
    rw [show o + 1 + ys.length = o + (ys.length + 1) by omega]
    congr 1
    rw [List.take_succ_eq_append_getElem hl, List.set_append_right _ _ (by simp; omega)]
    simp [Nat.min_eq_left (Nat.le_of_lt hl)]
    have : o - min o cur.size = 0 := by omega
    rw [this]; rfl

/-- the last element's cells are written -/
theorem own_setL {w : World} {base n g cap m : Nat} {e : TypeId} {xs zs ys : List Value} (h : w.ownsRow base e m (.slice (some ⟨g, 0, none⟩) (n + 1) cap) (n + 1) (xs ++ zs)) (hz : zs.length = m) (ha : ys.length = m) :
    (setL w g (n * m) ys).ownsRow base e m (.slice (some ⟨g, 0, none⟩) (n + 1) cap) (n + 1) (xs ++ ys) := by
  obtain ⟨h1, h2⟩ := h
  have hx : xs.length = n * m := by
    rw [List.length_append, hz, Nat.add_mul, Nat.one_mul] at h1; omega
  refine ⟨by rw [List.length_append, ha, hx, Nat.add_mul, Nat.one_mul], ?_⟩
  rcases h2 with ⟨h2, _⟩ | ⟨g', cap', cur, hv, hb, hh, hn, hc, hs, ht⟩
  · cases h2
  · cases hv
    have hsz : n * m + ys.length ≤ cur.size := by
      rw [hs, ha, show n * m + m = (n + 1) * m by rw [Nat.add_mul, Nat.one_mul]]
      exact Nat.mul_le_mul_right _ hn
    obtain ⟨cur', h3, h4, h5⟩ := setL_same ys (n * m) w cur hh hsz
    refine .inr ⟨g, cap, cur', rfl, hb, h3, hn, hc, by rw [h4]; exact hs, ?_⟩
    have htx : cur.toList.take (n * m) = xs := by
      have h6 := congrArg (List.take (n * m)) ht
      rw [List.take_take, Nat.min_eq_left (by rw [Nat.add_mul, Nat.one_mul]; omega)] at h6
      rw [h6, List.take_append_of_le_length (by omega), ← hx, List.take_length]
    rw [h5, htx]
    rw [List.take_append_of_le_length (by rw [List.length_append, hx, ha, Nat.add_mul, Nat.one_mul]; exact Nat.le_refl _)]
    rw [List.take_of_length_le (by rw [List.length_append, hx, ha, Nat.add_mul, Nat.one_mul]; exact Nat.le_refl _)]

/-- two blocks of a world are written, nothing else -/
structure Put2 (w W : World) (x g : Nat) : Prop where
  os : W.os = w.os
  tape : W.tape = w.tape
  output : W.output = w.output
  size : W.heap.size = w.heap.size
  block : ∀ k, k ≠ x → k ≠ g → W.heap[k]? = w.heap[k]?

theorem ownsRow_same {w w' : World} {base size n g cap : Nat} {e : TypeId} {xs : List Value} (h : w.ownsRow base e size (.slice (some ⟨g, 0, none⟩) n cap) n xs) (hb : w'.heap[g]? = w.heap[g]?) :
    w'.ownsRow base e size (.slice (some ⟨g, 0, none⟩) n cap) n xs := by
  refine ⟨h.1, ?_⟩
  rcases h.2 with h2 | ⟨g', cap', cur, hv, hg, hh, r⟩
  · exact Or.inl h2
  · cases hv
    exact Or.inr ⟨g, cap, cur, rfl, hg, by rw [hb]; exact hh, r⟩

/-- the element's cells first, then the slice's own cell -/
theorem put_first {w : World} {x g n m cap base : Nat} {e : TypeId} {xs zs ys : List Value} {c : Array Value} {T : TypeId} {f : Nat × Nat} (hne : x ≠ g) (hx : w.heap[x]? = some (.cells c T f))
    (h : w.ownsRow base e m (.slice (some ⟨g, 0, none⟩) (n + 1) cap) (n + 1) (xs ++ zs)) (hz : zs.length = m) (ha : ys.length = m) (o : Nat) (v : Value) :
    let W := (setL w g (n * m) ys).setCell ⟨x, o, none⟩ v
    Put2 w W x g ∧ W.heap[x]? = some (.cells (c.setIfInBounds o v) T f) ∧ W.ownsRow base e m (.slice (some ⟨g, 0, none⟩) (n + 1) cap) (n + 1) (xs ++ ys) := by
  intro W
  have hos := setL_os g ys (n * m) w
  refine ⟨⟨hos.1, hos.2.1, hos.2.2, by simp [W, World.setCell, setL_size], fun k h1 h2 => ?_⟩, ?_, ?_⟩
  · exact (Below.heap_setCell _ _ _ _ h1).trans (setL_other g k h2 ys _ w)
  · exact heap_setCell_same ((setL_other g x hne ys _ w).trans hx) v
  · exact ownsRow_same (own_setL h hz ha) (Below.heap_setCell _ _ _ _ (fun e => hne e.symm))

/-- the slice's own cell first, then the element's -/
theorem put_last {w : World} {x g n m cap base : Nat} {e : TypeId} {xs zs ys : List Value} {c : Array Value} {T : TypeId} {f : Nat × Nat} (hne : x ≠ g) (hx : w.heap[x]? = some (.cells c T f))
    (h : w.ownsRow base e m (.slice (some ⟨g, 0, none⟩) (n + 1) cap) (n + 1) (xs ++ zs)) (hz : zs.length = m) (ha : ys.length = m) (o : Nat) (v : Value) :
    let W := setL (w.setCell ⟨x, o, none⟩ v) g (n * m) ys
    Put2 w W x g ∧ W.heap[x]? = some (.cells (c.setIfInBounds o v) T f) ∧ W.ownsRow base e m (.slice (some ⟨g, 0, none⟩) (n + 1) cap) (n + 1) (xs ++ ys) := by
  intro W
  have hos := setL_os g ys (n * m) (w.setCell ⟨x, o, none⟩ v)
  refine ⟨⟨hos.1, hos.2.1, hos.2.2, by simp [W, World.setCell, setL_size], fun k h1 h2 => ?_⟩, ?_, ?_⟩
  · exact (setL_other g k h2 ys _ _).trans (Below.heap_setCell _ _ _ _ h1)
  · exact (setL_other g x hne ys _ _).trans (heap_setCell_same hx v)
  · exact own_setL (ownsRow_same h (Below.heap_setCell _ _ _ _ (fun e => hne e.symm))) hz ha

end Go.Proofs.YtgifghcaeoinoaaDoor
