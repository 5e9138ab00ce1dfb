/-
  Blocks laid one behind the other; lists of numbers in them.
-/
import Derived.Test.YtbpnfoihonehgadDoorJaC
namespace Go.Proofs.YtbpnfoihonehgadDoor
open Go.RowKit
set_option linter.unusedSimpArgs false
set_option linter.unusedVariables false

/-- blocks laid one behind the other -/
def allocs : World → List Obj → World
  | w, [] => w
  | w, o :: os => allocs (w.alloc o) os

theorem allocs_size : ∀ (os : List Obj) (w : World), (allocs w os).heap.size = w.heap.size + os.length
  | [], _ => rfl
  | o :: os, w => by rw [allocs, allocs_size os]; simp; omega

theorem allocs_below : ∀ (os : List Obj) (w : World), Below w.heap.size w (allocs w os)
  | [], _ => Below.refl _ _
  | o :: os, w => below_after (below_alloc w o) (allocs_below os _)

theorem allocs_at : ∀ (os : List Obj) (w : World) (i : Nat) (o : Obj), os[i]? = some o → (allocs w os).heap[w.heap.size + i]? = some o
  | [], _, _, _, h => by simp at h
  | o :: os, w, 0, o', h => by
    cases h
    exact ((allocs_below os (w.alloc o)).block _ (by simp)).trans (heap_alloc_new w o)
  | o :: os, w, i + 1, o', h => by
    have := allocs_at os (w.alloc o) i o' (by simpa using h)
    rw [show (w.alloc o).heap.size = w.heap.size + 1 by simp] at this
    rw [allocs, show w.heap.size + (i + 1) = w.heap.size + 1 + i by omega]
    exact this

def mainT : List UInt8 := [109, 97, 105, 110]
def slN : Value := .slice none 0 0

/-! ### how it lies -/
theorem cell_at {w : World} {g o : Nat} {arr : Array Value} {T : TypeId} (h : w.heap[g]? = some (.cells arr T)) : w.cell? ⟨g, o, none⟩ = arr[o]? := by simp [World.cell?, h]

theorem nums_block {w : World} {B g k : Nat} {xs : List Int} {T : TypeId} (h : w.heap[g]? = some (.cells (numsL xs).toArray T)) (hg : g < B) (hl : xs.length ≤ maxLen) (hi : ∀ x ∈ xs, I64 x) : Nums B w (.slice (some ⟨g, 0, none⟩) xs.length k) xs := by
  refine ⟨hl, _, _, rfl, fun _ => ⟨g, 0, rfl, hg, fun i x hx => ⟨[.int .i64 x], rfl, ⟨rfl, hi x (List.mem_of_getElem? hx)⟩, fun j hj => ?_⟩⟩⟩
  have : j = 0 := by omega
  subst this
  rw [cell_at h]
  simp [numsL, numV, hx]

theorem nums_nil (B : Nat) (w : World) : Nums B w slN [] := ⟨Nat.zero_le _, _, _, rfl, fun h => absurd h (by decide)⟩

theorem small_len (n : Nat) (h : n ≤ 100) : n ≤ maxLen := by unfold maxLen; omega

end Go.Proofs.YtbpnfoihonehgadDoor
