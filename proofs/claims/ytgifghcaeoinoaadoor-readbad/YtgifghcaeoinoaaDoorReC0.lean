/-
  Statements that are what a call left: PostS.sh, PostS.fwd.
-/
import Derived.Test.YtgifghcaeoinoaaDoorReA
namespace Go.Proofs.YtgifghcaeoinoaaDoor
open Go.RowKit
set_option linter.unusedSimpArgs false
set_option linter.unusedVariables false

def SaidF (F : Nat) (ps : List Tok) (M : Nat → Nat → R St) : Prop :=
  ∀ (w : World) (b bp cap T : Nat) (q : RS) (r : Sum (Int × Int) (St × Nat)), Rdr w b bp cap T ps q → M q.depth q.next = some r →
    Calls Tryd.prog F #[.pointer (some ⟨b, 0, none⟩)] w (PostS b bp cap T ps q w r)

theorem PostS.sh {b bp cap T : Nat} {ps : List Tok} {q : RS} {w w' : World} {r : Sum (Int × Int) (St × Nat)} {e : Ending} (h : PostS b bp cap T ps q w r e w') :
    Kept b w w' ∧ ∃ k s t a1 l1 c1 a2 l2 c2 a3 l3 c3 a4 l4 c4 ok, e = .returned (.tuple #[.agg #[.int .i64 k, .string s, .string t, .slice a1 l1 c1, .slice a2 l2 c2, .slice a3 l3 c3, .slice a4 l4 c4], .bool ok]) := by
  obtain ⟨hk, h⟩ := h
  refine ⟨hk, ?_⟩
  rcases r with k | x
  · obtain ⟨v, n', ⟨k, s, t, a1, l1, c1, a2, l2, c2, a3, l3, c3, a4, l4, c4, rfl⟩, rfl, _⟩ := h
    exact ⟨k, s, t, a1, l1, c1, a2, l2, c2, a3, l3, c3, a4, l4, c4, _, rfl⟩
  · obtain ⟨v, rfl, hA, _⟩ := h
    obtain ⟨k, s, t, a1, l1, c1, a2, l2, c2, a3, l3, c3, a4, l4, c4, rfl⟩ := hA.sh
    exact ⟨k, s, t, a1, l1, c1, a2, l2, c2, a3, l3, c3, a4, l4, c4, _, rfl⟩

/-- what a call left is what the caller leaves, if the caller writes to its own block x alone -/
theorem PostS.fwd {b bp cap T : Nat} {ps : List Tok} {q : RS} {w w1 w2 W : World} {r : Sum (Int × Int) (St × Nat)} {e : Ending} {x n : Nat} (h : Rdr w b bp cap T ps q) (kw : Kept b w w1) (hx : w.heap.size ≤ x) (hx1 : x < w1.heap.size)
    (hP : PostS b bp cap T ps { q with next := n } w1 r e w2) (kx : Kept x w2 W) : PostS b bp cap T ps q w r e W := by
  have h1 := h.bsize; have h2 := h.lt; have h3 := h.far
  obtain ⟨hk, hP⟩ := hP
  refine ⟨(kw.trans hk).own kx hx, ?_⟩
  rcases r with k | y
  · obtain ⟨v, n', hv, he, hR⟩ := hP
    exact ⟨v, n', hv, he, hR.own kx (by omega) (by omega) (by omega)⟩
  · obtain ⟨v, he, hA, hR⟩ := hP
    exact ⟨v, he, hA.own kx fun g hg => ⟨by omega, by have := kw.size; omega⟩, hR.own kx (by omega) (by omega) (by omega)⟩

end Go.Proofs.YtgifghcaeoinoaaDoor
