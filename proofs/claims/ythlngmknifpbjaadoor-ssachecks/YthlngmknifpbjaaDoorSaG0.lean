/-
  What is read is not longer than memory: the blocks of code.
-/
import Derived.Test.YthlngmknifpbjaaDoorJIaQ
import Derived.SizedLaws
namespace Go.Proofs.YthlngmknifpbjaaDoor
open Go.RowKit
set_option linter.unusedSimpArgs false
set_option linter.unusedVariables false

variable {H : Type} {enc : TypeId × Value → H} {W : World} {base : Nat} {spare : Nat → Bool} {held : Bool}

theorem bytes_blk : Tryd.prog.bytesOf 32 = 24 := by kernel_rfl

set_option maxRecDepth 20000 in
theorem cod_sized {fuel : Nat} {cs : List Value} {x : DataW H × List MemPlace} {c : Cod} (h : DataW.trod enc Tryd.prog W base spare held fuel 28 cs = some x) (hc : IsCod W.heap.size W cs c)
    (hz : ∀ n ∈ x.1.weights Tryd.prog 28, n ≤ reachBytes) : c.blocks.length * 24 ≤ 140737488351232 := by
  obtain ⟨xs, n, rfl, rfl, hlen, hxs, hel⟩ := DataW.trod_struct Tryd.underlying28 h
  obtain ⟨vb, rfl, hb, _⟩ := hc
  have h5 : DataW.trod enc Tryd.prog W base spare held n 26 (([Value.string ⟨c.name.toArray⟩, .int .i64 c.params, .int .i64 c.results, .int .i64 c.vars, .int .i64 c.slots, vb].drop 5).take (Tryd.prog.cellsOf 26)) = xs[5]? := hel 5 _ rfl
  rw [cells_blks] at h5
  obtain ⟨y5, e5⟩ := get_some (i := 5) hxs (by decide)
  rw [e5] at h5
  simp at h5
  obtain ⟨a3, k3, rfl⟩ := Lies.slice hb
  rcases DataW.trod_slice Tryd.underlying26 h5 with ⟨h6, _⟩ | ⟨a, len, cap, elems, rest, m, rfl, h6, hy, _, _, _, hlen2, _⟩
  · injection h6 with h6 _
    injection h6 with _ h6 _
    omega
  · injection h6 with h6 _
    injection h6 with _ h6 _
    have h7 : (xs.map (·.1))[5]? = some (DataW.slice (elems.map (·.1)) (rest.map (·.1))) := by rw [List.getElem?_map, e5, hy]; rfl
    have h8 := hz ((elems.length + rest.length) * 24) (by
      simp only [DataW.weights, Tryd.underlying28]
      refine DataW.weights_mem_each (j := 5) (t := 26) (by rfl) h7 _ ?_
      simp only [DataW.weights, Tryd.underlying26, bytes_blk]
      simp)
    have : reachBytes = 140737488351232 := by decide
    rw [this] at h8
    have : (elems.length + rest.length) * 24 = elems.length * 24 + rest.length * 24 := by omega
    omega

end Go.Proofs.YthlngmknifpbjaaDoor
