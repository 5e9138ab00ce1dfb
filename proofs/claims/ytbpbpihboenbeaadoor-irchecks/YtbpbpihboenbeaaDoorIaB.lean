/-
  Whatever reads as a program lies in memory so.
-/
import Derived.Test.YtbpbpihboenbeaaDoorIaB1
namespace Go.Proofs.YtbpbpihboenbeaaDoor
open Go.RowKit
set_option linter.unusedSimpArgs false
set_option linter.unusedVariables false

variable {H : Type} {enc : TypeId × Value → H} {W : World} {base : Nat} {spare : Nat → Bool} {held : Bool}

theorem cells_cods : Tryd.prog.cellsOf 22 = 1 := by kernel_rfl
theorem cells_prg : Tryd.prog.cellsOf 25 = 2 := by kernel_rfl

theorem cods_of_trod {fuel : Nat} {cs : List Value} {x : DataW H × List MemPlace} (h : DataW.trod enc Tryd.prog W base spare held fuel 22 cs = some x) : ∃ v b, cs = [v] ∧ Cods W.heap.size W v b :=
  lies_of_trod Tryd.underlying22 cells_cod (by decide) (fun n cs y _ hy => cod_of_trod hy) h

set_option maxRecDepth 20000 in
theorem prg_of_trod {fuel : Nat} {cs : List Value} {x : DataW H × List MemPlace} (h : DataW.trod enc Tryd.prog W base spare held fuel 25 cs = some x) : ∃ vf vd fs data, cs = [vf, vd] ∧ Cods W.heap.size W vf fs ∧ Nums W.heap.size W vd data := by
  obtain ⟨xs, n, rfl, rfl, hlen, hxs, hel⟩ := DataW.trod_struct Tryd.underlying25 h
  rw [cells_prg] at hlen
  match cs, hlen with
  | [v0, v1], _ =>
    have h0 : DataW.trod enc Tryd.prog W base spare held n 22 (([v0, v1].drop 0).take (Tryd.prog.cellsOf 22)) = xs[0]? := hel 0 _ rfl
    have h1 : DataW.trod enc Tryd.prog W base spare held n 23 (([v0, v1].drop 1).take (Tryd.prog.cellsOf 23)) = xs[1]? := hel 1 _ rfl
    rw [cells_cods] at h0
    rw [cells_ints] at h1
    obtain ⟨y0, e0⟩ := get_some (i := 0) hxs (by decide)
    obtain ⟨y1, e1⟩ := get_some (i := 1) hxs (by decide)
    rw [e0] at h0; rw [e1] at h1
    simp at h0 h1
    obtain ⟨vf, fs, r0, hf⟩ := cods_of_trod h0
    obtain ⟨vd, ds, r1, hd⟩ := nums_of_trod h1
    cases r0; cases r1
    exact ⟨_, _, fs, ds, rfl, hf, hd⟩

end Go.Proofs.YtbpbpihboenbeaaDoor
