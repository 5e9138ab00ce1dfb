/-
  The table of package ir lies as the rows list it.
-/
import Derived.Test.YthlngmknifpbjaaDoorJIaQ
import Derived.Test.YthlngmknifpbjaaDoorRows
import Derived.Test.YthlngmknifpbjaaDoorJSoR
import Derived.Test.YthlngmknifpbjaaDoorTie
import Derived.Test.YthlngmknifpbjaaDoorCards
import Derived.ProofKit
import Derived.LaidMore
import Derived.OpenShut
import Derived.Stop.Joined
import Derived.SevenTiedAt
namespace Go.Proofs.YthlngmknifpbjaaDoor
section
open Go.RowKit
set_option linter.unusedSimpArgs false
set_option linter.unusedVariables false

variable {H : Type} {enc : TypeId × Value → H} {W : World} {base : Nat} {spare : Nat → Bool} {held : Bool}

theorem cells_cods : Tryd.prog.cellsOf 22 = 1 := by kernel_rfl
theorem cells_prg : Tryd.prog.cellsOf 25 = 2 := by kernel_rfl

theorem cods_of_trod {fuel : Nat} {cs : List Value} {x : DataW H × List MemPlace} (h : DataW.trod enc Tryd.prog W base spare held fuel 22 cs = some x) : ∃ v b, cs = [v] ∧ Cods W.heap.size W v b :=
  lies_of_trod Tryd.underlying22 cells_cod (by decide) (fun n cs y _ hy => cod_of_trod hy) h

set_option maxRecDepth 20000 in
theorem prg_of_trod {fuel : Nat} {cs : List Value} {x : DataW H × List MemPlace} (h : DataW.trod enc Tryd.prog W base spare held fuel 25 cs = some x) : ∃ vf vd fs data, cs = [vf, vd] ∧ Cods W.heap.size W vf fs ∧ Nums W.heap.size W vd data := by
  obtain ⟨xs, n, rfl, rfl, hlen, hxs, hel⟩ := DataW.trod_struct Tryd.underlying25 h
  rw [cells_prg] at hlen
  match cs, hlen with
  | [v0, v1], _ =>
    have h0 : DataW.trod enc Tryd.prog W base spare held n 22 (([v0, v1].drop 0).take (Tryd.prog.cellsOf 22)) = xs[0]? := hel 0 _ rfl
    have h1 : DataW.trod enc Tryd.prog W base spare held n 23 (([v0, v1].drop 1).take (Tryd.prog.cellsOf 23)) = xs[1]? := hel 1 _ rfl
    rw [cells_cods] at h0
    rw [cells_ints] at h1
    obtain ⟨y0, e0⟩ := get_some (i := 0) hxs (by decide)
    obtain ⟨y1, e1⟩ := get_some (i := 1) hxs (by decide)
    rw [e0] at h0; rw [e1] at h1
    simp at h0 h1
    obtain ⟨vf, fs, r0, hf⟩ := cods_of_trod h0
    obtain ⟨vd, ds, r1, hd⟩ := nums_of_trod h1
    cases r0; cases r1
    exact ⟨_, _, fs, ds, rfl, hf, hd⟩
end

section
open Go.ChangeShapes Go.WideShapes Go.ChangeAt Go.WideElems Go.RowKit
set_option linter.unusedSimpArgs false
set_option linter.unusedVariables false

theorem own : ownKnob Tryd.prog.godebug = none := by kernel_rfl
theorem laidOut : laidOutB Tryd.prog = true := by kernel_rfl
theorem tCt : (Tryd.prog.globals[0]?).map (·.type) = some 74 := by kernel_rfl

def cntD {H : Type} (x : Int × Int × Int) : DataW H := .agg [.lit (.int .i64 x.1), .lit (.int .i64 x.2.1), .lit (.int .i64 x.2.2)]

theorem lit_int {H : Type} {enc : TypeId × Value → H} {W : World} {base fuel : Nat} {spare : Nat → Bool} {held : Bool} {cs : List Value} {y : DataW H × List MemPlace} {x : Int} (h : DataW.trod enc Tryd.prog W base spare held fuel 3 cs = some y) (hy : y.1 = .lit (.int .i64 x)) : cs = [.int .i64 x] := by
  obtain ⟨s, e1, e2, _⟩ := DataW.trod_int Tryd.underlying3 h
  rw [e2] at hy
  have := DataW.lit.inj hy
  injection this with _ h2
  rw [e1, h2]

set_option maxRecDepth 20000 in
theorem cnt_open {H : Type} {enc : TypeId × Value → H} {W : World} {base fuel : Nat} {spare : Nat → Bool} {held : Bool} {cs : List Value} {y : DataW H × List MemPlace} {x : Int × Int × Int} (h : DataW.trod enc Tryd.prog W base spare held fuel 73 cs = some y) (hy : y.1 = cntD x) : cs = [.int .i64 x.1, .int .i64 x.2.1, .int .i64 x.2.2] := by
  have c3 : Tryd.prog.cellsOf 73 = 3 := by kernel_rfl
  obtain ⟨xs, n, rfl, rfl, hlen, hxs, hel⟩ := DataW.trod_struct Tryd.underlying73 h
  rw [c3] at hlen
  match cs, hlen with
  | [v0, v1, v2], _ =>
    have h0 : DataW.trod enc Tryd.prog W base spare held n 3 (([v0, v1, v2].drop 0).take (Tryd.prog.cellsOf 3)) = xs[0]? := hel 0 _ rfl
    have h1 : DataW.trod enc Tryd.prog W base spare held n 3 (([v0, v1, v2].drop 1).take (Tryd.prog.cellsOf 3)) = xs[1]? := hel 1 _ rfl
    have h2 : DataW.trod enc Tryd.prog W base spare held n 3 (([v0, v1, v2].drop 2).take (Tryd.prog.cellsOf 3)) = xs[2]? := hel 2 _ rfl
    rw [cells_int] at h0 h1 h2
    obtain ⟨y0, e0⟩ := get_some (i := 0) hxs (by decide)
    obtain ⟨y1, e1⟩ := get_some (i := 1) hxs (by decide)
    obtain ⟨y2, e2⟩ := get_some (i := 2) hxs (by decide)
    have hm : xs.map (·.1) = [.lit (.int .i64 x.1), .lit (.int .i64 x.2.1), .lit (.int .i64 x.2.2)] := DataW.agg.inj hy
    have g0 : y0.1 = .lit (.int .i64 x.1) := by
      have : (xs.map (·.1))[0]? = some (.lit (.int .i64 x.1)) := by rw [hm]; rfl
      rw [List.getElem?_map, e0] at this
      exact Option.some.inj this
    have g1 : y1.1 = .lit (.int .i64 x.2.1) := by
      have : (xs.map (·.1))[1]? = some (.lit (.int .i64 x.2.1)) := by rw [hm]; rfl
      rw [List.getElem?_map, e1] at this
      exact Option.some.inj this
    have g2 : y2.1 = .lit (.int .i64 x.2.2) := by
      have : (xs.map (·.1))[2]? = some (.lit (.int .i64 x.2.2)) := by rw [hm]; rfl
      rw [List.getElem?_map, e2] at this
      exact Option.some.inj this
    rw [e0] at h0
    rw [e1] at h1
    rw [e2] at h2
    have r0 := lit_int h0 g0
    have r1 := lit_int h1 g1
    have r2 := lit_int h2 g2
    simp at r0 r1 r2
    rw [r0, r1, r2]

theorem arr_counts {H : Type} {enc : TypeId × Value → H} {W : World} {base fuel : Nat} {spare : Nat → Bool} {held : Bool} {cs : List Value} {p : List MemPlace}
    (h : DataW.trod enc Tryd.prog W base spare held fuel 74 cs = some (.agg (ctL.map cntD), p)) : ∀ i, i < 14 → cs[i * 3]? = some (.int .i64 (ct1 i)) ∧ cs[i * 3 + 1]? = some (.int .i64 (ct2 i)) ∧ cs[i * 3 + 2]? = some (.int .i64 (ct3 i)) := by
  have c3 : Tryd.prog.cellsOf 73 = 3 := by kernel_rfl
  obtain ⟨xs, m, rfl, hx, hlen, hn, hel⟩ := DataW.trod_array Tryd.underlying74 h
  simp only [Prod.mk.injEq, DataW.agg.injEq] at hx
  have hcl : ctL.length = 14 := by decide
  have hxl : xs.length = 14 := by
    have := congrArg List.length hx.1
    simpa [hcl] using this.symm
  intro i hi
  have h1 := hel i (by omega)
  have hix : i < xs.length := by omega
  have hic : i < ctL.length := by omega
  rw [List.getElem?_eq_getElem hix, c3] at h1
  have e3 : xs[i].1 = cntD ctL[i] := by
    have h2 : (xs.map (·.1))[i]? = (ctL.map (cntD (H := H)))[i]? := by rw [hx.1]
    rw [List.getElem?_map, List.getElem?_map, List.getElem?_eq_getElem hix, List.getElem?_eq_getElem hic] at h2
    simpa using h2
  have h4 := cnt_open h1 e3
  have g : ctL.getD i (0, 0, 0) = ctL[i] := by rw [List.getD_eq_getElem?_getD, List.getElem?_eq_getElem hic]; rfl
  unfold ct1 ct2 ct3
  rw [g]
  have k0 : ((cs.drop (i * 3)).take 3)[0]? = some (.int .i64 ctL[i].1) := by rw [h4]; rfl
  have k1 : ((cs.drop (i * 3)).take 3)[1]? = some (.int .i64 ctL[i].2.1) := by rw [h4]; rfl
  have k2 : ((cs.drop (i * 3)).take 3)[2]? = some (.int .i64 ctL[i].2.2) := by rw [h4]; rfl
  rw [List.getElem?_take_of_lt (by omega), List.getElem?_drop] at k0 k1 k2
  exact ⟨by simpa using k0, k1, k2⟩

theorem tab_of_var {H : Type} {enc : TypeId × Value → H} {W : World} {f : Nat} {spare : Nat → Bool} {held : Bool} {cs : List Value} {p : List MemPlace} {base : Nat} (hc : ∀ i : Nat, W.cell? ⟨0, i, none⟩ = cs[i]?) (hd : DataW.trod enc Tryd.prog W base spare held f 74 cs = some (.agg (ctL.map cntD), p)) : TabC W := by
  intro i hi
  obtain ⟨h1, h2, h3⟩ := arr_counts hd i hi
  exact ⟨(hc _).trans h1, (hc _).trans h2, (hc _).trans h3⟩

theorem of_laid_one {W : World} (h : laidMetH Tryd.prog [("postern/ir.countsOf", Rows.laid_postern_ir_countsOf)] W) : TabC W ∧ 0 < W.heap.size := by
  rw [MakeChecks.laidMetH_plain _ _ _ (by kernel_rfl)] at h
  obtain ⟨ps, ⟨g0, t0, cs0, f0, p0, q0, hg0, ht0, hv0, hd0, _⟩, _, _⟩ := h
  obtain rfl : 0 = g0 := Option.some.inj ((show some 0 = _ by kernel_rfl).trans hg0)
  obtain rfl := Option.some.inj (tCt.symm.trans ht0)
  have hT : TabC W := tab_of_var (cs := cs0.toList) (fun i => by rw [World.var?_cell hg0 hv0 i]; simp) hd0
  exact ⟨hT, World.block_lt_of_cell? W _ (hT 0 (by decide)).1⟩
end

end Go.Proofs.YthlngmknifpbjaaDoor
