/-
  The tables of packages read, word and typed lie as the rows list them.
-/
import Derived.Test.YtbpnfoihonehgabGreatDoorJReZ
import Derived.Test.YtbpnfoihonehgabGreatDoorTzI
namespace Go.Proofs.YtbpnfoihonehgabGreatDoor
open Go.ChangeShapes Go.WideShapes Go.ChangeAt Go.WideElems Go.RowKit
set_option linter.unusedSimpArgs false
set_option linter.unusedVariables false

def litI {H : Type} (l : List Int) : DataW H := .agg (l.map fun s => .lit (.int .i64 s))

theorem arr_ints {H : Type} {enc : TypeId × Value → H} {W : World} {base fuel n : Nat} {spare : Nat → Bool} {held : Bool} {t : TypeId} {cs : List Value} {p : List MemPlace} (ht : Tryz.prog.underlying t = some (.array n 3)) (L : List Int)
    (h : DataW.trod enc Tryz.prog W base spare held fuel t cs = some (litI L, p)) : ∀ i, i < L.length → cs[i]? = some (.int .i64 (L.getD i 0)) := by
  have c9 : Tryz.prog.cellsOf 3 = 1 := by kernel_rfl
  obtain ⟨xs, m, rfl, hx, hlen, hn, hel⟩ := DataW.trod_array ht h
  simp only [litI, Prod.mk.injEq, DataW.agg.injEq] at hx
  have hxl : xs.length = L.length := by
    have := congrArg List.length hx.1
    simpa using this.symm
  intro i hi
  have h1 := hel i (by omega)
  have hix : i < xs.length := by omega
  rw [List.getElem?_eq_getElem hix] at h1
  obtain ⟨s, e1, e2, _⟩ := DataW.trod_int Tryz.underlying3 h1
  have e3 : xs[i].1 = .lit (.int .i64 (L.getD i 0)) := by
    have h2 : (xs.map (·.1))[i]? = (L.map fun s => DataW.lit (H := H) (.int .i64 s))[i]? := by rw [hx.1]
    rw [List.getElem?_map, List.getElem?_map, List.getElem?_eq_getElem hix, List.getElem?_eq_getElem hi] at h2
    simp at h2
    rw [h2, List.getD_eq_getElem?_getD, List.getElem?_eq_getElem hi]
    rfl
  rw [e2] at e3
  have e5 : s = L.getD i 0 := by
    have := DataW.lit.inj e3
    injection this
  rw [c9] at e1
  have e4 : cs[i]? = some (.int .i64 s) := by
    have h3 : ((cs.drop (i * 1)).take 1)[0]? = some (.int .i64 s) := by rw [e1]; rfl
    rw [List.getElem?_take_of_lt (by omega), List.getElem?_drop] at h3
    simpa using h3
  rw [e4, ← e5]

theorem arr_pairs {H : Type} {enc : TypeId × Value → H} {W : World} {base fuel : Nat} {spare : Nat → Bool} {held : Bool} {cs : List Value} {p : List MemPlace} (LL : List (List Int)) (hLL : ∀ l ∈ LL, l.length = 2)
    (h : DataW.trod enc Tryz.prog W base spare held fuel 113 cs = some (.agg (LL.map litI), p)) : ∀ i j, i < LL.length → j < 2 → cs[i * 2 + j]? = some (.int .i64 ((LL.getD i []).getD j 0)) := by
  have c6 : Tryz.prog.cellsOf 112 = 2 := by kernel_rfl
  obtain ⟨xs, m, rfl, hx, hlen, hn, hel⟩ := DataW.trod_array Tryz.underlying113 h
  simp only [Prod.mk.injEq, DataW.agg.injEq] at hx
  have hxl : xs.length = LL.length := by
    have := congrArg List.length hx.1
    simpa using this.symm
  intro i j hi hj
  have h1 := hel i (by omega)
  have hix : i < xs.length := by omega
  rw [List.getElem?_eq_getElem hix, c6] at h1
  have e3 : xs[i] = (litI (LL.getD i []), xs[i].2) := by
    have h2 : (xs.map (·.1))[i]? = (LL.map (litI (H := H)))[i]? := by rw [hx.1]
    rw [List.getElem?_map, List.getElem?_map, List.getElem?_eq_getElem hix, List.getElem?_eq_getElem hi] at h2
    simp at h2
    rw [List.getD_eq_getElem?_getD, List.getElem?_eq_getElem hi]
    exact Prod.ext h2 rfl
  rw [e3] at h1
  have hl6 : (LL.getD i []).length = 2 := by
    rw [List.getD_eq_getElem?_getD, List.getElem?_eq_getElem hi]
    exact hLL _ (List.getElem_mem hi)
  have h4 := arr_ints Tryz.underlying112 _ h1 j (by omega)
  rw [List.getElem?_take_of_lt hj, List.getElem?_drop] at h4
  exact h4

theorem tAc : (Tryz.prog.globals[5]?).map (·.type) = some 141 := by kernel_rfl
theorem tEc : (Tryz.prog.globals[3]?).map (·.type) = some 113 := by kernel_rfl

/-- the tables, in the order in which the rows list them -/
def laidSix {H : Type} : List (String × DataW H) :=
  [("postern/word.keywords", Rows.laid_postern_word_keywords), ("postern/typed.argCounts", Rows.laid_postern_typed_argCounts), ("postern/typed.exprCounts", Rows.laid_postern_typed_exprCounts), ("postern/read.levels", Rows.laid_postern_read_levels), ("postern/read.typeWords", Rows.laid_postern_read_typeWords), ("postern/read.marks", Rows.laid_postern_read_marks)]

theorem of_laid_six {W : World} (h : laidMetH Tryz.prog laidSix W) : Tab W ∧ TabT W := by
  rw [MakeChecks.laidMetH_plain _ _ _ (by kernel_rfl)] at h
  obtain ⟨ps, ⟨g3, t3, cs3, f3, p3, q3, hg3, ht3, hv3, hd3, ⟨g4, t4, cs4, f4, p4, q4, hg4, ht4, hv4, hd4, ⟨g5, t5, cs5, f5, p5, q5, hg5, ht5, hv5, hd5, ⟨g0, t0, cs0, f0, p0, q0, hg0, ht0, hv0, hd0, ⟨g1, t1, cs1, f1, p1, q1, hg1, ht1, hv1, hd1, ⟨g2, t2, cs2, f2, p2, q2, hg2, ht2, hv2, hd2, _, _⟩, _⟩, _⟩, _⟩, _⟩, _⟩, _, _⟩ := h
  obtain rfl : 8 = g0 := Option.some.inj ((show some 8 = _ by kernel_rfl).trans hg0)
  obtain rfl : 1 = g1 := Option.some.inj ((show some 1 = _ by kernel_rfl).trans hg1)
  obtain rfl : 0 = g2 := Option.some.inj ((show some 0 = _ by kernel_rfl).trans hg2)
  obtain rfl : 2 = g3 := Option.some.inj ((show some 2 = _ by kernel_rfl).trans hg3)
  obtain rfl : 5 = g4 := Option.some.inj ((show some 5 = _ by kernel_rfl).trans hg4)
  obtain rfl : 3 = g5 := Option.some.inj ((show some 3 = _ by kernel_rfl).trans hg5)
  obtain rfl := Option.some.inj (tLv.symm.trans ht0)
  obtain rfl := Option.some.inj (tTy.symm.trans ht1)
  obtain rfl := Option.some.inj (tMr.symm.trans ht2)
  obtain rfl := Option.some.inj (tKw.symm.trans ht3)
  obtain rfl := Option.some.inj (tAc.symm.trans ht4)
  obtain rfl := Option.some.inj (tEc.symm.trans ht5)
  have hkw : TabRow W 2 keywordsL := by
    intro i hi
    rw [World.var?_cell hg3 hv3 i]
    simpa using arr_strings Tryz.underlying111 keywordsL hd3 i hi
  refine ⟨⟨?_, ?_, ?_, hkw⟩, hkw, ?_, ?_⟩
  · intro i hi
    rw [World.var?_cell hg0 hv0 i]
    have h1 := arr_levels [levelsL.take 6, (levelsL.drop 6).take 6, (levelsL.drop 12).take 6, (levelsL.drop 18).take 6, (levelsL.drop 24).take 6] (by decide) hd0 (i / 6) (i % 6) (by have : i < 30 := hi; simp; omega) (by omega)
    have e : i / 6 * 6 + i % 6 = i := by omega
    rw [e] at h1
    have h2 : ∀ j, j < 30 → ([levelsL.take 6, (levelsL.drop 6).take 6, (levelsL.drop 12).take 6, (levelsL.drop 18).take 6, (levelsL.drop 24).take 6].getD (j / 6) []).getD (j % 6) [] = levelsL.getD j [] := by decide
    rw [h2 i hi] at h1
    simpa using h1
  · intro i hi
    rw [World.var?_cell hg1 hv1 i]
    simpa using arr_strings Tryz.underlying107 typeWordsL hd1 i hi
  · intro i hi
    rw [World.var?_cell hg2 hv2 i]
    simpa using arr_strings Tryz.underlying89 marksL hd2 i hi
  · intro i hi
    rw [World.var?_cell hg4 hv4 i]
    simpa using arr_ints Tryz.underlying141 acL hd4 i hi
  · intro i hi
    rw [World.var?_cell hg5 hv5 i]
    have h1 := arr_pairs [[0, 0], [1, 1], [1, 1], [2, 2], [1, 1], [1, 1], [1, 1], [1, 1], [0, 2], [1, 1], [0, 0], [0, 0], [1, 1], [1, 1]] (by decide) hd5 (i / 2) (i % 2) (by simp; omega) (by omega)
    have e : i / 2 * 2 + i % 2 = i := by omega
    rw [e] at h1
    have h2 : ∀ j, j < 28 → ([[0, 0], [1, 1], [1, 1], [2, 2], [1, 1], [1, 1], [1, 1], [1, 1], [0, 2], [1, 1], [0, 0], [0, 0], [1, 1], [1, 1]].getD (j / 2) []).getD (j % 2) 0 = ecL.getD j 0 := by decide
    rw [h2 i hi] at h1
    simpa using h1

end Go.Proofs.YtbpnfoihonehgabGreatDoor
