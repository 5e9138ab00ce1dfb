/-
  posternkeep.ReadBad answers true whatever the number: each of the seventeen sources is refused, with the error and the place that are asked. The package variables of package read start as the program's text lays them.
-/
import Derived.Test.YtgifghcaeoinoaaDoorReX
import Derived.Test.YtgifghcaeoinoaaDoorReY
import Derived.Test.YtgifghcaeoinoaaDoorTie
import Derived.Test.YtgifghcaeoinoaaDoorCards
import Derived.SevenTiedAt
namespace Go.Proofs.YtgifghcaeoinoaaDoor
open Go.ChangeShapes Go.WideShapes Go.ChangeAt Go.WideElems Go.RowKit
set_option linter.unusedSimpArgs false
set_option linter.unusedVariables false

theorem own : ownKnob Tryd.prog.godebug = none := by kernel_rfl
theorem tLv : (Tryd.prog.globals[7]?).map (·.type) = some 155 := by kernel_rfl
theorem tTy : (Tryd.prog.globals[3]?).map (·.type) = some 120 := by kernel_rfl
theorem tMr : (Tryd.prog.globals[1]?).map (·.type) = some 99 := by kernel_rfl
theorem tKw : (Tryd.prog.globals[2]?).map (·.type) = some 113 := by kernel_rfl

theorem door_met (os : Os) (args : Array Value) : laidMetH Tryd.prog Rows.readBadRow.laid ((World.doorLaid Tryd.prog 400 os).forCall (fun _ _ => 0) ⟨#[], args, []⟩).memory :=
  laidMetH_of_parts3 (fuel := 8) (laidMet_of_run' 8 (by kernel_rfl) (by kernel_rfl)) (by kernel_rfl) (by kernel_rfl)

theorem of_laid {W : World} (h : laidMetH Tryd.prog Rows.readBadRow.laid W) : Tab W := by
  rw [MakeChecks.laidMetH_plain _ _ _ (by kernel_rfl)] at h
  obtain ⟨ps, ⟨g0, t0, cs0, f0, p0, q0, hg0, ht0, hv0, hd0, ⟨g1, t1, cs1, f1, p1, q1, hg1, ht1, hv1, hd1, ⟨g2, t2, cs2, f2, p2, q2, hg2, ht2, hv2, hd2, ⟨g3, t3, cs3, f3, p3, q3, hg3, ht3, hv3, hd3, _, _⟩, _⟩, _⟩, _⟩, _, _⟩ := h
  obtain rfl : 7 = g0 := Option.some.inj ((show some 7 = _ by kernel_rfl).trans hg0)
  obtain rfl : 3 = g1 := Option.some.inj ((show some 3 = _ by kernel_rfl).trans hg1)
  obtain rfl : 1 = g2 := Option.some.inj ((show some 1 = _ by kernel_rfl).trans hg2)
  obtain rfl : 2 = g3 := Option.some.inj ((show some 2 = _ by kernel_rfl).trans hg3)
  obtain rfl := Option.some.inj (tLv.symm.trans ht0)
  obtain rfl := Option.some.inj (tTy.symm.trans ht1)
  obtain rfl := Option.some.inj (tMr.symm.trans ht2)
  obtain rfl := Option.some.inj (tKw.symm.trans ht3)
  refine ⟨?_, ?_, ?_, ?_⟩
  · intro i hi
    rw [World.var?_cell hg0 hv0 i]
    have h1 := arr_levels [levelsL.take 6, (levelsL.drop 6).take 6, (levelsL.drop 12).take 6, (levelsL.drop 18).take 6, (levelsL.drop 24).take 6] (by decide) hd0 (i / 6) (i % 6) (by have : i < 30 := hi; simp; omega) (by omega)
    have e : i / 6 * 6 + i % 6 = i := by omega
    rw [e] at h1
    have h2 : ∀ j, j < 30 → ([levelsL.take 6, (levelsL.drop 6).take 6, (levelsL.drop 12).take 6, (levelsL.drop 18).take 6, (levelsL.drop 24).take 6].getD (j / 6) []).getD (j % 6) [] = levelsL.getD j [] := by decide
    rw [h2 i hi] at h1
    simpa using h1
  · intro i hi
    rw [World.var?_cell hg1 hv1 i]
    simpa using arr_strings Tryd.underlying120 typeWordsL hd1 i hi
  · intro i hi
    rw [World.var?_cell hg2 hv2 i]
    simpa using arr_strings Tryd.underlying99 marksL hd2 i hi
  · intro i hi
    rw [World.var?_cell hg3 hv3 i]
    simpa using arr_strings Tryd.underlying113 keywordsL hd3 i hi

end Go.Proofs.YtgifghcaeoinoaaDoor
