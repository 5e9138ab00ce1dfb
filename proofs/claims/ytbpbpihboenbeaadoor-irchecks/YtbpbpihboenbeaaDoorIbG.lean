/-
  The statement's own look at an instruction, whatever its operator; at code.
-/
import Derived.Test.YtbpbpihboenbeaaDoorIbC
import Derived.Test.YtbpbpihboenbeaaDoorIbD
import Derived.Test.YtbpbpihboenbeaaDoorIbE
import Derived.Test.YtbpbpihboenbeaaDoorIbF
namespace Go.Proofs.YtbpbpihboenbeaaDoor
open Go.RowKit Go.Maps
set_option linter.unusedSimpArgs false
set_option linter.unusedVariables false

set_option maxHeartbeats 8000000 in
set_option maxRecDepth 20000 in
theorem instrR_other (k : Int) (hk : k < 1 ∨ 13 < k) : SaidR k := by
  intro ds ar nn s to c fs vf vdt vb vd va vt B w hB hfs hvdt hvb hb1 hb2 hv0 hv3 hd ha ht hs
  obtain ⟨a1, k1, rfl⟩ := Lies.slice hfs
  obtain ⟨a2, n2, k2, rfl⟩ := hvdt
  obtain ⟨a3, k3, rfl⟩ := hvb
  obtain ⟨ad, kd, rfl⟩ := Lies.slice hd
  obtain ⟨a4, k4, rfl⟩ := Lies.slice ha
  obtain ⟨a5, k5, rfl⟩ := Lies.slice ht
  have hr : instrF fs c ⟨k, ds, ar, nn, s, to⟩ = 3 := by
    unfold instrF
    rw [if_pos]
    simp
    exact hk
  rw [hr]
  unfold prgV codV insV
  simp only
  have e1 : (k == 1) = false := beq_eq_false_iff_ne.2 (by omega)
  have e2 : (k == 2) = false := beq_eq_false_iff_ne.2 (by omega)
  have e3 : (k == 3) = false := beq_eq_false_iff_ne.2 (by omega)
  have e4 : (k == 4) = false := beq_eq_false_iff_ne.2 (by omega)
  have e5 : (k == 5) = false := beq_eq_false_iff_ne.2 (by omega)
  have e6 : (k == 6) = false := beq_eq_false_iff_ne.2 (by omega)
  have e7 : (k == 7) = false := beq_eq_false_iff_ne.2 (by omega)
  have e8 : (k == 8) = false := beq_eq_false_iff_ne.2 (by omega)
  have e9 : (k == 9) = false := beq_eq_false_iff_ne.2 (by omega)
  have e10 : (k == 10) = false := beq_eq_false_iff_ne.2 (by omega)
  have e11 : (k == 11) = false := beq_eq_false_iff_ne.2 (by omega)
  have e12 : (k == 12) = false := beq_eq_false_iff_ne.2 (by omega)
  have e13 : (k == 13) = false := beq_eq_false_iff_ne.2 (by omega)
  clear hfs hd ha ht hk hr hb1 hb2
  go_enter Tryd.func14, Tryd.ntmps14
  go_wp2_with fail
  go_ret
  exact ⟨rfl, below_after (below_after (below_alloc _ _) (below_alloc _ _)) (below_alloc _ _)⟩

theorem instrR_all (k : Int) : SaidR k := by
  by_cases h : k < 1 ∨ 13 < k
  · exact instrR_other k h
  · have : k = 1 ∨ k = 2 ∨ k = 3 ∨ k = 4 ∨ k = 5 ∨ k = 6 ∨ k = 7 ∨ k = 8 ∨ k = 9 ∨ k = 10 ∨ k = 11 ∨ k = 12 ∨ k = 13 := by omega
    rcases this with h | h | h | h | h | h | h | h | h | h | h | h | h <;> subst h
    · exact instrR_1
    · exact instrR_2
    · exact instrR_3
    · exact instrR_4
    · exact instrR_5
    · exact instrR_6
    · exact instrR_7
    · exact instrR_8
    · exact instrR_9
    · exact instrR_10
    · exact instrR_11
    · exact instrR_12
    · exact instrR_13

end Go.Proofs.YtbpbpihboenbeaaDoor
