/-
  posternlaw.IrChecks' walk: both answers are one.
-/
import Derived.Test.YtbpbpihboenbeaaDoorSpJ
namespace Go.Proofs.YtbpbpihboenbeaaDoor
open Go.RowKit Go.Maps
set_option linter.unusedSimpArgs false
set_option linter.unusedVariables false

set_option maxHeartbeats 4000000 in
set_option maxRecDepth 20000 in
theorem irChecks_walk (fs : List Cod) (vf : Value) (a2 : Option Addr) (nd k2 : Nat) (w : World) (hG : 0 < w.heap.size) (hT : TabC w) (hfs : Cods w.heap.size w vf fs) (hnd : nd ≤ maxLen) :
    Calls Tryd.prog 4 #[prgV vf (.slice a2 nd k2)] w fun e w' => e = .returned (.bool true) ∧ Below w.heap.size w w' := by
  obtain ⟨a1, k1, rfl⟩ := Lies.slice hfs
  have HFS : Hid (Cods w.heap.size w (.slice a1 fs.length k1) fs) := hfs
  have HT : Hid (TabC w) := hT
  have HND : Hid (nd ≤ maxLen) := hnd
  obtain ⟨W, hW⟩ : ∃ W, W = w.alloc (.cells #[.slice a1 fs.length k1, .slice a2 nd k2] 25) := ⟨_, rfl⟩
  have HW : Hid (Below w.heap.size w W) := by rw [hW]; exact below_alloc _ _
  have hWs : W.heap.size = w.heap.size + 1 := by rw [hW]; simp
  have HC1 : Hid (W.heap[w.heap.size]? = some (.cells #[.slice a1 fs.length k1, .slice a2 nd k2] 25)) := by rw [hW]; exact heap_alloc_new w _
  have HWS : Hid (W = _) := hW
  clear hfs hW hT hnd
  unfold prgV
  go_enter Tryd.func4, Tryd.ntmps4
  go_wp2_with fail
  rw [← HWS.out]
  refine (Check_any fs _ _ _ _ w.heap.size W (by omega) hG (HT.out.below hG HW.out) (HFS.out.below HW.out) HND.out).mono ?_
  rintro e w1 ⟨rfl, hb1⟩
  have HB1 : Hid (Below w.heap.size w w1) := below_after HW.out hb1
  have hs1 := hb1.size
  have p1 := cells2 ((hb1.block _ (by omega)).trans HC1.out)
  clear hb1 HC1 HWS
  go_wp2_with fail
  clear p1
  refine (programR_any fs _ _ _ _ w.heap.size w1 (by omega) (HFS.out.below HB1.out) HND.out).mono ?_
  rintro e w2 ⟨rfl, hb2⟩
  have HB2 : Hid (Below w.heap.size w w2) := below_after HB1.out hb2
  clear hb2
  go_wp2_with fail
  go_ret
  exact ⟨by simp, HB2.out⟩

end Go.Proofs.YtbpbpihboenbeaaDoor
