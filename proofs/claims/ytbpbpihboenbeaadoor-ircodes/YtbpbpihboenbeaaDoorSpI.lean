/-
  posternlaw.IrCodes' walk: both answers are one.
-/
import Derived.Test.YtbpbpihboenbeaaDoorSoP
import Derived.Test.YtbpbpihboenbeaaDoorIbH
import Derived.Test.YtbpbpihboenbeaaDoorSpA
namespace Go.Proofs.YtbpbpihboenbeaaDoor
open Go.RowKit Go.Maps
set_option linter.unusedSimpArgs false
set_option linter.unusedVariables false

set_option maxHeartbeats 4000000 in
set_option maxRecDepth 20000 in
theorem irCodes_walk (c : Cod) (fs : List Cod) (vf vd vb : Value) (w : World) (hG : 0 < w.heap.size) (hT : TabC w) (hfs : Cods w.heap.size w vf fs) (hvd : ∃ a n k, vd = .slice a n k) (hb : Blks w.heap.size w vb c.blocks) :
    Calls Tryd.prog 3 #[prgV vf vd, codV c vb] w fun e w' => e = .returned (.bool true) ∧ Below w.heap.size w w' := by
  obtain ⟨a1, k1, rfl⟩ := Lies.slice hfs
  obtain ⟨a2, n2, k2, rfl⟩ := hvd
  obtain ⟨a3, k3, rfl⟩ := Lies.slice hb
  have HFS : Hid (Cods w.heap.size w (.slice a1 fs.length k1) fs) := hfs
  have HBK : Hid (Blks w.heap.size w (.slice a3 c.blocks.length k3) c.blocks) := hb
  have HT : Hid (TabC w) := hT
  obtain ⟨W, hW⟩ : ∃ W, W = ((w.alloc (.cells #[.slice a1 fs.length k1, .slice a2 n2 k2] 25)).alloc (.cells #[.string ⟨c.name.toArray⟩, .int .i64 c.params, .int .i64 c.results, .int .i64 c.vars, .int .i64 c.slots, .slice a3 c.blocks.length k3] 28)) := ⟨_, rfl⟩
  have HW : Hid (Below w.heap.size w W) := by rw [hW]; exact below_after (below_alloc _ _) (below_alloc _ _)
  have hWs : W.heap.size = w.heap.size + 2 := by rw [hW]; simp
  have HC1 : Hid (W.heap[w.heap.size]? = some (.cells #[.slice a1 fs.length k1, .slice a2 n2 k2] 25)) := by rw [hW]; exact (heap_alloc2 w _ _).1
  have HC2 : Hid (W.heap[w.heap.size + 1]? = some (.cells #[.string ⟨c.name.toArray⟩, .int .i64 c.params, .int .i64 c.results, .int .i64 c.vars, .int .i64 c.slots, .slice a3 c.blocks.length k3] 28)) := by rw [hW]; exact (heap_alloc2 w _ _).2
  have HWS : Hid (W = _) := hW
  clear hfs hb hW hT
  unfold prgV codV
  go_enter Tryd.func3, Tryd.ntmps3
  go_wp2_with fail
  rw [← HWS.out]
  refine (CheckCode_any c fs _ _ _ w.heap.size W (by omega) hG (HT.out.below hG HW.out) (HFS.out.below HW.out) ⟨_, _, _, rfl⟩ (HBK.out.below HW.out)).mono ?_
  rw [code_same]
  rintro e w1 ⟨rfl, hb1⟩
  have HB1 : Hid (Below w.heap.size w w1) := below_after HW.out hb1
  have hs1 := hb1.size
  have p1 := cells2 ((hb1.block _ (by omega)).trans HC1.out)
  have p2 := cells6 ((hb1.block _ (by omega)).trans HC2.out)
  clear hb1 HC1 HC2 HWS
  go_wp2_with fail
  clear p1 p2
  refine (codeR_any c fs _ _ _ w.heap.size w1 (by omega) (HFS.out.below HB1.out) ⟨_, _, _, rfl⟩ (HBK.out.below HB1.out)).mono ?_
  rintro e w2 ⟨rfl, hb2⟩
  have HB2 : Hid (Below w.heap.size w w2) := below_after HB1.out hb2
  clear hb2
  go_wp2_with fail
  go_ret
  exact ⟨by simp, HB2.out⟩

end Go.Proofs.YtbpbpihboenbeaaDoor
