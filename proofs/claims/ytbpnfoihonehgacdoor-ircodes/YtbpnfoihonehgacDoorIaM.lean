/-
  CheckCode.
-/
import Derived.Test.YtbpnfoihonehgacDoorIaL
import Derived.RegionTactic
import Derived.Deep.RegionWith
namespace Go.Proofs.YtbpnfoihonehgacDoor
open Go.RowKit Go.Maps
set_option linter.unusedSimpArgs false
set_option linter.unusedVariables false

set_option maxHeartbeats 8000000 in
set_option maxRecDepth 20000 in
theorem CheckCode_any (c : Cod) (fs : List Cod) (vf vd vb : Value) (B : Nat) (w : World) (hB : B ≤ w.heap.size) (hG : 3 < B) (hT : TabC w) (hfs : Cods B w vf fs) (hvd : ∃ a n k, vd = .slice a n k) (hb : Blks B w vb c.blocks) :
    Calls Tryd.prog 8 #[prgV vf vd, codV c vb] w fun e w' => e = .returned (.int .i64 (codeF fs c)) ∧ Below w.heap.size w w' := by
  obtain ⟨a1, k1, rfl⟩ := Lies.slice hfs
  obtain ⟨a2, n2, k2, rfl⟩ := hvd
  obtain ⟨a3, k3, rfl⟩ := Lies.slice hb
  obtain ⟨r, hr⟩ : ∃ r, r = codeF fs c := ⟨_, rfl⟩
  rw [← hr]
  have HR : Hid (r = _) := hr
  have HFS : Hid (Cods B w (.slice a1 fs.length k1) fs) := hfs
  have HBK : Hid (Blks B w (.slice a3 c.blocks.length k3) c.blocks) := hb
  have HT : Hid (TabC w) := hT
  obtain ⟨W, hW⟩ : ∃ W, W = ((w.alloc (.cells #[.slice a1 fs.length k1, .slice a2 n2 k2] 25)).alloc (.cells #[.string ⟨c.name.toArray⟩, .int .i64 c.params, .int .i64 c.results, .int .i64 c.vars, .int .i64 c.slots, .slice a3 c.blocks.length k3] 28)) := ⟨_, rfl⟩
  have HW : Hid (Below w.heap.size w W) := by rw [hW]; exact below_after (below_alloc _ _) (below_alloc _ _)
  have hWs : W.heap.size = w.heap.size + 2 := by rw [hW]; simp
  have HC1 : Hid (W.heap[w.heap.size]? = some (.cells #[.slice a1 fs.length k1, .slice a2 n2 k2] 25)) := by rw [hW]; exact (heap_alloc2 w _ _).1
  have HC2 : Hid (W.heap[w.heap.size + 1]? = some (.cells #[.string ⟨c.name.toArray⟩, .int .i64 c.params, .int .i64 c.results, .int .i64 c.vars, .int .i64 c.slots, .slice a3 c.blocks.length k3] 28)) := by rw [hW]; exact (heap_alloc2 w _ _).2
  have HWS : Hid (W = _) := hW
  clear hfs hb hr hW hT
  unfold prgV codV
  go_enter Tryd.func8, Tryd.ntmps8
  go_wp2_with fail
  rw [← HWS.out]
  have c1 := cells2 HC1.out
  have c2 := cells6 HC2.out
  have HWD : Hid (Below w.heap.size w W.drew) := HW.out.drew
  have hds : W.drew.heap.size = w.heap.size + 2 := hWs
  go_region_with (first | (go_at_call 21; refine (placesOf_any W.drew B _ fs (HFS.out.below (HWD.out.mono hB)) (by omega)).mono ?_; rintro e w1 ⟨rfl, hm1, hb1⟩; rw [hds] at hm1; have HM1 : Hid (_) := hm1; have HB1 : Hid (Below w.heap.size w w1) := below_after HWD.out hb1; have hs1 := hb1.size; have c3 := cells2 ((hb1.block _ (by omega)).trans HC1.out); have c4 := cells6 ((hb1.block _ (by omega)).trans HC2.out); clear hm1 hb1) | (go_at_call 20; refine (checkCode_any c fs _ _ _ (w.heap.size + 2) B w1 ⟨by omega, HFS.out.below (HB1.out.mono hB), HM1.out, HT.out.below (Nat.lt_of_lt_of_le hG hB) HB1.out, hG⟩ ⟨_, _, _, rfl⟩ (HBK.out.below (HB1.out.mono hB))).mono ?_; rintro e w2 ⟨rfl, hb2⟩; have HB2 : Hid (Below w.heap.size w w2) := below_after HB1.out hb2; clear hb2 c3 c4))
  all_goals (rw [← HR.out]; go_wp2_with fail; go_ret; exact ⟨rfl, HB2.out⟩)

end Go.Proofs.YtbpnfoihonehgacDoor
