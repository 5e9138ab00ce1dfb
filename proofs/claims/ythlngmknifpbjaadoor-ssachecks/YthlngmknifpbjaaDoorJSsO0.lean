/-
  What is read has room: the blocks of code.
-/
import Derived.Test.YthlngmknifpbjaaDoorSsL
import Derived.Test.YthlngmknifpbjaaDoorSsN
import Derived.Test.YthlngmknifpbjaaDoorJSsE
import Derived.Test.YthlngmknifpbjaaDoorJIaQ
namespace Go.Proofs.YthlngmknifpbjaaDoor
section
open Go.RowKit Go.Maps
set_option linter.unusedSimpArgs false
set_option linter.unusedVariables false

set_option maxHeartbeats 4000000 in
set_option maxRecDepth 20000 in
theorem ssaCheck_any (c : Cod) (fs : List Cod) (vf vd vb : Value) (B : Nat) (w : World) (hB : B ≤ w.heap.size) (hG : 0 < B) (hT : TabC w) (hfs : Cods B w vf fs) (hvd : ∃ a n k, vd = .slice a n k) (hb : Blks B w vb c.blocks) (hcp : BCap w vb c.blocks) (hsz : c.blocks.length * 24 ≤ 140737488351232) :
    Calls Tryd.prog 4 #[prgV vf vd, codV c vb] w fun e w' => e = .returned (.int .i64 (checkS fs c)) ∧ Below w.heap.size w w' := by
  obtain ⟨a1, k1, rfl⟩ := Lies.slice hfs
  obtain ⟨a2, n2, k2, rfl⟩ := hvd
  obtain ⟨a3, k3, rfl⟩ := Lies.slice hb
  obtain ⟨r, hr⟩ : ∃ r, r = checkS fs c := ⟨_, rfl⟩
  rw [← hr]
  obtain ⟨W, hW⟩ : ∃ W, W = ((w.alloc (.cells #[.slice a1 fs.length k1, .slice a2 n2 k2] 25)).alloc (.cells #[.string ⟨c.name.toArray⟩, .int .i64 c.params, .int .i64 c.results, .int .i64 c.vars, .int .i64 c.slots, .slice a3 c.blocks.length k3] 28)) := ⟨_, rfl⟩
  have HW : Hid (Below w.heap.size w W) := by rw [hW]; exact below_after (below_alloc _ _) (below_alloc _ _)
  have HWS : Hid (W = _) := hW
  have HCK : Hid (Calls Tryd.prog 6 #[prgV (.slice a1 fs.length k1) (.slice a2 n2 k2), codV c (.slice a3 c.blocks.length k3)] W fun e w' => e = .returned (.int .i64 r) ∧ Below W.heap.size W w') := by
    rw [hr]
    have hk := HW.out.mono hB
    exact check_any c fs _ _ _ B W (Nat.le_trans hB HW.out.size) hG (hT.below hG hk) (hfs.below hk) ⟨_, _, _, rfl⟩ (hb.below hk) (hcp.below hb hk) hsz
  clear hfs hb hcp hT hr hW
  unfold prgV codV at *
  go_enter Tryd.func4, Tryd.ntmps4
  go_wp2_with fail
  rw [← HWS.out]
  refine Calls.mono HCK.out ?_
  rintro e w1 ⟨rfl, hb1⟩
  have HB1 : Hid (Below w.heap.size w w1) := below_after HW.out hb1
  clear hb1
  go_wp2_with fail
  go_ret
  exact ⟨rfl, HB1.out⟩

set_option maxHeartbeats 4000000 in
set_option maxRecDepth 20000 in
theorem ssaChecks_walk (c : Cod) (fs : List Cod) (vf vd vb : Value) (w : World) (hG : 0 < w.heap.size) (hT : TabC w) (hfs : Cods w.heap.size w vf fs) (hvd : ∃ a n k, vd = .slice a n k) (hb : Blks w.heap.size w vb c.blocks) (hcp : BCap w vb c.blocks) (hsz : c.blocks.length * 24 ≤ 140737488351232) :
    Calls Tryd.prog 3 #[prgV vf vd, codV c vb] w fun e w' => e = .returned (.bool true) ∧ Below w.heap.size w w' := by
  obtain ⟨a1, k1, rfl⟩ := Lies.slice hfs
  obtain ⟨a2, n2, k2, rfl⟩ := hvd
  obtain ⟨a3, k3, rfl⟩ := Lies.slice hb
  have HFS : Hid (Cods w.heap.size w (.slice a1 fs.length k1) fs) := hfs
  have HBK : Hid (Blks w.heap.size w (.slice a3 c.blocks.length k3) c.blocks) := hb
  have HCP : Hid (BCap w (.slice a3 c.blocks.length k3) c.blocks) := hcp
  have HT : Hid (TabC w) := hT
  have HSZ : Hid (_) := hsz
  obtain ⟨r, hr⟩ : ∃ r, r = checkS fs c := ⟨_, rfl⟩
  have HR : Hid (checkS fs c = r) := hr.symm
  obtain ⟨W, hW⟩ : ∃ W, W = ((w.alloc (.cells #[.slice a1 fs.length k1, .slice a2 n2 k2] 25)).alloc (.cells #[.string ⟨c.name.toArray⟩, .int .i64 c.params, .int .i64 c.results, .int .i64 c.vars, .int .i64 c.slots, .slice a3 c.blocks.length k3] 28)) := ⟨_, rfl⟩
  have HW : Hid (Below w.heap.size w W) := by rw [hW]; exact below_after (below_alloc _ _) (below_alloc _ _)
  have hWs : W.heap.size = w.heap.size + 2 := by rw [hW]; simp
  have HC1 : Hid (W.heap[w.heap.size]? = some (.cells #[.slice a1 fs.length k1, .slice a2 n2 k2] 25)) := by rw [hW]; exact (heap_alloc2 w _ _).1
  have HC2 : Hid (W.heap[w.heap.size + 1]? = some (.cells #[.string ⟨c.name.toArray⟩, .int .i64 c.params, .int .i64 c.results, .int .i64 c.vars, .int .i64 c.slots, .slice a3 c.blocks.length k3] 28)) := by rw [hW]; exact (heap_alloc2 w _ _).2
  have HWS : Hid (W = _) := hW
  clear hfs hb hW hT hcp hsz hr
  unfold prgV codV
  go_enter Tryd.func3, Tryd.ntmps3
  go_wp2_with fail
  rw [← HWS.out]
  refine (ssaCheck_any c fs _ _ _ w.heap.size W (by omega) hG (HT.out.below hG HW.out) (HFS.out.below HW.out) ⟨_, _, _, rfl⟩ (HBK.out.below HW.out) (HCP.out.below HBK.out HW.out) HSZ.out).mono ?_
  rw [HR.out]
  rintro e w1 ⟨rfl, hb1⟩
  have HB1 : Hid (Below w.heap.size w w1) := below_after HW.out hb1
  have hs1 := hb1.size
  have p1 := cells2 ((hb1.block _ (by omega)).trans HC1.out)
  have p2 := cells6 ((hb1.block _ (by omega)).trans HC2.out)
  clear hb1 HC1 HC2 HWS
  go_wp2_with fail
  clear p1 p2
  refine (onceR_any c fs _ _ _ w.heap.size w1 (by omega) (HFS.out.below HB1.out) ⟨_, _, _, rfl⟩ (HBK.out.below HB1.out) (HCP.out.below HBK.out HB1.out) HSZ.out).mono ?_
  rw [HR.out]
  rintro e w2 ⟨rfl, hb2⟩
  have HB2 : Hid (Below w.heap.size w w2) := below_after HB1.out hb2
  clear hb2
  go_wp2_with fail
  go_ret
  exact ⟨by simp, HB2.out⟩
end

section
open Go.RowKit
set_option linter.unusedSimpArgs false
set_option linter.unusedVariables false

variable {H : Type} {enc : TypeId × Value → H} {W : World} {base : Nat} {spare : Nat → Bool} {held : Bool}

set_option maxRecDepth 20000 in
theorem cod_bcap {fuel : Nat} {x : DataW H × List MemPlace} {c : Cod} {vb : Value} (h : DataW.trod enc Tryd.prog W base spare held fuel 28 [.string ⟨c.name.toArray⟩, .int .i64 c.params, .int .i64 c.results, .int .i64 c.vars, .int .i64 c.slots, vb] = some x) (hb : Blks W.heap.size W vb c.blocks) : BCap W vb c.blocks := by
  obtain ⟨xs, n, rfl, rfl, hlen, hxs, hel⟩ := DataW.trod_struct Tryd.underlying28 h
  have h5 : DataW.trod enc Tryd.prog W base spare held n 26 (([Value.string ⟨c.name.toArray⟩, .int .i64 c.params, .int .i64 c.results, .int .i64 c.vars, .int .i64 c.slots, vb].drop 5).take (Tryd.prog.cellsOf 26)) = xs[5]? := hel 5 _ rfl
  rw [cells_blks] at h5
  obtain ⟨y5, e5⟩ := get_some (i := 5) hxs (by decide)
  rw [e5] at h5
  simp at h5
  obtain ⟨v, us, e1, hl⟩ := lies_of_trod (A := Unit) (P := fun cs _ => ∃ a l k, cs = [.slice a l k] ∧ l ≤ k) Tryd.underlying26 cells_blk (by decide) (fun n cs y _ hy => by
    rcases DataW.trod_slice Tryd.underlying32 hy with ⟨rfl, _⟩ | ⟨a, len, cap, elems, rest, m, _, rfl, _, _, hle, _⟩
    · exact ⟨(), _, _, _, rfl, Nat.le_refl _⟩
    · exact ⟨(), _, _, _, rfl, hle⟩) h5
  have e2 : v = vb := by
    have : [v] = [vb] := e1.symm
    injection this
  subst e2
  intro g o n' c' i he hi
  obtain ⟨a3, k3, e3⟩ := Lies.slice hb
  obtain ⟨a4, k4, e4⟩ := Lies.slice hl
  have hlen : us.length = c.blocks.length := by
    rw [e3] at e4
    injection e4 with _ e5 _
    exact e5.symm
  obtain ⟨u, hu⟩ : ∃ u, us[i]? = some u := ⟨_, List.getElem?_eq_getElem (by omega)⟩
  subst he
  obtain ⟨g', o', cs, e6, _, _, ⟨a, l, k, rfl, hlk⟩, hc⟩ := Lies.at hl hu
  have h0 := hc 0 (by decide)
  simp at h0
  cases e6
  exact ⟨a, l, k, h0, hlk⟩
end

end Go.Proofs.YthlngmknifpbjaaDoor
