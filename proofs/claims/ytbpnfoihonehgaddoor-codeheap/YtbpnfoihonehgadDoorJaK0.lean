/-
  How a run ends: what is left of the machine; the way back from the first call.
-/
import Derived.Test.YtbpnfoihonehgadDoorJaJ
namespace Go.Proofs.YtbpnfoihonehgadDoor
open Go.RowKit
set_option linter.unusedSimpArgs false
set_option linter.unusedVariables false

variable {w : World} {col : Nat → Nat} {B m mp : Nat} {vf : Value} {fs : List Cod} {vh vl vc vv : Value} {q : Mst}

theorem blk_tail {B : Nat} {w : World} {ga o kn : Nat} {i : Ins} {l : List Ins} (h : Blk B w (.slice (some ⟨ga, o, none⟩) (l.length + 1) kn) (i :: l)) : Blk B w (.slice (some ⟨ga, o + 6, none⟩) l.length (kn - 1)) l := by
  obtain ⟨hl, a, c, hv, hh⟩ := h
  cases hv
  refine ⟨by rw [List.length_cons] at hl; omega, _, _, rfl, fun h0 => ?_⟩
  obtain ⟨g, o', ha, hg, hat⟩ := hh (by simp)
  cases ha
  refine ⟨ga, o + 6, rfl, hg, fun j x hx => ?_⟩
  obtain ⟨cs, h1, h2, h3⟩ := hat (j + 1) x (by simpa using hx)
  refine ⟨cs, h1, h2, fun k hk => ?_⟩
  have := h3 k hk
  rw [show o + 6 + j * 6 + k = o + (j + 1) * 6 + k by omega]
  exact this

/-- the lines alone -/
def Final (w : World) (col : Nat → Nat) (B m : Nat) (lines : List (List UInt8)) (w' : World) : Prop :=
  ∃ col' vl, w'.cell? ⟨m, 4, none⟩ = some vl ∧ w'.ownsRow B 9 1 vl lines.length (strsL lines) ∧ Fr w col w' col' ∧ m < w'.heap.size ∧ B ≤ w'.heap.size ∧ ∀ k, vl.ownBlock = some k → col' k = 4

theorem Final.of_after {w w' : World} {q' : Mst} (h : After w col B m mp vf fs q' w') : Final w col B m q'.lines w' := by
  obtain ⟨c, a, b, d, e, h1, h2⟩ := h
  exact ⟨c, b, h1.cells.2.2.2.2.1, h1.lines, h2, h1.mlt, h1.bw, h1.cl⟩

theorem Final.of {w w0 w' : World} {col0 : Nat → Nat} {l : List (List UInt8)} (k : Fr w col w0 col0) (h : Final w0 col0 B m l w') : Final w col B m l w' := by
  obtain ⟨c, a, h1, h2, h3, h4⟩ := h
  exact ⟨c, a, h1, h2, k.trans h3, h4⟩

/-- goes on, or ends -/
def Out (w : World) (col : Nat → Nat) (B m mp : Nat) (vf : Value) (fs : List Cod) (r : Int) (q' : Mst) (w' : World) : Prop := if r = 0 then After w col B m mp vf fs q' w' else Final w col B m q'.lines w'

theorem Out.mk {w w' : World} {r : Int} {q' : Mst} (h : After w col B m mp vf fs q' w') : Out w col B m mp vf fs r q' w' := by
  unfold Out
  split
  · exact h
  · exact Final.of_after h

theorem final_cut {v : Value} (h : Mach w col B m mp vf fs vh vl vc vv q) : Final w col B m q.lines (w.drew.setCell ⟨m, 5, none⟩ v) := by
  refine ⟨col, vl, ?_, own_same h.lines fun g hg => Below.heap_setCell _ _ _ _ (fun e => by have e' : g = m := e; have h1 := h.cl g hg; have h2 := h.cm; rw [e'] at h1; omega), ⟨rfl, rfl, rfl, by simp [World.setCell], fun k hk h0 => ⟨Below.heap_setCell _ _ _ _ (fun e => by have e' : k = m := e; have h2 := h.cm; rw [e'] at h0; omega), h0⟩⟩, by simpa [World.setCell] using h.mlt, by simpa [World.setCell] using h.bw, h.cl⟩
  have hb : (w.drew.setCell ⟨m, 5, none⟩ v).heap[m]? = _ := heap_setCell_same (w := w.drew) (o := 5) h.blk v
  simp [World.cell?, hb]

set_option maxHeartbeats 2000000 in
set_option maxRecDepth 20000 in
theorem back_any (h : Mach w col B m mp vf fs vh vl vc vv q) (va : Value) (ha : ∃ a n k, va = .slice a n k) :
    Calls Tryd.prog 32 #[.pointer (some ⟨m, 0, none⟩), va] w fun e w' => e = .returned (.int .i64 1) ∧ Final w col B m q.lines w' := by
  have HH : Hid (Mach w col B m mp vf fs vh vl vc vv q) := h
  obtain ⟨aa, na, ka, rfl⟩ := ha
  obtain ⟨vb, vn, vr, hc1, ⟨ab, nb, kb, rfl⟩, hc3, ⟨ar, nr, kr, rfl⟩, an, kn, rfl, _⟩ := h.calls
  obtain ⟨gc, cc, rfl, _, hgc, _, _, hfc, hcc⟩ := own_at hc1 (by decide)
  have d0 := hcc 0 _ rfl
  have d1 := hcc 1 _ rfl
  have d2 := hcc 2 _ rfl
  have d3 := hcc 3 _ rfl
  have h5 := h.cells.2.2.2.2.2.1
  have hz5 := h.thaw 5
  have hml := h.mlt
  unfold numV at d2
  clear h hc1 hc3 hfc hcc
  go_enter Tryd.func32, Tryd.ntmps32
  go_wp2_with fail
  refine (last_any m gc cc w h5).mono ?_
  rintro e w1 ⟨rfl, n1, hw1⟩
  have HM1 : Hid (Mach w1 col B m mp vf fs vh vl (.slice (some ⟨gc, 0, none⟩) 1 cc) vv q) := by rw [hw1]; exact HH.out.keep (below_drewN w _ n1)
  have HF1 : Hid (Fr w col w1 col) := by rw [hw1]; exact fr_drewN w col n1
  have e0 : w1.cell? ⟨gc, 0, none⟩ = some (.slice ab nb kb) := by rw [hw1]; exact d0
  have e1 : w1.cell? ⟨gc, 1, none⟩ = some (.slice an q.next.length kn) := by rw [hw1]; exact d1
  have e2 : w1.cell? ⟨gc, 2, none⟩ = some (.int .i64 0) := by rw [hw1]; exact d2
  have e3 : w1.cell? ⟨gc, 3, none⟩ = some (.slice ar nr kr) := by rw [hw1]; exact d3
  have e5 : w1.cell? ⟨m, 5, none⟩ = some (.slice (some ⟨gc, 0, none⟩) 1 cc) := by rw [hw1]; exact h5
  have ez : w1.frozen? ⟨m, 5, none⟩ = false := by rw [hw1]; exact hz5
  have hm1 : m < w1.heap.size := HM1.out.mlt
  have hgc1 : gc < w1.heap.size := by rw [hw1]; exact hgc
  clear hw1 d0 d1 d2 d3 h5 hz5 hml hgc HH
  obtain ⟨W, hW⟩ : ∃ W, W = w1.alloc (.cells #[.slice ab nb kb, .slice an q.next.length kn, .int .i64 0, .slice ar nr kr] 67) := ⟨_, rfl⟩
  have HM2 : Hid (Mach W col B m mp vf fs vh vl (.slice (some ⟨gc, 0, none⟩) 1 cc) vv q) := by rw [hW]; exact HM1.out.alloc _
  have HF2 : Hid (Fr w col W col) := by rw [hW]; exact HF1.out.trans (Fr.of_below col (below_alloc _ _))
  have f5 := HM2.out.cells.2.2.2.2.2.1
  have fz := HM2.out.thaw 5
  have HWS : Hid (W = _) := hW
  clear hW
  go_wp2_with fail
  rw [← HWS.out]
  go_region
  go_wp2_with fail
  go_ret
  exact ⟨rfl, Final.of HF2.out (final_cut HM2.out)⟩

end Go.Proofs.YtbpnfoihonehgadDoor
