/-
  A number is printed.
-/
import Derived.Test.YtbpnfoihonehgadDoorJaG
import Derived.Test.YtbpnfoihonehgadDoorShelf
namespace Go.Proofs.YtbpnfoihonehgadDoor
open Go.RowKit
set_option linter.unusedSimpArgs false
set_option linter.unusedVariables false

variable {w : World} {col : Nat → Nat} {B m mp : Nat} {vf : Value} {fs : List Cod} {vh vl vc vv : Value} {q : Mst}

theorem below_grow (w : World) (k : Nat) (os : Array Obj) : Below w.heap.size w (Sort.grow (w.drewN k) os) := by
  refine ⟨rfl, rfl, rfl, by simp [Sort.grow], fun i hi => ?_⟩
  show (w.heap ++ os)[i]? = w.heap[i]?
  rw [Array.getElem?_append_left hi]

theorem itoa_any (n : Int) (hn : I64 n) (w : World) (h : TabP w) : Calls Tryd.prog 8 #[.int .i64 n] w fun e w' => e = .returned (strV (Lib.itoa n)) ∧ Below w.heap.size w w' := by
  refine (Tryd.strconv_Itoa n hn.1 (by have := hn.2; omega) w h).mono ?_
  rintro e w1 ⟨rfl, k, os, rfl⟩
  exact ⟨rfl, below_grow w k os⟩

set_option maxHeartbeats 1000000 in
set_option maxRecDepth 20000 in
theorem line_any (h : Mach w col B m mp vf fs vh vl vc vv q) (i : Ins) (vd va vt : Value) (hd : ∃ a n k, vd = .slice a n k) (ha : Nums B w va i.ar) (ht : ∃ a n k, vt = .slice a n k) (a x : Int) (h0 : i.ar[0]? = some a) (hx : getM q a = some x) (hs : (i.s == tInt) = true) :
    Calls Tryd.prog 46 #[.pointer (some ⟨m, 0, none⟩), insV i vd va vt] w fun e w' => e = .returned (.tuple #[strV (Lib.itoa x), .bool true]) ∧ Below w.heap.size w w' := by
  have HH : Hid (Mach w col B m mp vf fs vh vl vc vv q) := h
  obtain ⟨ad, nd, kd, rfl⟩ := hd
  obtain ⟨at', nt, kt, rfl⟩ := ht
  obtain ⟨aa, ka, rfl⟩ := Lies.slice ha
  obtain ⟨ga, o, cs, rfl, hga, _, hP, hcell⟩ := Lies.at ha h0
  obtain ⟨rfl, _⟩ := hP
  have hgw : ga < w.heap.size := Nat.lt_of_lt_of_le hga h.bw
  have q0 := hcell 0 (by decide)
  simp at q0
  have hlen : 0 < i.ar.length := (List.getElem?_eq_some_iff.1 h0).1
  have HX : Hid (getM q a = some x) := hx
  have HI : Hid (I64 x) := by
    unfold getM at hx
    by_cases hz : 0 ≤ a
    · rw [if_pos hz] at hx; exact h.iv x (List.mem_of_getElem? hx)
    · rw [if_neg hz] at hx; cases hx
  have hs' : i.s = tInt := by simpa using hs
  obtain ⟨op, ds, ar, nn, s, to⟩ := i
  simp only at hs' hlen h0
  subst hs'
  unfold insV tInt
  simp only
  obtain ⟨N, hN⟩ : ∃ N, N = ar.length := ⟨_, rfl⟩
  rw [← hN] at hlen ⊢
  have hlenI : (0 : Int) < (N : Int) := by omega
  obtain ⟨W, hW⟩ : ∃ W, W = w.alloc (.cells #[.int .i64 op, .slice ad nd kd, .slice (some ⟨ga, o, none⟩) N ka, .int .i64 nn, .string ⟨(#[105, 110, 116] : Array UInt8)⟩, .slice at' nt kt] 25) := ⟨_, rfl⟩
  have HWB : Hid (Below w.heap.size w W) := by rw [hW]; exact below_alloc _ _
  have HWS : Hid (W = _) := hW
  have HC : Hid (W.heap[w.heap.size]? = some (.cells #[.int .i64 op, .slice ad nd kd, .slice (some ⟨ga, o, none⟩) N ka, .int .i64 nn, .string ⟨(#[105, 110, 116] : Array UInt8)⟩, .slice at' nt kt] 25)) := by rw [hW]; exact heap_alloc_new w _
  have hWsz : W.heap.size = w.heap.size + 1 := by rw [hW]; simp
  clear h ha hcell h0 hx hN hs hlen hW
  go_enter Tryd.func46, Tryd.ntmps46
  go_wp2_with fail
  rw [← HWS.out]
  refine (getM_any (HH.out.keep HWB.out) a x HX.out).mono ?_
  rintro e w1 ⟨rfl, n1, rfl⟩
  have p := cells6 HC.out
  go_wp2_with fail
  refine (itoa_any x HI.out _ ((HH.out.tp.below HH.out.gB (HWB.out.mono HH.out.bw)).below HH.out.gB (below_drewN W B n1))).mono ?_
  rintro e w2 ⟨rfl, hb2⟩
  have HB2 : Hid (Below w.heap.size w w2) := below_after HWB.out (below_after (below_drewN W _ n1) hb2)
  unfold strV
  go_wp2_with fail
  go_ret2
  exact ⟨rfl, HB2.out⟩

end Go.Proofs.YtbpnfoihonehgadDoor
