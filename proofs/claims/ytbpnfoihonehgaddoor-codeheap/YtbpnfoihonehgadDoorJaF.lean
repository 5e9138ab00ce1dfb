/-
  The machine's heap.
-/
import Derived.Test.YtbpnfoihonehgadDoorJaE
import Derived.Test.YtbpnfoihonehgadDoorJaB
namespace Go.Proofs.YtbpnfoihonehgadDoor
open Go.RowKit
set_option linter.unusedSimpArgs false
set_option linter.unusedVariables false

variable {w : World} {col : Nat → Nat} {B m mp : Nat} {vf : Value} {fs : List Cod} {vh vl vc vv : Value} {q : Mst}

set_option maxHeartbeats 1000000 in
theorem place_cell (m nh : Nat) (ah : Option Addr) (kh : Nat) (x y : Int) (w : World) (h2 : w.cell? ⟨m, 2, none⟩ = some (.slice ah nh kh)) :
    Calls Tryd.prog 45 #[.pointer (some ⟨m, 0, none⟩), .int .i64 x, .int .i64 y] w fun e w' => e = .returned (.tuple #[.int .i64 (wrap64 (x + y)), .bool (decide (0 ≤ x) && (decide (0 ≤ wrap64 (x + y)) && decide (wrap64 (x + y) < (nh : Int))))]) ∧ ∃ n, w' = w.drewN n := by
  obtain ⟨z, hz⟩ : ∃ z, z = wrap64 (x + y) := ⟨_, rfl⟩
  rw [← hz]
  have hw : IntKind.i64.wrap (x + y) = z := by rw [hz, IntKind.wrap_i64]; unfold wrap64; omega
  clear hz
  by_cases g1 : 0 ≤ x
  · by_cases g2 : 0 ≤ z
    · by_cases g3 : z < (nh : Int)
      · go_enter Tryd.func45, Tryd.ntmps45
        go_wp2
        go_quiet (fail)
        go_wp2
        go_ret2
        exact ⟨by simp [g1, g2, g3], _, rfl⟩
      · go_enter Tryd.func45, Tryd.ntmps45
        go_wp2
        go_quiet (fail)
        go_wp2
        go_ret2
        exact ⟨by simp [g1, g2, g3], _, rfl⟩
    · have g2b : decide (0 ≤ z) = false := by simpa using g2
      go_enter Tryd.func45, Tryd.ntmps45
      go_wp2
      go_quiet (fail)
      go_wp2
      go_ret2
      exact ⟨by rw [g2b]; simp, _, rfl⟩
  · have g1b : decide (0 ≤ x) = false := by simpa using g1
    go_enter Tryd.func45, Tryd.ntmps45
    go_wp2
    go_quiet (fail)
    go_wp2
    go_ret2
    exact ⟨by rw [g1b]; rfl, _, rfl⟩

theorem inHeap_at {q : Mst} {x y : Int} (h : inHeap q x y = true) : 0 ≤ wrap64 (x + y) ∧ (wrap64 (x + y)).toNat < q.heap.length := by
  unfold inHeap at h
  rw [Bool.and_eq_true, Bool.and_eq_true] at h
  have h1 := of_decide_eq_true h.2.1
  have h2 := of_decide_eq_true h.2.2
  omega

set_option maxHeartbeats 1000000 in
theorem load_any (h : Mach w col B m mp vf fs vh vl vc vv q) (x y : Int) :
    Calls Tryd.prog 43 #[.pointer (some ⟨m, 0, none⟩), .int .i64 x, .int .i64 y] w fun e w' => e = .returned (pairV (loadM q x y)) ∧ ∃ n, w' = w.drewN n := by
  have h2 := h.cells.2.2.1
  have HH : Hid (Mach w col B m mp vf fs vh vl vc vv q) := h
  obtain ⟨ah, kh, rfl⟩ := own_slice h.heap
  unfold pairV loadM
  have HP := place_cell m q.heap.length ah kh x y w h2
  rw [show (decide (0 ≤ x) && (decide (0 ≤ wrap64 (x + y)) && decide (wrap64 (x + y) < (q.heap.length : Int)))) = inHeap q x y from rfl] at HP
  have HPP : Hid (_) := HP
  clear HP h
  rcases hi : inHeap q x y with _ | _
  · rw [hi] at HPP
    go_enter Tryd.func43, Tryd.ntmps43
    go_wp2_with fail
    refine Calls.mono HPP.out ?_
    rintro e w1 ⟨rfl, n, rfl⟩
    go_wp2_with fail
    go_ret2
    exact ⟨rfl, _, rfl⟩
  · rw [hi] at HPP
    obtain ⟨i0, i1⟩ := inHeap_at hi
    obtain ⟨z, hz⟩ : ∃ z, z = wrap64 (x + y) := ⟨_, rfl⟩
    rw [← hz] at HPP i0 i1 ⊢
    obtain ⟨gh, cp, hv, _, _, _, _, _, hc⟩ := own_at HH.out.heap (by omega)
    cases hv
    have hc1 := hc z.toNat (numV q.heap[z.toNat]) (numsL_get _ _ _ (List.getElem?_eq_getElem i1))
    have hgd : q.heap.getD z.toNat 0 = q.heap[z.toNat] := by simp [List.getD, List.getElem?_eq_getElem i1]
    rw [hgd]
    unfold numV at hc1
    generalize q.heap[z.toNat] = r at hc1
    have hlt : z < (q.heap.length : Int) := by omega
    clear hc hz hi hgd
    go_enter Tryd.func43, Tryd.ntmps43
    go_wp2_with fail
    refine Calls.mono HPP.out ?_
    rintro e w1 ⟨rfl, n, rfl⟩
    go_wp2_with fail
    go_ret2
    exact ⟨rfl, _, rfl⟩

set_option maxHeartbeats 1000000 in
theorem store_any (h : Mach w col B m mp vf fs vh vl vc vv q) (x y r : Int) (hr : I64 r) :
    Calls Tryd.prog 29 #[.pointer (some ⟨m, 0, none⟩), .int .i64 x, .int .i64 y, .int .i64 r] w fun e w' => e = .returned (.int .i64 (storeM q x y r).1) ∧ Mach w' col B m mp vf fs vh vl vc vv (storeM q x y r).2 ∧ Fr w col w' col := by
  have h2 := h.cells.2.2.1
  have HH : Hid (Mach w col B m mp vf fs vh vl vc vv q) := h
  obtain ⟨ah, kh, rfl⟩ := own_slice h.heap
  unfold storeM
  have HP := place_cell m q.heap.length ah kh x y w h2
  rw [show (decide (0 ≤ x) && (decide (0 ≤ wrap64 (x + y)) && decide (wrap64 (x + y) < (q.heap.length : Int)))) = inHeap q x y from rfl] at HP
  have HPP : Hid (_) := HP
  clear HP h
  rcases hi : inHeap q x y with _ | _
  · rw [hi] at HPP
    go_enter Tryd.func29, Tryd.ntmps29
    go_wp2_with fail
    refine Calls.mono HPP.out ?_
    rintro e w1 ⟨rfl, n, rfl⟩
    go_wp2_with fail
    go_ret
    exact ⟨rfl, HH.out.keep (below_drewN w _ n), fr_drewN w col n⟩
  · rw [hi] at HPP
    obtain ⟨i0, i1⟩ := inHeap_at hi
    obtain ⟨z, hz⟩ : ∃ z, z = wrap64 (x + y) := ⟨_, rfl⟩
    rw [← hz] at HPP i0 i1 ⊢
    obtain ⟨gh, cp, hv, _, _, _, _, hfz, hc⟩ := own_at HH.out.heap (by omega)
    cases hv
    have hc1 := hc z.toNat (numV q.heap[z.toNat]) (numsL_get _ _ _ (List.getElem?_eq_getElem i1))
    have hfz1 := hfz z.toNat
    unfold numV at hc1
    generalize q.heap[z.toNat] = r0 at hc1
    have hlt : z < (q.heap.length : Int) := by omega
    have HI1 : Hid (z.toNat < q.heap.length) := i1
    clear hc hz hi hfz i1
    go_enter Tryd.func29, Tryd.ntmps29
    go_wp2_with fail
    refine Calls.mono HPP.out ?_
    rintro e w1 ⟨rfl, n, rfl⟩
    go_wp2_with fail
    go_ret
    exact ⟨rfl, (HH.out.keep (below_drewN w _ n)).setWord HI1.out hr, (fr_drewN w col n).trans (fr_set _ col (by have := HH.out.ch gh rfl; omega) _)⟩

end Go.Proofs.YtbpnfoihonehgadDoor
