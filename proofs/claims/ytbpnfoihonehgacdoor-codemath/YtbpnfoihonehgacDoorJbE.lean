/-
  posternkeep.CodeMath's walk.
-/
import Derived.Test.YtbpnfoihonehgacDoorJbE0
import Derived.Deep.RegionHeld3
namespace Go.Proofs.YtbpnfoihonehgacDoor
open Go.RowKit
set_option linter.unusedSimpArgs false
set_option linter.unusedVariables false

def mathOps : List (List UInt8) := [[43], [45], [42], [60], [60, 61], [61, 61], [33, 61], [62], [62, 61]]
def wantL (a b : Int) : List Int := [wrap64 (a + b), wrap64 (a - b), wrap64 (a * b), truthI (decide (a < b)), truthI (decide (a ≤ b)), truthI (a == b), truthI (a != b), truthI (decide (b < a)), truthI (decide (b ≤ a))]

theorem truth_i64 (c : Bool) : I64 (truthI c) := by cases c <;> exact ⟨by decide, by decide⟩

theorem math_ok (a b : Int) (K : Nat) (hK : K < 9) : ∃ s x, mathOps[K]? = some s ∧ (mathB s = true ∧ s.length ≤ 100) ∧ oneR s a b = 1 ∧ oneP s a b = [Lib.itoa x] ∧ (wantL a b)[K]? = some x ∧ I64 x := by
  match K, hK with
  | 0, _ => exact ⟨_, _, rfl, ⟨rfl, by decide⟩, rfl, rfl, rfl, wrap_i64 _⟩
  | 1, _ => exact ⟨_, _, rfl, ⟨rfl, by decide⟩, rfl, rfl, rfl, wrap_i64 _⟩
  | 2, _ => exact ⟨_, _, rfl, ⟨rfl, by decide⟩, rfl, rfl, rfl, wrap_i64 _⟩
  | 3, _ => exact ⟨_, _, rfl, ⟨rfl, by decide⟩, rfl, rfl, rfl, truth_i64 _⟩
  | 4, _ => exact ⟨_, _, rfl, ⟨rfl, by decide⟩, rfl, rfl, rfl, truth_i64 _⟩
  | 5, _ => exact ⟨_, _, rfl, ⟨rfl, by decide⟩, rfl, rfl, rfl, truth_i64 _⟩
  | 6, _ => exact ⟨_, _, rfl, ⟨rfl, by decide⟩, rfl, rfl, rfl, truth_i64 _⟩
  | 7, _ => exact ⟨_, _, rfl, ⟨rfl, by decide⟩, rfl, rfl, rfl, truth_i64 _⟩
  | 8, _ => exact ⟨_, _, rfl, ⟨rfl, by decide⟩, rfl, rfl, rfl, truth_i64 _⟩

def opsO : Obj := .cells #[.string ⟨#[43]⟩, .string ⟨#[45]⟩, .string ⟨#[42]⟩, .string ⟨#[60]⟩, .string ⟨#[60, 61]⟩, .string ⟨#[61, 61]⟩, .string ⟨#[33, 61]⟩, .string ⟨#[62]⟩, .string ⟨#[62, 61]⟩] 9

theorem ops_cell {W : World} {g K : Nat} {s : List UInt8} (h : W.heap[g]? = some opsO) (hs : mathOps[K]? = some s) : W.cell? ⟨g, K, none⟩ = some (.string ⟨s.toArray⟩) := by
  unfold opsO at h
  rw [cell_at h]
  have hK : K < 9 := (List.getElem?_eq_some_iff.1 hs).1
  match K, hK, hs with
  | 0, _, hs => cases hs; rfl
  | 1, _, hs => cases hs; rfl
  | 2, _, hs => cases hs; rfl
  | 3, _, hs => cases hs; rfl
  | 4, _, hs => cases hs; rfl
  | 5, _, hs => cases hs; rfl
  | 6, _, hs => cases hs; rfl
  | 7, _, hs => cases hs; rfl
  | 8, _, hs => cases hs; rfl

theorem nums_cell {W : World} {g K : Nat} {l : List Int} {x : Int} (h : W.heap[g]? = some (.cells (numsL l).toArray 3)) (hs : l[K]? = some x) : W.cell? ⟨g, K, none⟩ = some (.int .i64 x) := by
  rw [cell_at h]
  simp [numsL, numV, hs]

set_option maxHeartbeats 4000000 in
set_option maxRecDepth 20000 in
theorem codeMath_walk (a b which : Int) (ha : I64 a) (hb : I64 b) (hwh : I64 which) (w : World) (hT : TabC w) (hP : TabP w) (hG : 3 < w.heap.size) (hG2 : 2 < w.heap.size) :
    Calls Tryd.prog 6 #[.int .i64 a, .int .i64 b, .int .i64 which] w fun e w' => e = .returned (.bool true) ∧ Below w.heap.size w w' := by
  obtain ⟨K, hK⟩ : ∃ K : Nat, pickI which 9 = (K : Int) := ⟨(pickI which 9).toNat, by unfold pickI; omega⟩
  have hK9 : K < 9 := by unfold pickI at hK; omega
  have HPK : Hid (_) := fun w' => picked_any which 9 hwh (by decide) (by decide) w'
  rw [hK] at HPK
  obtain ⟨s, x, hs, ⟨hm, hl⟩, hr, hp, hx, hxi⟩ := math_ok a b K hK9
  have HS : Hid (mathOps[K]? = some s) := hs
  have HX : Hid ((wantL a b)[K]? = some x) := hx
  have HXI : Hid (I64 x) := hxi
  have HP : Hid (TabP w) := hP
  have HR : Hid (∀ w' : World, Below w.heap.size w w' → Calls Tryd.prog 12 #[.agg #[.slice (some ⟨w'.heap.size + 8, 0, none⟩) 1 1, .slice none 0 0], .int .i64 0, .int .i64 9] (allocs w' (oneO w'.heap.size s a b)) fun e w'' => ∃ vl B, e = .returned (.tuple #[.agg #[vl, .int .i64 1], .int .i64 0]) ∧ w''.ownsRow B 9 1 vl 1 (strsL [Lib.itoa x]) ∧ Below w'.heap.size w' w'') := by
    intro w' hb'
    have := ranOne s a b w' hm hl ha hb (TabC.below hT hG hb') (hP.below hG2 hb') (Nat.lt_of_lt_of_le hG hb'.size) (Nat.lt_of_lt_of_le hG2 hb'.size)
    rw [hr, hp] at this
    exact this
  have hmm := @run_makeMap Tryd.prog
  have i1 := ins_truth (w.alloc opsO)
  have hz1 : (w.alloc opsO).heap.size = w.heap.size + 1 := by simp
  rw [hz1] at i1
  have lk := fun c : Bool => look_truth ((w.alloc opsO).alloc (.map truthEs 1)) (w.heap.size + 1) c (heap_alloc2 w _ _).2
  have hKI : (K : Int) < 9 := by omega
  obtain ⟨W, hW⟩ : ∃ W, W = ((w.alloc opsO).alloc (.map truthEs 1)).alloc (.cells #[.int .i64 (wrap64 (a + b)), .int .i64 (wrap64 (a - b)), .int .i64 (wrap64 (a * b)), .int .i64 (truthI (decide (a < b))), .int .i64 (truthI (decide (a ≤ b))), .int .i64 (truthI (a == b)), .int .i64 (truthI (a != b)), .int .i64 (truthI (decide (b < a))), .int .i64 (truthI (decide (b ≤ a)))] 3) := ⟨_, rfl⟩
  have HWB : Hid (Below w.heap.size w W) := by rw [hW]; exact below_after (below_after (below_alloc _ _) (below_alloc _ _)) (below_alloc _ _)
  have HC0 : Hid (W.heap[w.heap.size]? = some opsO) := by rw [hW]; exact blk_alloc (heap_alloc2 w _ _).1 _
  have HC2 : Hid (W.heap[w.heap.size + 2]? = some (.cells (numsL (wantL a b)).toArray 3)) := by
    unfold Hid
    rw [hW]
    have := heap_alloc_new ((w.alloc opsO).alloc (.map truthEs 1)) (.cells (numsL (wantL a b)).toArray 3)
    simpa [numsL, wantL, numV] using this
  have hWlt : w.heap.size + 2 < W.heap.size := lt_of_block HC2.out
  have HWS : Hid (W = _) := hW
  unfold opsO at HWS i1 lk
  clear hW hs hm hl hr hp hx hxi hT hP ha hb hwh hz1 hK hK9
  go_enter Tryd.func6, Tryd.ntmps6
  go_wp2_with fail
  rw [← HWS.out]
  clear i1 lk hmm HWS
  refine Calls.mono (HPK.out W) ?_
  rintro e w0 ⟨rfl, hw0⟩
  have hw0' := hw0.symm
  subst hw0'
  have cS := ops_cell HC0.out HS.out
  go_wp2_with fail
  refine Calls.mono (one_any s a b W) ?_
  rintro e w1 ⟨rfl, hw1⟩
  have HW1 : Hid (w1 = _) := hw1
  clear hw1 cS
  unfold prgV slN
  go_wp2_with fail
  rw [HW1.out]
  refine Calls.mono (HR.out W HWB.out) ?_
  rintro e w2 ⟨vl, B, rfl, ho, hb2⟩
  obtain ⟨g1, k1, rfl, _, hg1, _, _, _, hc1⟩ := own_at ho (by decide)
  have HB2 : Hid (Below W.heap.size W w2) := hb2
  have HD : Hid (w2.cell? ⟨g1, 0, none⟩ = some (.string ⟨(Lib.itoa x).toArray⟩)) := hc1 0 _ rfl
  have s2 := hb2.size
  have HG1 : Hid (g1 < w2.heap.size) := hg1
  clear ho hb2 hc1 HW1 hg1
  obtain ⟨V, hV⟩ : ∃ V, V = w2.alloc (.cells #[.slice (some ⟨g1, 0, none⟩) 1 k1, .int .i64 1] 36) := ⟨_, rfl⟩
  have HVS : Hid (V = _) := hV
  have HVB : Hid (Below w2.heap.size w2 V) := by rw [hV]; exact below_alloc _ _
  have HCR : Hid (V.heap[w2.heap.size]? = some (.cells #[.slice (some ⟨g1, 0, none⟩) 1 k1, .int .i64 1] 36)) := by rw [hV]; exact heap_alloc_new _ _
  have HWV : Hid (Below W.heap.size W V) := below_after HB2.out HVB.out
  have hVlt : w2.heap.size < V.heap.size := lt_of_block HCR.out
  have HSS : Hid (∀ w' : World, Below V.heap.size V w' → (w'.cell? ⟨w2.heap.size, 0, none⟩ = some (.slice (some ⟨g1, 0, none⟩) 1 k1) ∧ w'.cell? ⟨w2.heap.size, 1, none⟩ = some (.int .i64 1)) ∧ w'.cell? ⟨w.heap.size + 2, K, none⟩ = some (.int .i64 x)) := by
    intro w' hd
    exact ⟨cells2 ((hd.block _ hVlt).trans HCR.out), nums_cell ((hd.block _ (by omega)).trans ((HWV.out.block _ hWlt).trans HC2.out)) HX.out⟩
  have HTX : Hid (∀ w' : World, Below V.heap.size V w' → w'.cell? ⟨g1, 0, none⟩ = some (.string ⟨(Lib.itoa x).toArray⟩)) := fun w' hd => (hd.cell (p := ⟨g1, 0, none⟩) (by show g1 < V.heap.size; have := HG1.out; omega)).trans ((HVB.out.cell (p := ⟨g1, 0, none⟩) HG1.out).trans HD.out)
  have HTP : Hid (TabP V) := HP.out.below hG2 (below_after HWB.out HWV.out)
  have HD0 : Hid (Below V.heap.size V V.drew) := ⟨rfl, rfl, rfl, Nat.le_refl _, fun _ _ => rfl⟩
  have hS0 := HSS.out V.drew HD0.out
  have HIT : Hid (∀ w' : World, Below V.heap.size V w' → Calls Tryd.prog 18 #[.int .i64 x] w' fun e w'' => e = .returned (.string ⟨(Lib.itoa x).toArray⟩) ∧ Below w'.heap.size w' w'') := fun w' hd => itoa_any x HXI.out w' (HTP.out.below (by have := HWB.out.size; have := HWV.out.size; omega) hd)
  clear hV
  go_wp2_with fail
  rw [← HVS.out]
  go_region_held3 (fun w' => (w'.cell? ⟨w2.heap.size, 0, none⟩ = some (.slice (some ⟨g1, 0, none⟩) 1 k1) ∧ w'.cell? ⟨w2.heap.size, 1, none⟩ = some (.int .i64 1)) ∧ w'.cell? ⟨w.heap.size + 2, K, none⟩ = some (.int .i64 x)) (first | exact hS0 | exact hS1 | exact hS2 | exact HSS.out _ (below_after HD1.out (below_alloc _ _)))
    (first
      | (go_at_call 18; refine Calls.mono (HIT.out _ HD0.out) ?_; rintro e w3 ⟨rfl, hb3⟩; have HD1 : Hid (Below V.heap.size V w3) := below_after HD0.out hb3; have hS1 := HSS.out w3 HD1.out; clear hb3)
      | (go_at_call 17; refine Calls.mono (equal_one g1 0 k1 w3.heap.size 0 1 ⟨(Lib.itoa x).toArray⟩ _ (HTX.out _ (below_after HD1.out (below_alloc _ _))) (new_cell w3 _ _)) ?_; rintro e w4 ⟨rfl, n4, hw4⟩; have HD2 : Hid (Below V.heap.size V w4) := by { rw [hw4]; exact below_after (below_after HD1.out (below_alloc _ _)) (below_drewN _ _ n4) }; have hS2 := HSS.out w4 HD2.out; clear hw4))
  go_wp2_with fail
  go_ret
  exact ⟨rfl, below_after (below_after HWB.out HWV.out) HD2.out⟩

end Go.Proofs.YtbpnfoihonehgacDoor
