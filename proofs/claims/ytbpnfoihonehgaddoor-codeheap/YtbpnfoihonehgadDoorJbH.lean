/-
  posternkeep.CodeHeap's walk.
-/
import Derived.Test.YtbpnfoihonehgadDoorJbH0
import Derived.Deep.RegionHeld3
namespace Go.Proofs.YtbpnfoihonehgadDoor
open Go.RowKit
set_option linter.unusedSimpArgs false
set_option linter.unusedVariables false

theorem itoa_two : Lib.itoa 2 = [50] := by decide +kernel

set_option maxHeartbeats 8000000 in
set_option maxRecDepth 20000 in
theorem codeHeap_walk (n at_ v : Int) (hn : I64 n) (hat : I64 at_) (hv : I64 v) (w : World) (hT : TabC w) (hP : TabP w) (hG : 1 < w.heap.size) (hG2 : 0 < w.heap.size) :
    Calls Tryd.prog 3 #[.int .i64 n, .int .i64 at_, .int .i64 v] w fun e w' => e = .returned (.bool true) ∧ Below w.heap.size w w' := by
  obtain ⟨p, hp⟩ : ∃ p : Nat, pickI n 20 = (p : Int) := ⟨(pickI n 20).toNat, by unfold pickI; omega⟩
  have hp20 : (p : Int) < 20 := by unfold pickI at hp; omega
  have HP1 : Hid (∀ w' : World, Calls Tryd.prog 4 #[.int .i64 n, .int .i64 20] w' fun e w'' => e = .returned (.int .i64 (p : Int)) ∧ w'' = w') := fun w' => hp ▸ picked_any n 20 hn (by decide) (by decide) w'
  obtain ⟨a, ha⟩ : ∃ a : Nat, pickI at_ (2 * (1 + (p : Int))) = (a : Int) := ⟨(pickI at_ (2 * (1 + (p : Int)))).toNat, by
    unfold pickI
    have := Int.emod_nonneg (if at_ < 0 then -(at_ + 1) else at_) (b := 2 * (1 + (p : Int))) (by omega)
    omega⟩
  have ha40 : (a : Int) < 2 * (1 + (p : Int)) := by
    unfold pickI at ha
    have := Int.emod_lt_of_pos (if at_ < 0 then -(at_ + 1) else at_) (b := 2 * (1 + (p : Int))) (by omega)
    omega
  have HP2 : Hid (∀ w' : World, Calls Tryd.prog 4 #[.int .i64 at_, .int .i64 (2 * (1 + (p : Int)))] w' fun e w'' => e = .returned (.int .i64 (a : Int)) ∧ w'' = w') := fun w' => ha ▸ picked_any at_ _ hat (by omega) (by omega) w'
  have HV : Hid (I64 v) := hv
  have HT : Hid (TabC w) := hT
  have HTP : Hid (TabP w) := hP
  obtain ⟨q1, hr1⟩ := heap_great (1 + (p : Int)) v (a : Int) (by omega) (by omega) (by omega) (by omega) (3 + p) (by push_cast; omega)
  obtain ⟨q2, hr2, hl2⟩ := heap_small (1 + (p : Int)) v (a : Int) (by omega) (by omega) (2 + p) (by push_cast; omega)
  have HR1 : Hid (if (a : Int) < 1 + (p : Int) then runM 20 (heap0 (3 + p) (1 + (p : Int)) v (a : Int)) = some (1, q1) ∧ q1.lines = [Lib.itoa 2, Lib.itoa v] else runM 20 (heap0 (3 + p) (1 + (p : Int)) v (a : Int)) = some (2, q1) ∧ q1.lines = [Lib.itoa 2]) := hr1
  have HR2 : Hid (runM 20 (heap0 (2 + p) (1 + (p : Int)) v (a : Int)) = some (5, q2) ∧ q2.lines = []) := ⟨hr2, hl2⟩
  have hp0 : (0 : Int) ≤ (p : Int) := by omega
  have ha0 : (0 : Int) ≤ (a : Int) := by omega
  clear hn hat hv hT hP hp ha hr1 hr2 hl2
  go_enter Tryd.func3, Tryd.ntmps3
  go_wp2_with fail
  refine Calls.mono (HP1.out w) ?_
  rintro e w0 ⟨rfl, hw0⟩
  have hw0' := hw0.symm
  subst hw0'
  go_wp2_with fail
  refine Calls.mono (HP2.out w) ?_
  rintro e w0 ⟨rfl, hw0⟩
  have hw0' := hw0.symm
  subst hw0'
  go_wp2_with fail
  refine Calls.mono (c_any _ _ _) ?_
  rintro e w1 ⟨rfl, rfl⟩
  unfold insO slN
  go_wp2_with fail
  refine Calls.mono (c_any _ _ _) ?_
  rintro e w1 ⟨rfl, rfl⟩
  unfold insO slN
  go_wp2_with fail
  show Calls _ _ _ (allocs w (heapO w.heap.size (1 + (p : Int)) v (a : Int))) _
  obtain ⟨W, hW⟩ : ∃ W, W = allocs w (heapO w.heap.size (1 + (p : Int)) v (a : Int)) := ⟨_, rfl⟩
  have HL : Hid (HeapL W w.heap.size (1 + (p : Int)) v (a : Int)) := ⟨fun i o ho => by rw [hW]; exact allocs_at _ w i o ho⟩
  have HWZ : Hid (W.heap.size = w.heap.size + 16) := by rw [hW]; exact allocs_size _ _
  have HBW : Hid (Below w.heap.size w W) := by rw [hW]; exact allocs_below _ _
  rw [← hW]
  clear hW
  have HTW : Hid (TabC W ∧ TabP W) := ⟨TabC.below HT.out hG HBW.out, HTP.out.below hG2 HBW.out⟩
  have HI : Hid (I64 (1 + (p : Int)) ∧ I64 (a : Int)) := ⟨⟨by omega, by omega⟩, ⟨by omega, by omega⟩⟩
  by_cases hak : (a : Int) < 1 + (p : Int)
  · rw [if_pos hak] at HR1
    have HRa : Hid (_) := ranHeap (room := 3 + p) HL.out (by have := HWZ.out; omega) HI.out.1 HV.out HI.out.2 HTW.out.1 HTW.out.2 hG hG2 (by omega) (by omega) HR1.out.1
    rw [HR1.out.2] at HRa
    have hra : ((3 + p : Nat) : Int) = 2 + (1 + (p : Int)) := by push_cast; omega
    rw [hra] at HRa
    clear hra
    refine Calls.mono HRa.out ?_
    rintro e w2 ⟨vl1, B1, rfl, ho1, hb2⟩
    obtain ⟨g1, k1, rfl, _, hg1, _, _, _, hc1⟩ := own_at ho1 (by show 0 < 2; decide)
    rw [show ([Lib.itoa 2, Lib.itoa v] : List (List UInt8)).length = 2 from rfl]
    have HB2 : Hid (Below W.heap.size W w2) := hb2
    have HD0 : Hid (w2.cell? ⟨g1, 0, none⟩ = some (.string ⟨#[50]⟩)) := (hc1 0 _ rfl).trans (by rw [itoa_two]; rfl)
    have HD1 : Hid (w2.cell? ⟨g1, 1, none⟩ = some (.string ⟨(Lib.itoa v).toArray⟩)) := hc1 1 _ rfl
    have HG1 : Hid (g1 < w2.heap.size) := hg1
    clear ho1 hb2 hc1 hg1 HRa HR1
    obtain ⟨V, hV⟩ : ∃ V, V = w2.alloc (.cells #[.slice (some ⟨g1, 0, none⟩) 2 k1, .int .i64 1] 36) := ⟨_, rfl⟩
    have HVS : Hid (V = _) := hV
    have HVB : Hid (Below w2.heap.size w2 V) := by rw [hV]; exact below_alloc _ _
    have HCR : Hid (V.heap[w2.heap.size]? = some (.cells #[.slice (some ⟨g1, 0, none⟩) 2 k1, .int .i64 1] 36)) := by rw [hV]; exact heap_alloc_new _ _
    have HWV : Hid (Below W.heap.size W V) := below_after HB2.out HVB.out
    have c15 := cells2 ((HWV.out.block (w.heap.size + 15) (by have := HWZ.out; omega)).trans (HL.out.at_ 15 _ rfl))
    have c15b : V.cell? ⟨w.heap.size + 1 + 1 + 1 + 1 + 1 + 1 + 1 + 1 + 1 + 1 + 1 + 1 + 1 + 1 + 1, 0, none⟩ = some (.slice (some ⟨w.heap.size + 14, 0, none⟩) 1 1) ∧ V.cell? ⟨w.heap.size + 1 + 1 + 1 + 1 + 1 + 1 + 1 + 1 + 1 + 1 + 1 + 1 + 1 + 1 + 1, 1, none⟩ = some (.slice (some ⟨w.heap.size, 0, none⟩) 2 2) := c15
    have hlt15 : w.heap.size + 15 < w2.heap.size := by have := HWZ.out; have := HB2.out.size; omega
    rw [hV] at c15 c15b
    clear hV
    have HLV : Hid (HeapL V w.heap.size (1 + (p : Int)) v (a : Int)) := ⟨fun i o ho => (HWV.out.block _ (by have := HWZ.out; have := (List.getElem?_eq_some_iff.1 ho).1; have h16 : (heapO w.heap.size (1 + (p : Int)) v (a : Int)).length = 16 := rfl; omega)).trans (HL.out.at_ i o ho)⟩
    have HTV : Hid (TabC V ∧ TabP V) := ⟨TabC.below HT.out hG (below_after HBW.out HWV.out), HTP.out.below hG2 (below_after HBW.out HWV.out)⟩
    go_wp2_with fail
    rw [← HVS.out]
    clear c15 c15b
    have HRb : Hid (_) := ranHeap (room := 2 + p) HLV.out (by have := HWZ.out; have := HWV.out.size; omega) HI.out.1 HV.out HI.out.2 HTV.out.1 HTV.out.2 hG hG2 (by omega) (by omega) HR2.out.1
    rw [HR2.out.2] at HRb
    have hrb : ((2 + p : Nat) : Int) = 1 + (1 + (p : Int)) := by push_cast; omega
    rw [hrb] at HRb
    clear hrb
    refine Calls.mono HRb.out ?_
    rintro e w4 ⟨vl2, B2, rfl, ho2, hb4⟩
    obtain ⟨a2, k2, rfl⟩ := own_slice ho2
    rw [show ([] : List (List UInt8)).length = 0 from rfl]
    have HB4 : Hid (Below V.heap.size V w4) := hb4
    clear ho2 hb4 HRb HR2
    obtain ⟨U, hU⟩ : ∃ U, U = w4.alloc (.cells #[.slice a2 0 k2, .int .i64 5] 36) := ⟨_, rfl⟩
    have HUS : Hid (U = _) := hU
    have HUB : Hid (Below w4.heap.size w4 U) := by rw [hU]; exact below_alloc _ _
    have HCF : Hid (U.heap[w4.heap.size]? = some (.cells #[.slice a2 0 k2, .int .i64 5] 36)) := by rw [hU]; exact heap_alloc_new _ _
    have HVU : Hid (Below V.heap.size V U) := below_after HB4.out HUB.out
    have hVl : w2.heap.size < V.heap.size := lt_of_block HCR.out
    have HBU : Hid (Below w.heap.size w U) := below_after HBW.out (below_after HWV.out HVU.out)
    have d1 := cells2 ((HVU.out.block _ hVl).trans HCR.out)
    have d2 := cells2 HCF.out
    have d3 : U.cell? ⟨g1, 0, none⟩ = some (.string ⟨#[50]⟩) := (HVU.out.cell (p := ⟨g1, 0, none⟩) (by show g1 < V.heap.size; have := HG1.out; omega)).trans ((HVB.out.cell (p := ⟨g1, 0, none⟩) HG1.out).trans HD0.out)
    have hw2w4 : w2.heap.size < w4.heap.size := by have := HB4.out.size; omega
    have hg1w4 : g1 < w4.heap.size := by have := HG1.out; omega
    have hge : ¬ 1 + (p : Int) ≤ (a : Int) := by omega
    have HTX : Hid (∀ w' : World, Below U.heap.size U w' → w'.cell? ⟨g1, 0, none⟩ = some (.string ⟨#[50]⟩) ∧ w'.cell? ⟨g1, 1, none⟩ = some (.string ⟨(Lib.itoa v).toArray⟩)) := fun w' hd =>
      ⟨(hd.cell (p := ⟨g1, 0, none⟩) (by show g1 < U.heap.size; have := HUB.out.size; omega)).trans d3, (hd.cell (p := ⟨g1, 1, none⟩) (by show g1 < U.heap.size; have := HUB.out.size; omega)).trans ((HVU.out.cell (p := ⟨g1, 1, none⟩) (by show g1 < V.heap.size; have := HG1.out; omega)).trans ((HVB.out.cell (p := ⟨g1, 1, none⟩) HG1.out).trans HD1.out))⟩
    have hw2U : w2.heap.size < U.heap.size := by have := HUB.out.size; omega
    have HSS : Hid (∀ w' : World, Below U.heap.size U w' → w'.cell? ⟨w2.heap.size, 0, none⟩ = some (.slice (some ⟨g1, 0, none⟩) 2 k1) ∧ w'.cell? ⟨w2.heap.size, 1, none⟩ = some (.int .i64 1)) := fun w' hd => cells2 ((hd.block _ hw2U).trans ((HVU.out.block _ hVl).trans HCR.out))
    have HE0 : Hid (Below U.heap.size U U.drew) := ⟨rfl, rfl, rfl, Nat.le_refl _, fun _ _ => rfl⟩
    have hS0 := HSS.out U.drew HE0.out
    have HIT : Hid (∀ w' : World, Below U.heap.size U w' → Calls Tryd.prog 8 #[.int .i64 v] w' fun e w'' => e = .returned (.string ⟨(Lib.itoa v).toArray⟩) ∧ Below w'.heap.size w' w'') := fun w' hd => itoa_any v HV.out w' ((HTP.out.below hG2 HBU.out).below (by have := HBU.out.size; omega) hd)
    rw [hU] at d1 d2 d3
    clear hU
    go_wp2_with fail
    rw [← HUS.out]
    clear d1 d2 d3
    go_region_held3 (fun w' => w'.cell? ⟨w2.heap.size, 0, none⟩ = some (.slice (some ⟨g1, 0, none⟩) 2 k1) ∧ w'.cell? ⟨w2.heap.size, 1, none⟩ = some (.int .i64 1)) (first | exact hS0 | exact hS1 | exact hS2 | exact HSS.out _ (below_after HE1.out (below_alloc _ _)))
      (first
        | (go_at_call 8; refine Calls.mono (HIT.out _ HE0.out) ?_; rintro e w5 ⟨rfl, hb5⟩; have HE1 : Hid (Below U.heap.size U w5) := below_after HE0.out hb5; have hS1 := HSS.out w5 HE1.out; clear hb5)
        | (go_at_call 7; refine Calls.mono (equal_two g1 k1 w5.heap.size 2 ⟨#[50]⟩ ⟨(Lib.itoa v).toArray⟩ _ (HTX.out _ (below_after HE1.out (below_alloc _ _))).1 (HTX.out _ (below_after HE1.out (below_alloc _ _))).2 (cells2 (heap_alloc_new w5 _)).1 (cells2 (heap_alloc_new w5 _)).2) ?_; rintro e w6 ⟨rfl, n6, hw6⟩; have HE2 : Hid (Below U.heap.size U w6) := by { rw [hw6]; exact below_after (below_after HE1.out (below_alloc _ _)) (below_drewN _ _ n6) }; have hS2 := HSS.out w6 HE2.out; clear hw6))
    go_wp2_with fail
    go_ret
    exact ⟨rfl, below_after HBU.out HE2.out⟩
  · rw [if_neg hak] at HR1
    have HRa : Hid (_) := ranHeap (room := 3 + p) HL.out (by have := HWZ.out; omega) HI.out.1 HV.out HI.out.2 HTW.out.1 HTW.out.2 hG hG2 (by omega) (by omega) HR1.out.1
    rw [HR1.out.2] at HRa
    have hra : ((3 + p : Nat) : Int) = 2 + (1 + (p : Int)) := by push_cast; omega
    rw [hra] at HRa
    clear hra
    refine Calls.mono HRa.out ?_
    rintro e w2 ⟨vl1, B1, rfl, ho1, hb2⟩
    obtain ⟨g1, k1, rfl, _, hg1, _, _, _, hc1⟩ := own_at ho1 (by show 0 < 1; decide)
    rw [show ([Lib.itoa 2] : List (List UInt8)).length = 1 from rfl]
    have HB2 : Hid (Below W.heap.size W w2) := hb2
    have HD0 : Hid (w2.cell? ⟨g1, 0, none⟩ = some (.string ⟨#[50]⟩)) := (hc1 0 _ rfl).trans (by rw [itoa_two]; rfl)

    have HG1 : Hid (g1 < w2.heap.size) := hg1
    clear ho1 hb2 hc1 hg1 HRa HR1
    obtain ⟨V, hV⟩ : ∃ V, V = w2.alloc (.cells #[.slice (some ⟨g1, 0, none⟩) 1 k1, .int .i64 2] 36) := ⟨_, rfl⟩
    have HVS : Hid (V = _) := hV
    have HVB : Hid (Below w2.heap.size w2 V) := by rw [hV]; exact below_alloc _ _
    have HCR : Hid (V.heap[w2.heap.size]? = some (.cells #[.slice (some ⟨g1, 0, none⟩) 1 k1, .int .i64 2] 36)) := by rw [hV]; exact heap_alloc_new _ _
    have HWV : Hid (Below W.heap.size W V) := below_after HB2.out HVB.out
    have c15 := cells2 ((HWV.out.block (w.heap.size + 15) (by have := HWZ.out; omega)).trans (HL.out.at_ 15 _ rfl))
    have c15b : V.cell? ⟨w.heap.size + 1 + 1 + 1 + 1 + 1 + 1 + 1 + 1 + 1 + 1 + 1 + 1 + 1 + 1 + 1, 0, none⟩ = some (.slice (some ⟨w.heap.size + 14, 0, none⟩) 1 1) ∧ V.cell? ⟨w.heap.size + 1 + 1 + 1 + 1 + 1 + 1 + 1 + 1 + 1 + 1 + 1 + 1 + 1 + 1 + 1, 1, none⟩ = some (.slice (some ⟨w.heap.size, 0, none⟩) 2 2) := c15
    have hlt15 : w.heap.size + 15 < w2.heap.size := by have := HWZ.out; have := HB2.out.size; omega
    rw [hV] at c15 c15b
    clear hV
    have HLV : Hid (HeapL V w.heap.size (1 + (p : Int)) v (a : Int)) := ⟨fun i o ho => (HWV.out.block _ (by have := HWZ.out; have := (List.getElem?_eq_some_iff.1 ho).1; have h16 : (heapO w.heap.size (1 + (p : Int)) v (a : Int)).length = 16 := rfl; omega)).trans (HL.out.at_ i o ho)⟩
    have HTV : Hid (TabC V ∧ TabP V) := ⟨TabC.below HT.out hG (below_after HBW.out HWV.out), HTP.out.below hG2 (below_after HBW.out HWV.out)⟩
    go_wp2_with fail
    rw [← HVS.out]
    clear c15 c15b
    have HRb : Hid (_) := ranHeap (room := 2 + p) HLV.out (by have := HWZ.out; have := HWV.out.size; omega) HI.out.1 HV.out HI.out.2 HTV.out.1 HTV.out.2 hG hG2 (by omega) (by omega) HR2.out.1
    rw [HR2.out.2] at HRb
    have hrb : ((2 + p : Nat) : Int) = 1 + (1 + (p : Int)) := by push_cast; omega
    rw [hrb] at HRb
    clear hrb
    refine Calls.mono HRb.out ?_
    rintro e w4 ⟨vl2, B2, rfl, ho2, hb4⟩
    obtain ⟨a2, k2, rfl⟩ := own_slice ho2
    rw [show ([] : List (List UInt8)).length = 0 from rfl]
    have HB4 : Hid (Below V.heap.size V w4) := hb4
    clear ho2 hb4 HRb HR2
    obtain ⟨U, hU⟩ : ∃ U, U = w4.alloc (.cells #[.slice a2 0 k2, .int .i64 5] 36) := ⟨_, rfl⟩
    have HUS : Hid (U = _) := hU
    have HUB : Hid (Below w4.heap.size w4 U) := by rw [hU]; exact below_alloc _ _
    have HCF : Hid (U.heap[w4.heap.size]? = some (.cells #[.slice a2 0 k2, .int .i64 5] 36)) := by rw [hU]; exact heap_alloc_new _ _
    have HVU : Hid (Below V.heap.size V U) := below_after HB4.out HUB.out
    have hVl : w2.heap.size < V.heap.size := lt_of_block HCR.out
    have HBU : Hid (Below w.heap.size w U) := below_after HBW.out (below_after HWV.out HVU.out)
    have d1 := cells2 ((HVU.out.block _ hVl).trans HCR.out)
    have d2 := cells2 HCF.out
    have d3 : U.cell? ⟨g1, 0, none⟩ = some (.string ⟨#[50]⟩) := (HVU.out.cell (p := ⟨g1, 0, none⟩) (by show g1 < V.heap.size; have := HG1.out; omega)).trans ((HVB.out.cell (p := ⟨g1, 0, none⟩) HG1.out).trans HD0.out)
    have hw2w4 : w2.heap.size < w4.heap.size := by have := HB4.out.size; omega
    have hg1w4 : g1 < w4.heap.size := by have := HG1.out; omega
    have hge : 1 + (p : Int) ≤ (a : Int) := by omega
    rw [hU] at d1 d2 d3
    clear hU
    go_wp2_with fail
    go_ret
    exact ⟨rfl, HUS.out ▸ HBU.out⟩

end Go.Proofs.YtbpnfoihonehgadDoor
