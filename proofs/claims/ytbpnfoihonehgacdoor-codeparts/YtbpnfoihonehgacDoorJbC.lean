/-
  posternkeep.CodeParts' walk.
-/
import Derived.Test.YtbpnfoihonehgacDoorJbB
import Derived.Test.YtbpnfoihonehgacDoorJaP
namespace Go.Proofs.YtbpnfoihonehgacDoor
open Go.RowKit
set_option linter.unusedSimpArgs false
set_option linter.unusedVariables false

theorem atoi_any (n : Int) (hn : I64 n) (w : World) : Calls Tryd.prog 19 #[strV (Lib.itoa n)] w fun e w' => e = .returned (.tuple #[.int .i64 n, .nilIface]) ∧ Below w.heap.size w w' := by
  have hl := Lib.itoa_length_le n hn.1 (by have := hn.2; omega)
  refine (Tryd.strconv_Atoi_ok ⟨(Lib.itoa n).toArray⟩ (by show (Lib.itoa n).toArray.size ≤ _; simp; omega) n (by simpa using atoi_itoa n hn.1 hn.2) w).mono ?_
  rintro e w1 ⟨rfl, h⟩
  refine ⟨rfl, ?_⟩
  rcases h with rfl | ⟨t, rfl⟩
  · exact Below.refl _ _
  · refine Lib.below_freeze ?_ (p := ⟨w.heap.size, (Lib.bytesCells w 5 t).size, none⟩) (Nat.le_refl _) _
    exact ((Below.refl _ w).drew).alloc (Nat.le_refl _) _

theorem parts_back (a b : Int) (ha : I64 a) (hb0 : b ≠ 0) : wrap64 (wrap64 (wrap64 (a.tdiv b) * b) + a.tmod b) = a := by
  have h := Int.mul_tdiv_add_tmod a b
  have e : ∀ x y : Int, wrap64 (wrap64 x + y) = wrap64 (x + y) := fun x y => by unfold wrap64; omega
  have m : wrap64 (wrap64 (a.tdiv b) * b) = wrap64 (a.tdiv b * b) := by
    have h1 : ∃ k : Int, wrap64 (a.tdiv b) = a.tdiv b + 18446744073709551616 * k := ⟨-((a.tdiv b + 9223372036854775808) / 18446744073709551616), by unfold wrap64; omega⟩
    obtain ⟨k, hk⟩ := h1
    rw [hk, Int.add_mul, Int.mul_assoc]
    generalize k * b = z
    unfold wrap64
    omega
  rw [m, e, Int.mul_comm, h]
  obtain ⟨h1, h2⟩ := ha
  unfold wrap64
  omega

theorem sign_ok (a b : Int) (h0 : a.tmod b ≠ 0) : decide (a.tmod b < 0) = decide (a < 0) := by
  rcases Int.lt_or_le a 0 with h | h
  · have h6 := Int.tmod_nonneg b (a := -a) (by omega)
    rw [Int.neg_tmod] at h6
    have : a.tmod b < 0 := by omega
    simp [h, this]
  · have h6 := Int.tmod_nonneg b h
    have h1 : ¬ a.tmod b < 0 := by omega
    have h2 : ¬ a < 0 := by omega
    simp [h1, h2]

theorem sign_true (a b : Int) : (a.tmod b == 0 || decide (a.tmod b < 0) == decide (a < 0)) = true := by
  by_cases h : a.tmod b = 0
  · simp [h]
  · rw [sign_ok a b h]; simp

set_option maxHeartbeats 4000000 in
set_option maxRecDepth 20000 in
theorem codeParts_walk (a b : Int) (ha : I64 a) (hb : I64 b) (w : World) (hT : TabC w) (hP : TabP w) (hG : 3 < w.heap.size) (hG2 : 2 < w.heap.size) :
    Calls Tryd.prog 7 #[.int .i64 a, .int .i64 b] w fun e w' => e = .returned (.bool true) ∧ Below w.heap.size w w' := by
  have HT : Hid (TabC w) := hT
  have HP : Hid (TabP w) := hP
  have HA : Hid (I64 a ∧ I64 b) := ⟨ha, hb⟩
  have HR : Hid (∀ (s : List UInt8) (w' : World), Below w.heap.size w w' → mathB s = true → s.length ≤ 100 → Calls Tryd.prog 12 #[.agg #[.slice (some ⟨w'.heap.size + 8, 0, none⟩) 1 1, .slice none 0 0], .int .i64 0, .int .i64 9] (allocs w' (oneO w'.heap.size s a b)) fun e w'' => ∃ vl B, e = .returned (.tuple #[.agg #[vl, .int .i64 (oneR s a b)], .int .i64 0]) ∧ w''.ownsRow B 9 1 vl (oneP s a b).length (strsL (oneP s a b)) ∧ Below w'.heap.size w' w'') :=
    fun s w' hb' h1 h2 => ranOne s a b w' h1 h2 ha hb (TabC.below hT hG hb') (hP.below hG2 hb') (Nat.lt_of_lt_of_le hG hb'.size) (Nat.lt_of_lt_of_le hG2 hb'.size)
  clear hT hP ha hb
  rcases hz : (b == 0) with _ | _
  · have hb0 : b ≠ 0 := by simpa using hz
    have r1 : oneR [47] a b = 1 := by unfold oneR calcM divM; simp [hz]
    have p1 : oneP [47] a b = [Lib.itoa (wrap64 (a.tdiv b))] := by unfold oneP calcM divM; simp [hz]
    have r2 : oneR [37] a b = 1 := by unfold oneR calcM divM; simp [hz]
    have p2 : oneP [37] a b = [Lib.itoa (a.tmod b)] := by unfold oneP calcM divM; simp [hz]
    have HR1 : Hid (_) := HR.out [47] w (Below.refl _ _) rfl (by decide)
    rw [r1, p1] at HR1
    have HRP : Hid (oneR [37] a b = 1 ∧ oneP [37] a b = [Lib.itoa (a.tmod b)]) := ⟨r2, p2⟩
    clear r1 p1 r2 p2
    go_enter Tryd.func7, Tryd.ntmps7
    go_wp2_with fail
    refine Calls.mono (one_any [47] a b w) ?_
    rintro e w1 ⟨rfl, hw1⟩
    have HW1 : Hid (w1 = _) := hw1
    clear hw1
    unfold prgV slN
    go_wp2_with fail
    rw [HW1.out]
    refine Calls.mono HR1.out ?_
    rintro e w2 ⟨vl1, B1, rfl, ho1, hb2⟩
    obtain ⟨g1, k1, rfl, _, hg1, _, _, _, hc1⟩ := own_at ho1 (by show 0 < 1; decide)
    have d1 := hc1 0 _ rfl
    rw [show [Lib.itoa (wrap64 (a.tdiv b))].length = 1 from rfl]
    have HB2 : Hid (Below w.heap.size w w2) := hb2
    clear ho1 hb2 hc1 HW1 HR1
    obtain ⟨W, hW⟩ : ∃ W, W = w2.alloc (.cells #[.slice (some ⟨g1, 0, none⟩) 1 k1, .int .i64 1] 36) := ⟨_, rfl⟩
    have HWS : Hid (W = _) := hW
    have HWB : Hid (Below w2.heap.size w2 W) := by rw [hW]; exact below_alloc _ _
    have HC1 : Hid (W.heap[w2.heap.size]? = some (.cells #[.slice (some ⟨g1, 0, none⟩) 1 k1, .int .i64 1] 36)) := by rw [hW]; exact heap_alloc_new _ _
    have HD1 : Hid (W.cell? ⟨g1, 0, none⟩ = some (strV (Lib.itoa (wrap64 (a.tdiv b))))) := (HWB.out.cell (p := ⟨g1, 0, none⟩) hg1).trans d1
    have HBW : Hid (Below w.heap.size w W) := below_after HB2.out HWB.out
    have HWZ : Hid (W.heap.size = w2.heap.size + 1) := by unfold Hid; rw [hW]; simp
    have HR2 : Hid (_) := HR.out [37] W HBW.out rfl (by decide)
    rw [HRP.out.1, HRP.out.2] at HR2
    clear hW d1 HR HRP
    go_wp2_with fail
    rw [← HWS.out]
    refine Calls.mono (one_any [37] a b W) ?_
    rintro e w3 ⟨rfl, hw3⟩
    have HW3 : Hid (w3 = _) := hw3
    clear hw3
    unfold prgV slN
    go_wp2_with fail
    rw [HW3.out]
    refine Calls.mono HR2.out ?_
    rintro e w4 ⟨vl2, B2, rfl, ho2, hb4⟩
    obtain ⟨g2, k2, rfl, _, hg2, _, _, _, hc2⟩ := own_at ho2 (by show 0 < 1; decide)
    have d2 := hc2 0 _ rfl
    rw [show [Lib.itoa (a.tmod b)].length = 1 from rfl]
    have HB4 : Hid (Below W.heap.size W w4) := hb4
    have s4 := hb4.size
    clear ho2 hb4 hc2 HW3 HR2
    obtain ⟨V, hV⟩ : ∃ V, V = w4.alloc (.cells #[.slice (some ⟨g2, 0, none⟩) 1 k2, .int .i64 1] 36) := ⟨_, rfl⟩
    have HVS : Hid (V = _) := hV
    have HVB : Hid (Below w4.heap.size w4 V) := by rw [hV]; exact below_alloc _ _
    have HC2 : Hid (V.heap[w4.heap.size]? = some (.cells #[.slice (some ⟨g2, 0, none⟩) 1 k2, .int .i64 1] 36)) := by rw [hV]; exact heap_alloc_new _ _
    have HD2 : Hid (V.cell? ⟨g2, 0, none⟩ = some (strV (Lib.itoa (a.tmod b)))) := (HVB.out.cell (p := ⟨g2, 0, none⟩) hg2).trans d2
    have HWV : Hid (Below W.heap.size W V) := below_after HB4.out HVB.out
    have HBV : Hid (Below w.heap.size w V) := below_after HBW.out HWV.out
    have c1 := cells2 ((HWV.out.block _ (by have := HWZ.out; omega)).trans HC1.out)
    have c2 := cells2 HC2.out
    have c3 : V.cell? ⟨g1, 0, none⟩ = some (.string ⟨(Lib.itoa (wrap64 (a.tdiv b))).toArray⟩) := (HWV.out.cell (p := ⟨g1, 0, none⟩) (by rw [HWZ.out]; exact Nat.lt_succ_of_lt hg1)).trans HD1.out
    have c4 : V.cell? ⟨g2, 0, none⟩ = some (.string ⟨(Lib.itoa (a.tmod b)).toArray⟩) := HD2.out
    have hVlt : w4.heap.size < V.heap.size := lt_of_block HC2.out
    rw [hV] at c1 c2 c3 c4
    clear d2 hV
    go_wp2_with fail
    rw [← HVS.out]
    refine Calls.mono (atoi_any (wrap64 (a.tdiv b)) (wrap_i64 _) V) ?_
    rintro e w5 ⟨rfl, hb5⟩
    have HB5 : Hid (Below V.heap.size V w5) := hb5
    have e2 := cells2 ((hb5.block _ hVlt).trans HC2.out)
    have e4 : w5.cell? ⟨g2, 0, none⟩ = some (.string ⟨(Lib.itoa (a.tmod b)).toArray⟩) := (hb5.cell (p := ⟨g2, 0, none⟩) (by show g2 < V.heap.size; have := HVB.out.size; omega)).trans HD2.out
    clear hb5 c1 c2 c3 c4
    go_wp2_with fail
    refine Calls.mono (atoi_any (a.tmod b) (tmod_i64 HA.out.1 hb0) w5) ?_
    rintro e w6 ⟨rfl, hb6⟩
    have HB6 : Hid (Below w.heap.size w w6) := below_after HBV.out (below_after HB5.out hb6)
    clear hb6 e2 e4
    have HPB : Hid (_) := parts_back a b HA.out.1 hb0
    have HSO : Hid (_) := sign_ok a b
    have hpb := HPB.out
    have HST : Hid ((a.tmod b == 0 || decide (a.tmod b < 0) == decide (a < 0)) = true) := sign_true a b
    go_wp2_with fail
    all_goals
      go_ret
      exact ⟨by first | rfl | (rw [HST.out]; rfl), HB6.out⟩
  · have hb0 : b = 0 := by simpa using hz
    subst hb0
    have r1 : oneR [47] a 0 = 3 := by unfold oneR calcM divM; simp
    have p1 : oneP [47] a 0 = [] := by unfold oneP calcM divM; simp
    have r2 : oneR [37] a 0 = 3 := by unfold oneR calcM divM; simp
    have p2 : oneP [37] a 0 = [] := by unfold oneP calcM divM; simp
    have HR1 : Hid (_) := HR.out [47] w (Below.refl _ _) rfl (by decide)
    rw [r1, p1] at HR1
    have HRP : Hid (oneR [37] a 0 = 3 ∧ oneP [37] a 0 = []) := ⟨r2, p2⟩
    clear r1 p1 r2 p2
    go_enter Tryd.func7, Tryd.ntmps7
    go_wp2_with fail
    refine Calls.mono (one_any [47] a 0 w) ?_
    rintro e w1 ⟨rfl, hw1⟩
    have HW1 : Hid (w1 = _) := hw1
    clear hw1
    unfold prgV slN
    go_wp2_with fail
    rw [HW1.out]
    refine Calls.mono HR1.out ?_
    rintro e w2 ⟨vl1, B1, rfl, ho1, hb2⟩
    obtain ⟨a1, k1, rfl⟩ := own_slice ho1
    rw [show ([] : List (List UInt8)).length = 0 from rfl]
    have HB2 : Hid (Below w.heap.size w w2) := hb2
    clear ho1 hb2 HW1 HR1
    obtain ⟨W, hW⟩ : ∃ W, W = w2.alloc (.cells #[.slice a1 0 k1, .int .i64 3] 36) := ⟨_, rfl⟩
    have HWS : Hid (W = _) := hW
    have HWB : Hid (Below w2.heap.size w2 W) := by rw [hW]; exact below_alloc _ _
    have HC1 : Hid (W.heap[w2.heap.size]? = some (.cells #[.slice a1 0 k1, .int .i64 3] 36)) := by rw [hW]; exact heap_alloc_new _ _
    have HBW : Hid (Below w.heap.size w W) := below_after HB2.out HWB.out
    have HWZ : Hid (W.heap.size = w2.heap.size + 1) := by unfold Hid; rw [hW]; simp
    have HR2 : Hid (_) := HR.out [37] W HBW.out rfl (by decide)
    rw [HRP.out.1, HRP.out.2] at HR2
    clear hW HR HRP
    go_wp2_with fail
    rw [← HWS.out]
    refine Calls.mono (one_any [37] a 0 W) ?_
    rintro e w3 ⟨rfl, hw3⟩
    have HW3 : Hid (w3 = _) := hw3
    clear hw3
    unfold prgV slN
    go_wp2_with fail
    rw [HW3.out]
    refine Calls.mono HR2.out ?_
    rintro e w4 ⟨vl2, B2, rfl, ho2, hb4⟩
    obtain ⟨a2, k2, rfl⟩ := own_slice ho2
    rw [show ([] : List (List UInt8)).length = 0 from rfl]
    have s4 := hb4.size
    have HB4 : Hid (Below W.heap.size W w4) := hb4
    obtain ⟨V, hV⟩ : ∃ V, V = w4.alloc (.cells #[.slice a2 0 k2, .int .i64 3] 36) := ⟨_, rfl⟩
    have HVS : Hid (V = _) := hV
    have HVB : Hid (Below w4.heap.size w4 V) := by rw [hV]; exact below_alloc _ _
    have HC2 : Hid (V.heap[w4.heap.size]? = some (.cells #[.slice a2 0 k2, .int .i64 3] 36)) := by rw [hV]; exact heap_alloc_new _ _
    have HWV : Hid (Below W.heap.size W V) := below_after HB4.out HVB.out
    have HBV : Hid (Below w.heap.size w V) := below_after HBW.out HWV.out
    have c1 := cells2 ((HWV.out.block _ (by have := HWZ.out; omega)).trans HC1.out)
    have c2 := cells2 HC2.out
    rw [hV] at c1 c2
    clear ho2 hb4 HW3 HR2 hV
    go_wp2_with fail
    go_ret
    exact ⟨rfl, HVS.out ▸ HBV.out⟩

end Go.Proofs.YtbpnfoihonehgacDoor
