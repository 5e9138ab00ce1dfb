/-
  The statement's own look at an instruction.
-/
import Derived.Test.YthlngmknifpbjaaDoorJIbC
namespace Go.Proofs.YthlngmknifpbjaaDoor
open Go.RowKit Go.Maps
set_option linter.unusedSimpArgs false
set_option linter.unusedVariables false

set_option maxHeartbeats 8000000 in
set_option maxRecDepth 20000 in
theorem instrR_3 : SaidR 3 := by
  intro ds ar nn s to c fs vf vdt vb vd va vt B w hB hfs hvdt hvb hb1 hb2 hv0 hv3 hd ha ht hs
  have hlF := hfs.len
  have HFS : Hid (Cods B w vf fs) := hfs
  obtain ⟨a1, k1, rfl⟩ := Lies.slice hfs
  obtain ⟨a2, n2, k2, rfl⟩ := hvdt
  obtain ⟨a3, k3, rfl⟩ := hvb
  have HD : Hid (Nums B w vd ds) := hd
  have HA : Hid (Nums B w va ar) := ha
  have HT : Hid (Nums B w vt to) := ht
  have HSL : Hid (s.length ≤ maxLen) := hs
  have hlD := hd.len
  have hlA := ha.len
  have hlT := ht.len
  obtain ⟨ad, kd, rfl⟩ := Lies.slice hd
  obtain ⟨a4, k4, rfl⟩ := Lies.slice ha
  obtain ⟨a5, k5, rfl⟩ := Lies.slice ht
  unfold maxLen at hlD hlA hlT hlF
  obtain ⟨r, hr⟩ : ∃ r, r = instrF fs c ⟨3, ds, ar, nn, s, to⟩ := ⟨_, rfl⟩
  rw [← hr]
  have HR : Hid (r = _) := hr
  obtain ⟨nd, hnd⟩ : ∃ n, n = ds.length := ⟨_, rfl⟩
  obtain ⟨na, hna⟩ : ∃ n, n = ar.length := ⟨_, rfl⟩
  obtain ⟨nt, hnt⟩ : ∃ n, n = to.length := ⟨_, rfl⟩
  obtain ⟨nb, hnb⟩ : ∃ n, n = c.blocks.length := ⟨_, rfl⟩
  have HND : Hid (nd = ds.length) := hnd
  have HNA : Hid (na = ar.length) := hna
  have HNT : Hid (nt = to.length) := hnt
  have HNB : Hid (nb = c.blocks.length) := hnb
  rw [← hnd] at hlD
  rw [← hna] at hlA
  rw [← hnt] at hlT
  rw [← hnb] at hb1 hb2
  rw [← hnb, ← hnd, ← hna, ← hnt]
  rw [← hnd] at HD
  rw [← hna] at HA
  rw [← hnt] at HT
  clear hfs hd ha ht hs hr hnd hna hnt hnb
  unfold prgV codV insV
  simp only
  obtain ⟨W, hW⟩ : ∃ W, W = ((w.alloc (.cells #[.slice a1 fs.length k1, .slice a2 n2 k2] 25)).alloc (.cells #[.string ⟨c.name.toArray⟩, .int .i64 c.params, .int .i64 c.results, .int .i64 c.vars, .int .i64 c.slots, .slice a3 nb k3] 28)).alloc (.cells #[.int .i64 3, .slice ad nd kd, .slice a4 na k4, .int .i64 nn, .string ⟨s.toArray⟩, .slice a5 nt k5] 37) := ⟨_, rfl⟩
  have HW : Hid (Below w.heap.size w W) := by rw [hW]; exact below_after (below_after (below_alloc _ _) (below_alloc _ _)) (below_alloc _ _)
  have hWs : W.heap.size = w.heap.size + 3 := by rw [hW]; simp
  have HC0 : Hid (W.heap[w.heap.size]? = some (.cells #[.slice a1 fs.length k1, .slice a2 n2 k2] 25)) := by rw [hW]; exact blk_alloc (heap_alloc2 w _ _).1 _
  have HC1 : Hid (W.heap[w.heap.size + 1]? = some (.cells #[.string ⟨c.name.toArray⟩, .int .i64 c.params, .int .i64 c.results, .int .i64 c.vars, .int .i64 c.slots, .slice a3 nb k3] 28)) := by rw [hW]; exact blk_alloc (heap_alloc2 w _ _).2 _
  have HC2 : Hid (W.heap[w.heap.size + 2]? = some (.cells #[.int .i64 3, .slice ad nd kd, .slice a4 na k4, .int .i64 nn, .string ⟨s.toArray⟩, .slice a5 nt k5] 37)) := by rw [hW]; exact heap_alloc3 w _ _ _
  have HWS : Hid (W = _) := hW
  clear hW
  have hzd : ((nd : Int) != (nd : Int)) = false := by simp
  have hza : ((na : Int) != (na : Int)) = false := by simp
  have hzt : ((nt : Int) != (nt : Int)) = false := by simp
  rcases e1 : (nd == 1) with _ | _
  · have e1L : (ds.length == 1) = false := by rw [← HND.out]; exact e1
    have e1I : ((nd : Int) != 1) = true := by rw [ne1, e1]; rfl
    have HR2 : Hid (r = 10) := HR.out.trans (F_10 (show (1 : Int) ≤ 3 by decide) (show (3 : Int) ≤ 13 by decide) (show (ds.length == 1 && (ar.length == 2 && to.length == 0)) = false by rw [e1L]; simp))
    clear e1L
    go_enter Tryd.func21, Tryd.ntmps21
    go_wp2_with fail
    go_ret
    exact ⟨by rw [HR2.out]; rfl, HWS.out ▸ HW.out⟩
  have e1L : Hid ((ds.length == 1) = true) := by unfold Hid; rw [← HND.out]; exact e1
  have e1I : ((nd : Int) != 1) = false := by rw [ne1, e1]; rfl
  rcases e2 : (na == 2) with _ | _
  · have e2L : (ar.length == 2) = false := by rw [← HNA.out]; exact e2
    have e2I : ((na : Int) != 2) = true := by rw [ne2, e2]; rfl
    have HR2 : Hid (r = 10) := HR.out.trans (F_10 (show (1 : Int) ≤ 3 by decide) (show (3 : Int) ≤ 13 by decide) (show (ds.length == 1 && (ar.length == 2 && to.length == 0)) = false by rw [e2L]; simp))
    clear e2L
    go_enter Tryd.func21, Tryd.ntmps21
    go_wp2_with fail
    go_ret
    exact ⟨by rw [HR2.out]; rfl, HWS.out ▸ HW.out⟩
  have e2L : Hid ((ar.length == 2) = true) := by unfold Hid; rw [← HNA.out]; exact e2
  have e2I : ((na : Int) != 2) = false := by rw [ne2, e2]; rfl
  rcases e3 : (nt == 0) with _ | _
  · have e3L : (to.length == 0) = false := by rw [← HNT.out]; exact e3
    have e3I : ((nt : Int) != 0) = true := by rw [ne0, e3]; rfl
    have HR2 : Hid (r = 10) := HR.out.trans (F_10 (show (1 : Int) ≤ 3 by decide) (show (3 : Int) ≤ 13 by decide) (show (ds.length == 1 && (ar.length == 2 && to.length == 0)) = false by rw [e3L]; simp))
    clear e3L
    go_enter Tryd.func21, Tryd.ntmps21
    go_wp2_with fail
    go_ret
    exact ⟨by rw [HR2.out]; rfl, HWS.out ▸ HW.out⟩
  have e3L : Hid ((to.length == 0) = true) := by unfold Hid; rw [← HNT.out]; exact e3
  have e3I : ((nt : Int) != 0) = false := by rw [ne0, e3]; rfl
  have HCO : Hid (countOk (Ins.op ⟨3, ds, ar, nn, s, to⟩) ds.length ar.length to.length = true) := (show (ds.length == 1 && (ar.length == 2 && to.length == 0)) = true by rw [e1L.out, e2L.out, e3L.out]; rfl)
  go_enter Tryd.func21, Tryd.ntmps21
  go_wp2_with fail
  rw [← HWS.out]
  have p1 := cells2 HC0.out
  have p2 := cells6 HC1.out
  have p3 := cells6 HC2.out
  refine (allIn_any _ B _ ds W (HD.out.below (HW.out.mono hB))).mono ?_
  rintro e w1 ⟨rfl, hw1⟩
  have hw1' := hw1.symm
  subst hw1'
  rw [allB_below]
  rcases b1 : belowB c.vars ds with _ | _
  · have HR2 : Hid (r = 2) := HR.out.trans (F_2 (show (1 : Int) ≤ 3 by decide) (show (3 : Int) ≤ 13 by decide) HCO.out (by simp only [b1]; rfl))
    go_wp2_with fail
    go_ret
    exact ⟨by rw [HR2.out]; rfl, HW.out⟩
  go_wp2_with fail
  refine (allIn_any _ B _ ar W (HA.out.below (HW.out.mono hB))).mono ?_
  rintro e w2 ⟨rfl, hw2⟩
  have hw2' := hw2.symm
  subst hw2'
  rw [allB_below]
  rcases b2 : belowB c.vars ar with _ | _
  · have HR2 : Hid (r = 2) := HR.out.trans (F_2 (show (1 : Int) ≤ 3 by decide) (show (3 : Int) ≤ 13 by decide) HCO.out (by simp only [b1, b2]; rfl))
    go_wp2_with fail
    go_ret
    exact ⟨by rw [HR2.out]; rfl, HW.out⟩
  go_wp2_with fail
  refine (allIn_any _ B _ to W (HT.out.below (HW.out.mono hB))).mono ?_
  rintro e w3 ⟨rfl, hw3⟩
  have hw3' := hw3.symm
  subst hw3'
  rw [allB_below]
  rcases b3 : belowB (nb : Int) to with _ | _
  · have HR2 : Hid (r = 2) := HR.out.trans (F_2 (show (1 : Int) ≤ 3 by decide) (show (3 : Int) ≤ 13 by decide) HCO.out (by simp only [b1, b2]; rw [← HNB.out, b3]; rfl))
    go_wp2_with fail
    go_ret
    exact ⟨by rw [HR2.out]; rfl, HW.out⟩
  have HBO : Hid ((belowB c.vars ds && (belowB c.vars ar && belowB c.blocks.length to)) = true) := by unfold Hid; rw [b1, b2, ← HNB.out, b3]; rfl
  clear b1 b2 b3
  go_wp2_with fail
  refine (isMathR_any s W).mono ?_
  rintro e w4 ⟨rfl, hb4⟩
  have HB4 : Hid (Below w.heap.size w w4) := below_after HW.out hb4
  clear p1 p2 p3
  have p1 := cells2 ((hb4.block _ (by omega)).trans HC0.out)
  have p2 := cells6 ((hb4.block _ (by omega)).trans HC1.out)
  have p3 := cells6 ((hb4.block _ (by omega)).trans HC2.out)
  clear hb4
  rcases b4 : mathB s with _ | _
  · have HR2 : Hid (r = 4) := HR.out.trans (F_4 (show (1 : Int) ≤ 3 by decide) (show (3 : Int) ≤ 13 by decide) HCO.out HBO.out b4)
    go_wp2_with fail
    go_ret
    exact ⟨by rw [HR2.out]; rfl, HB4.out⟩
  have HR2 : Hid (r = 0) := HR.out.trans (F_0 (show (1 : Int) ≤ 3 by decide) (show (3 : Int) ≤ 13 by decide) HCO.out HBO.out b4 rfl rfl)
  go_wp2_with fail
  go_ret
  exact ⟨by rw [HR2.out]; rfl, HB4.out⟩

set_option maxHeartbeats 8000000 in
set_option maxRecDepth 20000 in
theorem instrR_8 : SaidR 8 := by
  intro ds ar nn s to c fs vf vdt vb vd va vt B w hB hfs hvdt hvb hb1 hb2 hv0 hv3 hd ha ht hs
  have hlF := hfs.len
  have HFS : Hid (Cods B w vf fs) := hfs
  obtain ⟨a1, k1, rfl⟩ := Lies.slice hfs
  obtain ⟨a2, n2, k2, rfl⟩ := hvdt
  obtain ⟨a3, k3, rfl⟩ := hvb
  have HD : Hid (Nums B w vd ds) := hd
  have HA : Hid (Nums B w va ar) := ha
  have HT : Hid (Nums B w vt to) := ht
  have HSL : Hid (s.length ≤ maxLen) := hs
  have hlD := hd.len
  have hlA := ha.len
  have hlT := ht.len
  obtain ⟨ad, kd, rfl⟩ := Lies.slice hd
  obtain ⟨a4, k4, rfl⟩ := Lies.slice ha
  obtain ⟨a5, k5, rfl⟩ := Lies.slice ht
  unfold maxLen at hlD hlA hlT hlF
  obtain ⟨r, hr⟩ : ∃ r, r = instrF fs c ⟨8, ds, ar, nn, s, to⟩ := ⟨_, rfl⟩
  rw [← hr]
  have HR : Hid (r = _) := hr
  obtain ⟨nd, hnd⟩ : ∃ n, n = ds.length := ⟨_, rfl⟩
  obtain ⟨na, hna⟩ : ∃ n, n = ar.length := ⟨_, rfl⟩
  obtain ⟨nt, hnt⟩ : ∃ n, n = to.length := ⟨_, rfl⟩
  obtain ⟨nb, hnb⟩ : ∃ n, n = c.blocks.length := ⟨_, rfl⟩
  have HND : Hid (nd = ds.length) := hnd
  have HNA : Hid (na = ar.length) := hna
  have HNT : Hid (nt = to.length) := hnt
  have HNB : Hid (nb = c.blocks.length) := hnb
  rw [← hnd] at hlD
  rw [← hna] at hlA
  rw [← hnt] at hlT
  rw [← hnb] at hb1 hb2
  rw [← hnb, ← hnd, ← hna, ← hnt]
  rw [← hnd] at HD
  rw [← hna] at HA
  rw [← hnt] at HT
  clear hfs hd ha ht hs hr hnd hna hnt hnb
  unfold prgV codV insV
  simp only
  obtain ⟨W, hW⟩ : ∃ W, W = ((w.alloc (.cells #[.slice a1 fs.length k1, .slice a2 n2 k2] 25)).alloc (.cells #[.string ⟨c.name.toArray⟩, .int .i64 c.params, .int .i64 c.results, .int .i64 c.vars, .int .i64 c.slots, .slice a3 nb k3] 28)).alloc (.cells #[.int .i64 8, .slice ad nd kd, .slice a4 na k4, .int .i64 nn, .string ⟨s.toArray⟩, .slice a5 nt k5] 37) := ⟨_, rfl⟩
  have HW : Hid (Below w.heap.size w W) := by rw [hW]; exact below_after (below_after (below_alloc _ _) (below_alloc _ _)) (below_alloc _ _)
  have hWs : W.heap.size = w.heap.size + 3 := by rw [hW]; simp
  have HC0 : Hid (W.heap[w.heap.size]? = some (.cells #[.slice a1 fs.length k1, .slice a2 n2 k2] 25)) := by rw [hW]; exact blk_alloc (heap_alloc2 w _ _).1 _
  have HC1 : Hid (W.heap[w.heap.size + 1]? = some (.cells #[.string ⟨c.name.toArray⟩, .int .i64 c.params, .int .i64 c.results, .int .i64 c.vars, .int .i64 c.slots, .slice a3 nb k3] 28)) := by rw [hW]; exact blk_alloc (heap_alloc2 w _ _).2 _
  have HC2 : Hid (W.heap[w.heap.size + 2]? = some (.cells #[.int .i64 8, .slice ad nd kd, .slice a4 na k4, .int .i64 nn, .string ⟨s.toArray⟩, .slice a5 nt k5] 37)) := by rw [hW]; exact heap_alloc3 w _ _ _
  have HWS : Hid (W = _) := hW
  clear hW
  have hzd : ((nd : Int) != (nd : Int)) = false := by simp
  have hza : ((na : Int) != (na : Int)) = false := by simp
  have hzt : ((nt : Int) != (nt : Int)) = false := by simp
  rcases e1 : (nd == 0) with _ | _
  · have e1L : (ds.length == 0) = false := by rw [← HND.out]; exact e1
    have e1I : ((nd : Int) != 0) = true := by rw [ne0, e1]; rfl
    have HR2 : Hid (r = 10) := HR.out.trans (F_10 (show (1 : Int) ≤ 8 by decide) (show (8 : Int) ≤ 13 by decide) (show (ds.length == 0 && to.length == 0) = false by rw [e1L]; simp))
    clear e1L
    go_enter Tryd.func21, Tryd.ntmps21
    go_wp2_with fail
    go_ret
    exact ⟨by rw [HR2.out]; rfl, HWS.out ▸ HW.out⟩
  have e1L : Hid ((ds.length == 0) = true) := by unfold Hid; rw [← HND.out]; exact e1
  have e1I : ((nd : Int) != 0) = false := by rw [ne0, e1]; rfl
  rcases e3 : (nt == 0) with _ | _
  · have e3L : (to.length == 0) = false := by rw [← HNT.out]; exact e3
    have e3I : ((nt : Int) != 0) = true := by rw [ne0, e3]; rfl
    have HR2 : Hid (r = 10) := HR.out.trans (F_10 (show (1 : Int) ≤ 8 by decide) (show (8 : Int) ≤ 13 by decide) (show (ds.length == 0 && to.length == 0) = false by rw [e3L]; simp))
    clear e3L
    go_enter Tryd.func21, Tryd.ntmps21
    go_wp2_with fail
    go_ret
    exact ⟨by rw [HR2.out]; rfl, HWS.out ▸ HW.out⟩
  have e3L : Hid ((to.length == 0) = true) := by unfold Hid; rw [← HNT.out]; exact e3
  have e3I : ((nt : Int) != 0) = false := by rw [ne0, e3]; rfl
  have HCO : Hid (countOk (Ins.op ⟨8, ds, ar, nn, s, to⟩) ds.length ar.length to.length = true) := (show (ds.length == 0 && to.length == 0) = true by rw [e1L.out, e3L.out]; rfl)
  go_enter Tryd.func21, Tryd.ntmps21
  go_wp2_with fail
  rw [← HWS.out]
  have p1 := cells2 HC0.out
  have p2 := cells6 HC1.out
  have p3 := cells6 HC2.out
  refine (allIn_any _ B _ ds W (HD.out.below (HW.out.mono hB))).mono ?_
  rintro e w1 ⟨rfl, hw1⟩
  have hw1' := hw1.symm
  subst hw1'
  rw [allB_below]
  rcases b1 : belowB c.vars ds with _ | _
  · have HR2 : Hid (r = 2) := HR.out.trans (F_2 (show (1 : Int) ≤ 8 by decide) (show (8 : Int) ≤ 13 by decide) HCO.out (by simp only [b1]; rfl))
    go_wp2_with fail
    go_ret
    exact ⟨by rw [HR2.out]; rfl, HW.out⟩
  go_wp2_with fail
  refine (allIn_any _ B _ ar W (HA.out.below (HW.out.mono hB))).mono ?_
  rintro e w2 ⟨rfl, hw2⟩
  have hw2' := hw2.symm
  subst hw2'
  rw [allB_below]
  rcases b2 : belowB c.vars ar with _ | _
  · have HR2 : Hid (r = 2) := HR.out.trans (F_2 (show (1 : Int) ≤ 8 by decide) (show (8 : Int) ≤ 13 by decide) HCO.out (by simp only [b1, b2]; rfl))
    go_wp2_with fail
    go_ret
    exact ⟨by rw [HR2.out]; rfl, HW.out⟩
  go_wp2_with fail
  refine (allIn_any _ B _ to W (HT.out.below (HW.out.mono hB))).mono ?_
  rintro e w3 ⟨rfl, hw3⟩
  have hw3' := hw3.symm
  subst hw3'
  rw [allB_below]
  rcases b3 : belowB (nb : Int) to with _ | _
  · have HR2 : Hid (r = 2) := HR.out.trans (F_2 (show (1 : Int) ≤ 8 by decide) (show (8 : Int) ≤ 13 by decide) HCO.out (by simp only [b1, b2]; rw [← HNB.out, b3]; rfl))
    go_wp2_with fail
    go_ret
    exact ⟨by rw [HR2.out]; rfl, HW.out⟩
  have HBO : Hid ((belowB c.vars ds && (belowB c.vars ar && belowB c.blocks.length to)) = true) := by unfold Hid; rw [b1, b2, ← HNB.out, b3]; rfl
  clear b1 b2 b3
  by_cases g3 : s = [116, 101, 120, 116]
  · subst g3
    rcases b4 : (na == 2) with _ | _
    · have b4n : ((na : Int) != 2) = true := by rw [ne2, b4]; rfl
      have HR2 : Hid (r = 10) := HR.out.trans (F_11 (show (1 : Int) ≤ 8 by decide) (show (8 : Int) ≤ 13 by decide) HCO.out HBO.out rfl (show ((ar.length : Int) == 2) = false by rw [← HNA.out]; simpa [bne] using b4n))
      go_wp2_with fail
      go_ret
      exact ⟨by rw [HR2.out]; rfl, HW.out⟩
    have b4n : ((na : Int) != 2) = false := by rw [ne2, b4]; rfl
    have HR2 : Hid (r = 0) := HR.out.trans (F_0 (show (1 : Int) ≤ 8 by decide) (show (8 : Int) ≤ 13 by decide) HCO.out HBO.out rfl (show ((ar.length : Int) == 2) = true by rw [← HNA.out]; simpa [bne] using b4n) rfl)
    go_wp2_with fail
    go_ret
    exact ⟨by rw [HR2.out]; rfl, HW.out⟩
  have g3e : (s == [116, 101, 120, 116]) = false := beq_eq_false_iff_ne.2 g3
  have g3n : (s != [116, 101, 120, 116]) = true := by simp [bne, g3e]
  have HARG : Hid (argsB c.results ⟨8, ds, ar, nn, s, to⟩ = ((ar.length : Int) == 1)) := by
    unfold Hid
    show (if (s == tText) = true then (ar.length : Int) == 2 else (ar.length : Int) == 1) = _
    rw [show (s == tText) = false from g3e]
    rfl
  by_cases g12 : s = [105, 110, 116] ∨ s = [98, 111, 111, 108]
  · have HFO : Hid (formB ⟨8, ds, ar, nn, s, to⟩ = true) := by
      rcases g12 with g | g <;> (subst g; rfl)
    rcases b4 : (na == 1) with _ | _
    · have b4n : ((na : Int) != 1) = true := by rw [ne1, b4]; rfl
      have HR2 : Hid (r = 10) := HR.out.trans (F_11 (show (1 : Int) ≤ 8 by decide) (show (8 : Int) ≤ 13 by decide) HCO.out HBO.out HFO.out (HARG.out.trans (by rw [← HNA.out]; simpa [bne] using b4n)))
      clear g3 g3e
      rcases g12 with g | g <;>
        (subst g
         go_wp2_with fail
         go_ret
         exact ⟨by rw [HR2.out]; rfl, HW.out⟩)
    have b4n : ((na : Int) != 1) = false := by rw [ne1, b4]; rfl
    have HR2 : Hid (r = 0) := HR.out.trans (F_0 (show (1 : Int) ≤ 8 by decide) (show (8 : Int) ≤ 13 by decide) HCO.out HBO.out HFO.out (HARG.out.trans (by rw [← HNA.out]; simpa [bne] using b4n)) rfl)
    clear g3 g3e
    rcases g12 with g | g <;>
      (subst g
       go_wp2_with fail
       go_ret
       exact ⟨by rw [HR2.out]; rfl, HW.out⟩)
  have g1e : (s == [105, 110, 116]) = false := beq_eq_false_iff_ne.2 fun h => g12 (.inl h)
  have g2e : (s == [98, 111, 111, 108]) = false := beq_eq_false_iff_ne.2 fun h => g12 (.inr h)
  have g1n : (s != [105, 110, 116]) = true := by simp [bne, g1e]
  have g2n : (s != [98, 111, 111, 108]) = true := by simp [bne, g2e]
  have HR2 : Hid (r = 4) := HR.out.trans (F_4 (show (1 : Int) ≤ 8 by decide) (show (8 : Int) ≤ 13 by decide) HCO.out HBO.out (show (s == tInt || s == tBool || s == tText) = false by unfold tInt tBool tText; rw [g1e, g2e, g3e]; rfl))
  clear g3 g12
  go_wp2_with fail
  go_ret
  exact ⟨by rw [HR2.out]; rfl, HW.out⟩

set_option maxHeartbeats 8000000 in
set_option maxRecDepth 20000 in
theorem instrR_13 : SaidR 13 := by
  intro ds ar nn s to c fs vf vdt vb vd va vt B w hB hfs hvdt hvb hb1 hb2 hv0 hv3 hd ha ht hs
  have hlF := hfs.len
  have HFS : Hid (Cods B w vf fs) := hfs
  obtain ⟨a1, k1, rfl⟩ := Lies.slice hfs
  obtain ⟨a2, n2, k2, rfl⟩ := hvdt
  obtain ⟨a3, k3, rfl⟩ := hvb
  have HD : Hid (Nums B w vd ds) := hd
  have HA : Hid (Nums B w va ar) := ha
  have HT : Hid (Nums B w vt to) := ht
  have HSL : Hid (s.length ≤ maxLen) := hs
  have hlD := hd.len
  have hlA := ha.len
  have hlT := ht.len
  obtain ⟨ad, kd, rfl⟩ := Lies.slice hd
  obtain ⟨a4, k4, rfl⟩ := Lies.slice ha
  obtain ⟨a5, k5, rfl⟩ := Lies.slice ht
  unfold maxLen at hlD hlA hlT hlF
  obtain ⟨r, hr⟩ : ∃ r, r = instrF fs c ⟨13, ds, ar, nn, s, to⟩ := ⟨_, rfl⟩
  rw [← hr]
  have HR : Hid (r = _) := hr
  obtain ⟨nd, hnd⟩ : ∃ n, n = ds.length := ⟨_, rfl⟩
  obtain ⟨na, hna⟩ : ∃ n, n = ar.length := ⟨_, rfl⟩
  obtain ⟨nt, hnt⟩ : ∃ n, n = to.length := ⟨_, rfl⟩
  obtain ⟨nb, hnb⟩ : ∃ n, n = c.blocks.length := ⟨_, rfl⟩
  have HND : Hid (nd = ds.length) := hnd
  have HNA : Hid (na = ar.length) := hna
  have HNT : Hid (nt = to.length) := hnt
  have HNB : Hid (nb = c.blocks.length) := hnb
  rw [← hnd] at hlD
  rw [← hna] at hlA
  rw [← hnt] at hlT
  rw [← hnb] at hb1 hb2
  rw [← hnb, ← hnd, ← hna, ← hnt]
  rw [← hnd] at HD
  rw [← hna] at HA
  rw [← hnt] at HT
  clear hfs hd ha ht hs hr hnd hna hnt hnb
  unfold prgV codV insV
  simp only
  obtain ⟨W, hW⟩ : ∃ W, W = ((w.alloc (.cells #[.slice a1 fs.length k1, .slice a2 n2 k2] 25)).alloc (.cells #[.string ⟨c.name.toArray⟩, .int .i64 c.params, .int .i64 c.results, .int .i64 c.vars, .int .i64 c.slots, .slice a3 nb k3] 28)).alloc (.cells #[.int .i64 13, .slice ad nd kd, .slice a4 na k4, .int .i64 nn, .string ⟨s.toArray⟩, .slice a5 nt k5] 37) := ⟨_, rfl⟩
  have HW : Hid (Below w.heap.size w W) := by rw [hW]; exact below_after (below_after (below_alloc _ _) (below_alloc _ _)) (below_alloc _ _)
  have hWs : W.heap.size = w.heap.size + 3 := by rw [hW]; simp
  have HC0 : Hid (W.heap[w.heap.size]? = some (.cells #[.slice a1 fs.length k1, .slice a2 n2 k2] 25)) := by rw [hW]; exact blk_alloc (heap_alloc2 w _ _).1 _
  have HC1 : Hid (W.heap[w.heap.size + 1]? = some (.cells #[.string ⟨c.name.toArray⟩, .int .i64 c.params, .int .i64 c.results, .int .i64 c.vars, .int .i64 c.slots, .slice a3 nb k3] 28)) := by rw [hW]; exact blk_alloc (heap_alloc2 w _ _).2 _
  have HC2 : Hid (W.heap[w.heap.size + 2]? = some (.cells #[.int .i64 13, .slice ad nd kd, .slice a4 na k4, .int .i64 nn, .string ⟨s.toArray⟩, .slice a5 nt k5] 37)) := by rw [hW]; exact heap_alloc3 w _ _ _
  have HWS : Hid (W = _) := hW
  clear hW
  have hzd : ((nd : Int) != (nd : Int)) = false := by simp
  have hza : ((na : Int) != (na : Int)) = false := by simp
  have hzt : ((nt : Int) != (nt : Int)) = false := by simp
  rcases e1 : (nd == 0) with _ | _
  · have e1L : (ds.length == 0) = false := by rw [← HND.out]; exact e1
    have e1I : ((nd : Int) != 0) = true := by rw [ne0, e1]; rfl
    have HR2 : Hid (r = 10) := HR.out.trans (F_10 (show (1 : Int) ≤ 13 by decide) (show (13 : Int) ≤ 13 by decide) (show (ds.length == 0 && (ar.length == 0 && to.length == 0)) = false by rw [e1L]; simp))
    clear e1L
    go_enter Tryd.func21, Tryd.ntmps21
    go_wp2_with fail
    go_ret
    exact ⟨by rw [HR2.out]; rfl, HWS.out ▸ HW.out⟩
  have e1L : Hid ((ds.length == 0) = true) := by unfold Hid; rw [← HND.out]; exact e1
  have e1I : ((nd : Int) != 0) = false := by rw [ne0, e1]; rfl
  rcases e2 : (na == 0) with _ | _
  · have e2L : (ar.length == 0) = false := by rw [← HNA.out]; exact e2
    have e2I : ((na : Int) != 0) = true := by rw [ne0, e2]; rfl
    have HR2 : Hid (r = 10) := HR.out.trans (F_10 (show (1 : Int) ≤ 13 by decide) (show (13 : Int) ≤ 13 by decide) (show (ds.length == 0 && (ar.length == 0 && to.length == 0)) = false by rw [e2L]; simp))
    clear e2L
    go_enter Tryd.func21, Tryd.ntmps21
    go_wp2_with fail
    go_ret
    exact ⟨by rw [HR2.out]; rfl, HWS.out ▸ HW.out⟩
  have e2L : Hid ((ar.length == 0) = true) := by unfold Hid; rw [← HNA.out]; exact e2
  have e2I : ((na : Int) != 0) = false := by rw [ne0, e2]; rfl
  rcases e3 : (nt == 0) with _ | _
  · have e3L : (to.length == 0) = false := by rw [← HNT.out]; exact e3
    have e3I : ((nt : Int) != 0) = true := by rw [ne0, e3]; rfl
    have HR2 : Hid (r = 10) := HR.out.trans (F_10 (show (1 : Int) ≤ 13 by decide) (show (13 : Int) ≤ 13 by decide) (show (ds.length == 0 && (ar.length == 0 && to.length == 0)) = false by rw [e3L]; simp))
    clear e3L
    go_enter Tryd.func21, Tryd.ntmps21
    go_wp2_with fail
    go_ret
    exact ⟨by rw [HR2.out]; rfl, HWS.out ▸ HW.out⟩
  have e3L : Hid ((to.length == 0) = true) := by unfold Hid; rw [← HNT.out]; exact e3
  have e3I : ((nt : Int) != 0) = false := by rw [ne0, e3]; rfl
  have HCO : Hid (countOk (Ins.op ⟨13, ds, ar, nn, s, to⟩) ds.length ar.length to.length = true) := (show (ds.length == 0 && (ar.length == 0 && to.length == 0)) = true by rw [e1L.out, e2L.out, e3L.out]; rfl)
  go_enter Tryd.func21, Tryd.ntmps21
  go_wp2_with fail
  rw [← HWS.out]
  have p1 := cells2 HC0.out
  have p2 := cells6 HC1.out
  have p3 := cells6 HC2.out
  refine (allIn_any _ B _ ds W (HD.out.below (HW.out.mono hB))).mono ?_
  rintro e w1 ⟨rfl, hw1⟩
  have hw1' := hw1.symm
  subst hw1'
  rw [allB_below]
  rcases b1 : belowB c.vars ds with _ | _
  · have HR2 : Hid (r = 2) := HR.out.trans (F_2 (show (1 : Int) ≤ 13 by decide) (show (13 : Int) ≤ 13 by decide) HCO.out (by simp only [b1]; rfl))
    go_wp2_with fail
    go_ret
    exact ⟨by rw [HR2.out]; rfl, HW.out⟩
  go_wp2_with fail
  refine (allIn_any _ B _ ar W (HA.out.below (HW.out.mono hB))).mono ?_
  rintro e w2 ⟨rfl, hw2⟩
  have hw2' := hw2.symm
  subst hw2'
  rw [allB_below]
  rcases b2 : belowB c.vars ar with _ | _
  · have HR2 : Hid (r = 2) := HR.out.trans (F_2 (show (1 : Int) ≤ 13 by decide) (show (13 : Int) ≤ 13 by decide) HCO.out (by simp only [b1, b2]; rfl))
    go_wp2_with fail
    go_ret
    exact ⟨by rw [HR2.out]; rfl, HW.out⟩
  go_wp2_with fail
  refine (allIn_any _ B _ to W (HT.out.below (HW.out.mono hB))).mono ?_
  rintro e w3 ⟨rfl, hw3⟩
  have hw3' := hw3.symm
  subst hw3'
  rw [allB_below]
  rcases b3 : belowB (nb : Int) to with _ | _
  · have HR2 : Hid (r = 2) := HR.out.trans (F_2 (show (1 : Int) ≤ 13 by decide) (show (13 : Int) ≤ 13 by decide) HCO.out (by simp only [b1, b2]; rw [← HNB.out, b3]; rfl))
    go_wp2_with fail
    go_ret
    exact ⟨by rw [HR2.out]; rfl, HW.out⟩
  have HBO : Hid ((belowB c.vars ds && (belowB c.vars ar && belowB c.blocks.length to)) = true) := by unfold Hid; rw [b1, b2, ← HNB.out, b3]; rfl
  clear b1 b2 b3
  go_wp2_with fail
  refine (in_any nn 2 5 W).mono ?_
  rintro e w4 ⟨rfl, hw4⟩
  have hw4' := hw4.symm
  subst hw4'
  rcases b4 : (decide (2 ≤ nn) && decide (nn ≤ 5)) with _ | _
  · have HR2 : Hid (r = 4) := HR.out.trans (F_4 (show (1 : Int) ≤ 13 by decide) (show (13 : Int) ≤ 13 by decide) HCO.out HBO.out b4)
    go_wp2_with fail
    go_ret
    exact ⟨by rw [HR2.out]; rfl, HW.out⟩
  have HR2 : Hid (r = 0) := HR.out.trans (F_0 (show (1 : Int) ≤ 13 by decide) (show (13 : Int) ≤ 13 by decide) HCO.out HBO.out b4 rfl rfl)
  go_wp2_with fail
  go_ret
  exact ⟨by rw [HR2.out]; rfl, HW.out⟩

end Go.Proofs.YthlngmknifpbjaaDoor
