/-
  The statement's own look at an instruction of machine code.
-/
import Derived.Test.YtbpbpihboenbeaaIbG
import Derived.Test.YtbpbpihboenbeaaSqA0
import Derived.Deep.RegionHeld3
namespace Go.Proofs.Ytbpbpihboenbeaa
open Go.RowKit Go.Maps
set_option linter.unusedSimpArgs false
set_option linter.unusedVariables false

set_option maxHeartbeats 8000000 in
set_option maxRecDepth 20000 in
theorem instrM_any (q : Ins) (c : Cod) (fs : List Cod) (vf vdt vb vd va vt : Value) (B : Nat) (w : World) (hB : B ≤ w.heap.size) (hfs : Cods B w vf fs) (hvdt : ∃ a n k, vdt = .slice a n k) (hvb : ∃ a k, vb = .slice a c.blocks.length k) (hb1 : 1 ≤ c.blocks.length) (hb2 : c.blocks.length ≤ 2000)
    (hv0 : 0 ≤ c.vars) (hv3 : c.vars ≤ 3000) (hs0 : 0 ≤ c.slots) (hs3 : c.slots ≤ 3000) (hd : Nums B w vd q.ds) (ha : Nums B w va q.ar) (ht : Nums B w vt q.to) (hs : q.s.length ≤ maxLen) :
    Calls Try.prog 22 #[prgV vf vdt, codV c vb, insV q vd va vt] w fun e w' => e = .returned (.int .i64 (instrS fs c q)) ∧ Below w.heap.size w w' := by
  obtain ⟨r, hr⟩ : ∃ r, r = instrM fs c q := ⟨_, rfl⟩
  rw [← instr_same, ← hr]
  have HFS : Hid (Cods B w vf fs) := hfs
  obtain ⟨a1, k1, rfl⟩ := Lies.slice hfs
  obtain ⟨a2, n2, k2, rfl⟩ := hvdt
  obtain ⟨a3, k3, rfl⟩ := hvb
  have HD : Hid (Nums B w vd q.ds) := hd
  have HA : Hid (Nums B w va q.ar) := ha
  have HT : Hid (Nums B w vt q.to) := ht
  obtain ⟨ad, kd, rfl⟩ := Lies.slice hd
  obtain ⟨a4, k4, rfl⟩ := Lies.slice ha
  obtain ⟨a5, k5, rfl⟩ := Lies.slice ht
  have HOK : Hid (1 ≤ c.blocks.length ∧ c.blocks.length ≤ 2000 ∧ 0 ≤ c.vars ∧ c.vars ≤ 3000 ∧ 0 ≤ c.slots ∧ c.slots ≤ 3000 ∧ q.s.length ≤ maxLen) := ⟨hb1, hb2, hv0, hv3, hs0, hs3, hs⟩
  have HR : Hid (r = instrM fs c q) := hr
  obtain ⟨W, hW⟩ : ∃ W, W = ((w.alloc (.cells #[.slice a1 fs.length k1, .slice a2 n2 k2] 26)).alloc (.cells #[.string ⟨c.name.toArray⟩, .int .i64 c.params, .int .i64 c.results, .int .i64 c.vars, .int .i64 c.slots, .slice a3 c.blocks.length k3] 39)).alloc (.cells #[.int .i64 q.op, .slice ad q.ds.length kd, .slice a4 q.ar.length k4, .int .i64 q.n, .string ⟨q.s.toArray⟩, .slice a5 q.to.length k5] 54) := ⟨_, rfl⟩
  have HW : Hid (Below w.heap.size w W) := by rw [hW]; exact below_after (below_after (below_alloc _ _) (below_alloc _ _)) (below_alloc _ _)
  have hWs : W.heap.size = w.heap.size + 3 := by rw [hW]; simp
  obtain ⟨c0, c1, c2⟩ := SoLalloc3 w (.cells #[.slice a1 fs.length k1, .slice a2 n2 k2] 26) (.cells #[.string ⟨c.name.toArray⟩, .int .i64 c.params, .int .i64 c.results, .int .i64 c.vars, .int .i64 c.slots, .slice a3 c.blocks.length k3] 39) (.cells #[.int .i64 q.op, .slice ad q.ds.length kd, .slice a4 q.ar.length k4, .int .i64 q.n, .string ⟨q.s.toArray⟩, .slice a5 q.to.length k5] 54)
  rw [← hW] at c0 c1 c2
  have HC0 : Hid (_) := c0
  have HC1 : Hid (_) := c1
  have HC2 : Hid (_) := c2
  have HWS : Hid (W = _) := hW
  clear hfs hd ha ht hr hW c0 c1 c2 hb1 hb2 hv0 hv3 hs0 hs3 hs
  unfold prgV codV insV
  by_cases o21 : q.op = 21
  · have HRM : Hid (r = if !((q.ds.length == 1) && ((q.ar.length == 0) && q.to.length == 0)) then 10 else if !(belowB c.vars q.ds && (belowB c.vars q.ar && (decide (0 ≤ q.n) && decide (q.n < c.slots)))) then 2 else 0) := HR.out.trans (by unfold instrM; rw [o21]; rfl)
    obtain ⟨op, ds, ar, nn, s, to⟩ := q
    simp only at HRM HD HA HT HWS HC2 HOK o21 ⊢
    have hwv : wrap64 (c.vars - 1) = c.vars - 1 := by have := HOK.out; unfold wrap64; omega
    have hws : wrap64 (c.slots - 1) = c.slots - 1 := by have := HOK.out; unfold wrap64; omega
    have HAV : Hid (∀ l, allB (c.vars - 1) l = belowB c.vars l) := fun l => allB_below _ _
    obtain ⟨n1, hn1⟩ : ∃ n, n = ds.length := ⟨_, rfl⟩
    obtain ⟨n2, hn2⟩ : ∃ n, n = ar.length := ⟨_, rfl⟩
    obtain ⟨n3, hn3⟩ : ∃ n, n = to.length := ⟨_, rfl⟩
    rw [← hn1] at HRM HD HWS HC2 ⊢
    rw [← hn2] at HRM HA HWS HC2 ⊢
    rw [← hn3] at HRM HT HWS HC2 ⊢
    clear hn1 hn2 hn3
    subst o21
    by_cases m1 : n1 ≠ 1
    · have HR2 : Hid (r = 10) := HRM.out.trans (if_pos (by simp [m1]))
      have m1b : ((n1 : Int) != 1) = true := by simp; omega
      go_enter Try.func22, Try.ntmps22
      go_wp2_with fail
      go_ret
      exact ⟨by rw [HR2.out]; rfl, HWS.out ▸ HW.out⟩
    have m1E : n1 = 1 := by omega
    subst m1E
    by_cases m2 : n2 ≠ 0
    · have HR2 : Hid (r = 10) := HRM.out.trans (if_pos (by simp [m2]))
      have m2b : ((n2 : Int) != 0) = true := by simp; omega
      go_enter Try.func22, Try.ntmps22
      go_wp2_with fail
      go_ret
      exact ⟨by rw [HR2.out]; rfl, HWS.out ▸ HW.out⟩
    have m2E : n2 = 0 := by omega
    subst m2E
    by_cases m3 : n3 ≠ 0
    · have HR2 : Hid (r = 10) := HRM.out.trans (if_pos (by simp [m3]))
      have m3b : ((n3 : Int) != 0) = true := by simp; omega
      go_enter Try.func22, Try.ntmps22
      go_wp2_with fail
      go_ret
      exact ⟨by rw [HR2.out]; rfl, HWS.out ▸ HW.out⟩
    have m3E : n3 = 0 := by omega
    subst m3E
    replace HRM : Hid (r = if !(belowB c.vars ds && (belowB c.vars ar && (decide (0 ≤ nn) && decide (nn < c.slots)))) then 2 else 0) := HRM.out
    clear m1 m2 m3
    go_enter Try.func22, Try.ntmps22
    go_wp2_with fail
    rw [← HWS.out]
    refine (allIn_any (c.vars - 1) B _ ds W (HD.out.below (HW.out.mono hB))).mono ?_
    rintro e w1 ⟨rfl, hw1⟩
    have hw1' := hw1.symm
    subst hw1'
    rw [HAV.out]
    have p1 := cells6 HC1.out
    have p2 := cells6 HC2.out
    rcases b1 : belowB c.vars ds with _ | _
    · have HR2 : Hid (r = 2) := HRM.out.trans (if_pos (by rw [b1]; rfl))
      go_wp2_with fail
      go_ret
      exact ⟨by rw [HR2.out]; rfl, HW.out⟩
    go_wp2_with fail
    refine (allIn_any (c.vars - 1) B _ ar W (HA.out.below (HW.out.mono hB))).mono ?_
    rintro e w1 ⟨rfl, hw1⟩
    have hw1' := hw1.symm
    subst hw1'
    rw [HAV.out]
    rcases b2 : belowB c.vars ar with _ | _
    · have HR2 : Hid (r = 2) := HRM.out.trans (if_pos (by rw [b1, b2]; rfl))
      go_wp2_with fail
      go_ret
      exact ⟨by rw [HR2.out]; rfl, HW.out⟩
    go_wp2_with fail
    refine (in_any _ _ _ _).mono ?_
    rintro e w1 ⟨rfl, hw1⟩
    have hw1' := hw1.symm
    subst hw1'
    by_cases b3 : 0 ≤ nn ∧ nn < c.slots
    · have HR2 : Hid (r = 0) := HRM.out.trans (by rw [b1, b2]; simp [b3])
      have b3I : (decide (0 ≤ nn) && decide (nn ≤ c.slots - 1)) = true := by simp; omega
      rw [b3I]
      go_wp2_with fail
      go_ret
      exact ⟨by rw [HR2.out]; rfl, HW.out⟩
    · have HR2 : Hid (r = 2) := HRM.out.trans (by rw [b1, b2]; exact if_pos (by simp; omega))
      have b3I : (decide (0 ≤ nn) && decide (nn ≤ c.slots - 1)) = false := by simp; omega
      rw [b3I]
      go_wp2_with fail
      go_ret
      exact ⟨by rw [HR2.out]; rfl, HW.out⟩
  by_cases o22 : q.op = 22
  · have HRM : Hid (r = if !((q.ds.length == 0) && ((q.ar.length == 1) && q.to.length == 0)) then 10 else if !(belowB c.vars q.ds && (belowB c.vars q.ar && (decide (0 ≤ q.n) && decide (q.n < c.slots)))) then 2 else 0) := HR.out.trans (by unfold instrM; rw [o22]; rfl)
    obtain ⟨op, ds, ar, nn, s, to⟩ := q
    simp only at HRM HD HA HT HWS HC2 HOK o22 ⊢
    have hwv : wrap64 (c.vars - 1) = c.vars - 1 := by have := HOK.out; unfold wrap64; omega
    have hws : wrap64 (c.slots - 1) = c.slots - 1 := by have := HOK.out; unfold wrap64; omega
    have HAV : Hid (∀ l, allB (c.vars - 1) l = belowB c.vars l) := fun l => allB_below _ _
    obtain ⟨n1, hn1⟩ : ∃ n, n = ds.length := ⟨_, rfl⟩
    obtain ⟨n2, hn2⟩ : ∃ n, n = ar.length := ⟨_, rfl⟩
    obtain ⟨n3, hn3⟩ : ∃ n, n = to.length := ⟨_, rfl⟩
    rw [← hn1] at HRM HD HWS HC2 ⊢
    rw [← hn2] at HRM HA HWS HC2 ⊢
    rw [← hn3] at HRM HT HWS HC2 ⊢
    clear hn1 hn2 hn3
    subst o22
    by_cases m1 : n1 ≠ 0
    · have HR2 : Hid (r = 10) := HRM.out.trans (if_pos (by simp [m1]))
      have m1b : ((n1 : Int) != 0) = true := by simp; omega
      go_enter Try.func22, Try.ntmps22
      go_wp2_with fail
      go_ret
      exact ⟨by rw [HR2.out]; rfl, HWS.out ▸ HW.out⟩
    have m1E : n1 = 0 := by omega
    subst m1E
    by_cases m2 : n2 ≠ 1
    · have HR2 : Hid (r = 10) := HRM.out.trans (if_pos (by simp [m2]))
      have m2b : ((n2 : Int) != 1) = true := by simp; omega
      go_enter Try.func22, Try.ntmps22
      go_wp2_with fail
      go_ret
      exact ⟨by rw [HR2.out]; rfl, HWS.out ▸ HW.out⟩
    have m2E : n2 = 1 := by omega
    subst m2E
    by_cases m3 : n3 ≠ 0
    · have HR2 : Hid (r = 10) := HRM.out.trans (if_pos (by simp [m3]))
      have m3b : ((n3 : Int) != 0) = true := by simp; omega
      go_enter Try.func22, Try.ntmps22
      go_wp2_with fail
      go_ret
      exact ⟨by rw [HR2.out]; rfl, HWS.out ▸ HW.out⟩
    have m3E : n3 = 0 := by omega
    subst m3E
    replace HRM : Hid (r = if !(belowB c.vars ds && (belowB c.vars ar && (decide (0 ≤ nn) && decide (nn < c.slots)))) then 2 else 0) := HRM.out
    clear m1 m2 m3
    go_enter Try.func22, Try.ntmps22
    go_wp2_with fail
    rw [← HWS.out]
    refine (allIn_any (c.vars - 1) B _ ds W (HD.out.below (HW.out.mono hB))).mono ?_
    rintro e w1 ⟨rfl, hw1⟩
    have hw1' := hw1.symm
    subst hw1'
    rw [HAV.out]
    have p1 := cells6 HC1.out
    have p2 := cells6 HC2.out
    rcases b1 : belowB c.vars ds with _ | _
    · have HR2 : Hid (r = 2) := HRM.out.trans (if_pos (by rw [b1]; rfl))
      go_wp2_with fail
      go_ret
      exact ⟨by rw [HR2.out]; rfl, HW.out⟩
    go_wp2_with fail
    refine (allIn_any (c.vars - 1) B _ ar W (HA.out.below (HW.out.mono hB))).mono ?_
    rintro e w1 ⟨rfl, hw1⟩
    have hw1' := hw1.symm
    subst hw1'
    rw [HAV.out]
    rcases b2 : belowB c.vars ar with _ | _
    · have HR2 : Hid (r = 2) := HRM.out.trans (if_pos (by rw [b1, b2]; rfl))
      go_wp2_with fail
      go_ret
      exact ⟨by rw [HR2.out]; rfl, HW.out⟩
    go_wp2_with fail
    refine (in_any _ _ _ _).mono ?_
    rintro e w1 ⟨rfl, hw1⟩
    have hw1' := hw1.symm
    subst hw1'
    by_cases b3 : 0 ≤ nn ∧ nn < c.slots
    · have HR2 : Hid (r = 0) := HRM.out.trans (by rw [b1, b2]; simp [b3])
      have b3I : (decide (0 ≤ nn) && decide (nn ≤ c.slots - 1)) = true := by simp; omega
      rw [b3I]
      go_wp2_with fail
      go_ret
      exact ⟨by rw [HR2.out]; rfl, HW.out⟩
    · have HR2 : Hid (r = 2) := HRM.out.trans (by rw [b1, b2]; exact if_pos (by simp; omega))
      have b3I : (decide (0 ≤ nn) && decide (nn ≤ c.slots - 1)) = false := by simp; omega
      rw [b3I]
      go_wp2_with fail
      go_ret
      exact ⟨by rw [HR2.out]; rfl, HW.out⟩
  by_cases o7 : q.op = 7
  · have HR2 : Hid (r = instrF fs ⟨c.name, c.params, c.results, c.slots, c.slots, c.blocks⟩ q) := HR.out.trans (by unfold instrM slotsC; rw [o7]; rfl)
    have HPR : Hid (∀ w1, Below w.heap.size w w1 → Calls Try.prog 31 #[prgV (.slice a1 fs.length k1) (.slice a2 n2 k2), codV ⟨c.name, c.params, c.results, c.slots, c.slots, c.blocks⟩ (.slice a3 c.blocks.length k3), insV q (.slice ad q.ds.length kd) (.slice a4 q.ar.length k4) (.slice a5 q.to.length k5)] w1 fun e w' => e = .returned (.int .i64 r) ∧ Below w1.heap.size w1 w') := by
      intro w1 hb
      rw [HR2.out]
      have ho := HOK.out
      exact instrR_all q.op q.ds q.ar q.n q.s q.to ⟨c.name, c.params, c.results, c.slots, c.slots, c.blocks⟩ fs _ _ _ _ _ _ B w1 (Nat.le_trans hB hb.size) (HFS.out.below (hb.mono hB)) ⟨_, _, _, rfl⟩ ⟨_, _, rfl⟩ ho.1 ho.2.1 (by first | exact ho.2.2.2.2.1 | exact ho.2.2.2.2.2.1) (by first | exact ho.2.2.2.2.1 | exact ho.2.2.2.2.2.1) (HD.out.below (hb.mono hB)) (HA.out.below (hb.mono hB)) (HT.out.below (hb.mono hB)) ho.2.2.2.2.2.2
    unfold prgV codV insV at HPR
    rw [o7] at HPR
    go_enter Try.func22, Try.ntmps22
    go_wp2_with fail
    refine Calls.mono (HPR.out _ (below_after (below_after (below_alloc _ _) (below_alloc _ _)) (below_alloc _ _))) ?_
    rintro e w1 ⟨rfl, hb1⟩
    have HB1 : Hid (Below w.heap.size w w1) := below_after (below_after (below_after (below_alloc _ _) (below_alloc _ _)) (below_alloc _ _)) hb1
    clear hb1
    go_wp2_with fail
    go_ret
    exact ⟨rfl, HB1.out⟩
  by_cases o12 : q.op = 12
  · have HR2 : Hid (r = instrF fs ⟨c.name, c.params, c.results, c.slots, c.slots, c.blocks⟩ q) := HR.out.trans (by unfold instrM slotsC; rw [o12]; rfl)
    have HPR : Hid (∀ w1, Below w.heap.size w w1 → Calls Try.prog 31 #[prgV (.slice a1 fs.length k1) (.slice a2 n2 k2), codV ⟨c.name, c.params, c.results, c.slots, c.slots, c.blocks⟩ (.slice a3 c.blocks.length k3), insV q (.slice ad q.ds.length kd) (.slice a4 q.ar.length k4) (.slice a5 q.to.length k5)] w1 fun e w' => e = .returned (.int .i64 r) ∧ Below w1.heap.size w1 w') := by
      intro w1 hb
      rw [HR2.out]
      have ho := HOK.out
      exact instrR_all q.op q.ds q.ar q.n q.s q.to ⟨c.name, c.params, c.results, c.slots, c.slots, c.blocks⟩ fs _ _ _ _ _ _ B w1 (Nat.le_trans hB hb.size) (HFS.out.below (hb.mono hB)) ⟨_, _, _, rfl⟩ ⟨_, _, rfl⟩ ho.1 ho.2.1 (by first | exact ho.2.2.2.2.1 | exact ho.2.2.2.2.2.1) (by first | exact ho.2.2.2.2.1 | exact ho.2.2.2.2.2.1) (HD.out.below (hb.mono hB)) (HA.out.below (hb.mono hB)) (HT.out.below (hb.mono hB)) ho.2.2.2.2.2.2
    unfold prgV codV insV at HPR
    rw [o12] at HPR
    go_enter Try.func22, Try.ntmps22
    go_wp2_with fail
    refine Calls.mono (HPR.out _ (below_after (below_after (below_alloc _ _) (below_alloc _ _)) (below_alloc _ _))) ?_
    rintro e w1 ⟨rfl, hb1⟩
    have HB1 : Hid (Below w.heap.size w w1) := below_after (below_after (below_after (below_alloc _ _) (below_alloc _ _)) (below_alloc _ _)) hb1
    clear hb1
    go_wp2_with fail
    go_ret
    exact ⟨rfl, HB1.out⟩
  have HR2 : Hid (r = instrF fs c q) := HR.out.trans (by unfold instrM slotsC; have e1 : (q.op == 21 || q.op == 22) = false := (by simp [o21, o22]); have e2 : (q.op == 7 || q.op == 12) = false := (by simp [o7, o12]); rw [e1, e2]; rfl)
  have HPR : Hid (∀ w1, Below w.heap.size w w1 → Calls Try.prog 31 #[prgV (.slice a1 fs.length k1) (.slice a2 n2 k2), codV c (.slice a3 c.blocks.length k3), insV q (.slice ad q.ds.length kd) (.slice a4 q.ar.length k4) (.slice a5 q.to.length k5)] w1 fun e w' => e = .returned (.int .i64 r) ∧ Below w1.heap.size w1 w') := by
    intro w1 hb
    rw [HR2.out]
    have ho := HOK.out
    exact instrR_all q.op q.ds q.ar q.n q.s q.to c fs _ _ _ _ _ _ B w1 (Nat.le_trans hB hb.size) (HFS.out.below (hb.mono hB)) ⟨_, _, _, rfl⟩ ⟨_, _, rfl⟩ ho.1 ho.2.1 (by first | exact ho.2.2.1 | exact ho.2.2.2.1) (by first | exact ho.2.2.1 | exact ho.2.2.2.1) (HD.out.below (hb.mono hB)) (HA.out.below (hb.mono hB)) (HT.out.below (hb.mono hB)) ho.2.2.2.2.2.2
  unfold prgV codV insV at HPR
  have e7 : (q.op == 7) = false := beq_eq_false_iff_ne.2 o7
  have e12 : (q.op == 12) = false := beq_eq_false_iff_ne.2 o12
  have e21 : (q.op == 21) = false := beq_eq_false_iff_ne.2 o21
  have e22 : (q.op == 22) = false := beq_eq_false_iff_ne.2 o22
  go_enter Try.func22, Try.ntmps22
  go_wp2_with fail
  refine Calls.mono (HPR.out _ (below_after (below_after (below_alloc _ _) (below_alloc _ _)) (below_alloc _ _))) ?_
  rintro e w1 ⟨rfl, hb1⟩
  have HB1 : Hid (Below w.heap.size w w1) := below_after (below_after (below_after (below_alloc _ _) (below_alloc _ _)) (below_alloc _ _)) hb1
  clear hb1
  go_wp2_with fail
  go_ret
  exact ⟨rfl, HB1.out⟩

end Go.Proofs.Ytbpbpihboenbeaa
