/-
  checkHead; an instruction.
-/
import Derived.Test.YtbpnfoihonehgadDoorIaH
import Derived.Test.YtbpnfoihonehgadDoorIaD
namespace Go.Proofs.YtbpnfoihonehgadDoor
open Go.RowKit Go.Maps
set_option linter.unusedSimpArgs false
set_option linter.unusedVariables false

/-- what a look at code stands on: the functions, their places, the table -/
structure Ck (w : World) (B mp : Nat) (vf : Value) (fs : List Cod) : Prop where
  le : B ≤ w.heap.size
  cods : Cods B w vf fs
  pl : MapAt w mp (plD 0 (.map []) fs)
  tab : TabC w
  far : 1 < B

theorem Ck.below {w w' : World} {B mp : Nat} {vf : Value} {fs : List Cod} (h : Ck w B mp vf fs) (k : Below w.heap.size w w') : Ck w' B mp vf fs :=
  ⟨Nat.le_trans h.le k.size, h.cods.below (k.mono h.le), h.pl.same (k.block _ h.pl.lt), h.tab.below (Nat.lt_of_lt_of_le h.far h.le) k, h.far⟩

/-- .. also where a block behind B and the map is written -/
theorem Ck.belowN {w w' : World} {B mp N : Nat} {vf : Value} {fs : List Cod} (h : Ck w B mp vf fs) (hN : B ≤ N) (hm : mp < N) (k : Below N w w') : Ck w' B mp vf fs :=
  ⟨Nat.le_trans h.le k.size, h.cods.below (k.mono hN), h.pl.same (k.block _ hm), h.tab.below h.far (k.mono hN), h.far⟩

set_option maxHeartbeats 4000000 in
theorem checkHead_any (c : Cod) (a : Option Addr) (k : Nat) (w : World) (hl : c.blocks.length ≤ maxLen) :
    Calls Tryd.prog 21 #[codV c (.slice a c.blocks.length k)] w fun e w' => e = .returned (.int .i64 (headF c)) ∧ Below w.heap.size w w' := by
  obtain ⟨name, params, results, vars, slots, blocks⟩ := c
  obtain ⟨r, hr⟩ : ∃ r, r = headF ⟨name, params, results, vars, slots, blocks⟩ := ⟨_, rfl⟩
  rw [← hr]
  unfold headF at hr
  unfold codV
  simp only at hr hl ⊢
  obtain ⟨n, hn⟩ : ∃ n, n = blocks.length := ⟨_, rfl⟩
  rw [← hn] at hr hl ⊢
  clear hn
  unfold maxLen at hl
  have HR : Hid (r = _) := hr
  clear hr
  have HBE : Hid (Below w.heap.size w (w.alloc (.cells #[.string ⟨name.toArray⟩, .int .i64 params, .int .i64 results, .int .i64 vars, .int .i64 slots, .slice a n k] 30))) := below_alloc _ _
  by_cases h0 : n = 0
  · have HR2 : Hid (r = 6) := by unfold Hid; rw [HR.out, if_pos h0]
    subst h0
    go_enter Tryd.func21, Tryd.ntmps21
    go_wp2_with fail
    go_ret
    exact ⟨by rw [HR2.out]; rfl, HBE.out⟩
  have h0b : ((n : Int) == 0) = false := beq_eq_false_iff_ne.2 (by omega)
  by_cases g1 : 2000 < n ∨ 3000 < vars ∨ 16 < params ∨ 16 < results
  · have HR2 : Hid (r = 1) := by
      unfold Hid
      rw [HR.out, if_neg h0, if_pos]
      simp
      omega
    by_cases g2 : 2000 < n
    · have g2I : (2000 : Int) < (n : Int) := by omega
      go_enter Tryd.func21, Tryd.ntmps21
      go_wp2_with fail
      go_ret
      exact ⟨by rw [HR2.out]; rfl, HBE.out⟩
    have g2I : ¬ (2000 : Int) < (n : Int) := by omega
    by_cases g3 : 3000 < vars
    · go_enter Tryd.func21, Tryd.ntmps21
      go_wp2_with fail
      go_ret
      exact ⟨by rw [HR2.out]; rfl, HBE.out⟩
    by_cases g4 : 16 < params
    · go_enter Tryd.func21, Tryd.ntmps21
      go_wp2_with fail
      go_ret
      exact ⟨by rw [HR2.out]; rfl, HBE.out⟩
    have g5 : 16 < results := by omega
    go_enter Tryd.func21, Tryd.ntmps21
    go_wp2_with fail
    go_ret
    exact ⟨by rw [HR2.out]; rfl, HBE.out⟩
  have g2I : ¬ (2000 : Int) < (n : Int) := by omega
  have g3 : ¬ 3000 < vars := by omega
  have g4 : ¬ 16 < params := by omega
  have g5 : ¬ 16 < results := by omega
  have hfirst : (decide (2000 < n) || decide (3000 < vars) || decide (16 < params) || decide (16 < results)) = false := by simp; omega
  have HF1 : Hid (_) := hfirst
  clear g1 hfirst
  by_cases k1 : params < 0
  · have HR2 : Hid (r = 2) := by
      unfold Hid
      rw [HR.out, if_neg h0, HF1.out, if_neg (by simp), if_pos]
      simp [k1]
    go_enter Tryd.func21, Tryd.ntmps21
    go_wp2_with fail
    go_ret
    exact ⟨by rw [HR2.out]; rfl, HBE.out⟩
  by_cases k2 : results < 0
  · have HR2 : Hid (r = 2) := by
      unfold Hid
      rw [HR.out, if_neg h0, HF1.out, if_neg (by simp), if_pos]
      simp [k2]
    go_enter Tryd.func21, Tryd.ntmps21
    go_wp2_with fail
    go_ret
    exact ⟨by rw [HR2.out]; rfl, HBE.out⟩
  by_cases k3 : vars < params
  · have HR2 : Hid (r = 2) := by
      unfold Hid
      rw [HR.out, if_neg h0, HF1.out, if_neg (by simp), if_pos]
      simp [k3]
    go_enter Tryd.func21, Tryd.ntmps21
    go_wp2_with fail
    go_ret
    exact ⟨by rw [HR2.out]; rfl, HBE.out⟩
  rcases k4 : (slots != 0) with _ | _
  · have HR2 : Hid (r = 0) := by
      unfold Hid
      rw [HR.out, if_neg h0, HF1.out, if_neg (by simp), if_neg]
      simp [k4]
      omega
    go_enter Tryd.func21, Tryd.ntmps21
    go_wp2_with fail
    go_ret
    exact ⟨by rw [HR2.out]; rfl, HBE.out⟩
  · have HR2 : Hid (r = 2) := by
      unfold Hid
      rw [HR.out, if_neg h0, HF1.out, if_neg (by simp), if_pos]
      simp [k4]
    go_enter Tryd.func21, Tryd.ntmps21
    go_wp2_with fail
    go_ret
    exact ⟨by rw [HR2.out]; rfl, HBE.out⟩

set_option maxHeartbeats 8000000 in
set_option maxRecDepth 20000 in
theorem instr_any (i : Ins) (c : Cod) (fs : List Cod) (vf vb vd va vt : Value) (mp B : Nat) (w : World) (h : Ck w B mp vf fs) (hvb : ∃ a k, vb = .slice a c.blocks.length k) (hbl : c.blocks.length ≤ 2000)
    (hd : Nums B w vd i.ds) (ha : Nums B w va i.ar) (ht : Nums B w vt i.to) (hs : i.s.length ≤ maxLen) :
    Calls Tryd.prog 40 #[chkV vf mp c vb, insV i vd va vt] w fun e w' => e = .returned (.int .i64 (instrF fs c i)) ∧ Below w.heap.size w w' := by
  have hB := h.le
  have HH : Hid (_) := h
  obtain ⟨a1, k1, rfl⟩ := Lies.slice h.cods
  obtain ⟨a2, k2, rfl⟩ := hvb
  obtain ⟨ad, kd, rfl⟩ := Lies.slice hd
  obtain ⟨a4, k4, rfl⟩ := Lies.slice ha
  obtain ⟨a5, k5, rfl⟩ := Lies.slice ht
  obtain ⟨r, hr⟩ : ∃ r, r = instrF fs c i := ⟨_, rfl⟩
  rw [← hr]
  have HR : Hid (r = _) := hr
  have HD : Hid (Nums B w (.slice ad i.ds.length kd) i.ds) := hd
  have HA : Hid (Nums B w (.slice a4 i.ar.length k4) i.ar) := ha
  have HT : Hid (Nums B w (.slice a5 i.to.length k5) i.to) := ht
  have HS : Hid (_) := hs
  have HBL : Hid (_) := hbl
  obtain ⟨W, hW⟩ : ∃ W, W = (w.alloc (Obj.cells #[Value.slice a1 fs.length k1, Value.map (some mp), Value.string ⟨c.name.toArray⟩, Value.int IntKind.i64 c.params, Value.int IntKind.i64 c.results, Value.int IntKind.i64 c.vars, Value.int IntKind.i64 c.slots, Value.slice a2 c.blocks.length k2] 62)).alloc (Obj.cells #[Value.int IntKind.i64 i.op, Value.slice ad i.ds.length kd, Value.slice a4 i.ar.length k4, Value.int IntKind.i64 i.n, Value.string ⟨i.s.toArray⟩, Value.slice a5 i.to.length k5] 25) := ⟨_, rfl⟩
  have HW : Hid (Below w.heap.size w W) := by rw [hW]; exact below_after (below_alloc _ _) (below_alloc _ _)
  have hWs : W.heap.size = w.heap.size + 2 := by rw [hW]; simp
  have HC1 : Hid (W.heap[w.heap.size]? = some (Obj.cells #[Value.slice a1 fs.length k1, Value.map (some mp), Value.string ⟨c.name.toArray⟩, Value.int IntKind.i64 c.params, Value.int IntKind.i64 c.results, Value.int IntKind.i64 c.vars, Value.int IntKind.i64 c.slots, Value.slice a2 c.blocks.length k2] 62)) := by rw [hW]; exact (heap_alloc2 w _ _).1
  have HC2 : Hid (W.heap[w.heap.size + 1]? = some (Obj.cells #[Value.int IntKind.i64 i.op, Value.slice ad i.ds.length kd, Value.slice a4 i.ar.length k4, Value.int IntKind.i64 i.n, Value.string ⟨i.s.toArray⟩, Value.slice a5 i.to.length k5] 25)) := by rw [hW]; exact (heap_alloc2 w _ _).2
  have HWS : Hid (W = _) := hW
  clear h hd ha ht hs hbl hr hW
  unfold chkV insV
  by_cases o1 : i.op < 1
  · have HR2 : Hid (r = 3) := by unfold Hid; rw [HR.out, instrF, if_pos]; simp [o1]
    go_enter Tryd.func40, Tryd.ntmps40
    go_wp2_with fail
    go_ret
    exact ⟨by rw [HR2.out]; rfl, HWS.out ▸ HW.out⟩
  by_cases o2 : 13 < i.op
  · have HR2 : Hid (r = 3) := by unfold Hid; rw [HR.out, instrF, if_pos]; simp [o2]
    go_enter Tryd.func40, Tryd.ntmps40
    go_wp2_with fail
    go_ret
    exact ⟨by rw [HR2.out]; rfl, HWS.out ▸ HW.out⟩
  have ho : (decide (i.op < 1) || decide (13 < i.op)) = false := by simp; omega
  have HO : Hid (_) := ho
  clear ho
  go_enter Tryd.func40, Tryd.ntmps40
  go_wp2_with fail
  rw [← HWS.out]
  refine (hasCounts_any i (by omega) (by omega) _ _ _ _ _ _ W (HH.out.below HW.out).tab (Nat.lt_of_lt_of_le HH.out.far (by omega))).mono ?_
  rintro e w1 ⟨rfl, hb1⟩
  have HB1 : Hid (Below w.heap.size w w1) := below_after HW.out hb1
  have hs1 := hb1.size
  have HK1 : Hid (w1.heap[w.heap.size]? = _) := (hb1.block _ (by omega)).trans HC1.out
  have HK2 : Hid (w1.heap[w.heap.size + 1]? = _) := (hb1.block _ (by omega)).trans HC2.out
  have p1 := cells8 HK1.out
  have p2 := cells6 HK2.out
  clear hb1 HC1 HC2 HWS
  rcases b1 : countOk i.op i.ds.length i.ar.length i.to.length with _ | _
  · have HR2 : Hid (r = 10) := by unfold Hid; rw [HR.out, instrF, HO.out, b1]; rfl
    go_wp2_with fail
    go_ret
    exact ⟨by rw [HR2.out]; rfl, HB1.out⟩
  go_wp2_with fail
  clear p1 p2
  refine (inBounds_any i c _ _ _ _ _ mp B w1 (by omega) ⟨_, _, _, rfl⟩ ⟨_, _, rfl⟩ (HD.out.below (HB1.out.mono hB)) (HA.out.below (HB1.out.mono hB)) (HT.out.below (HB1.out.mono hB)) HBL.out).mono ?_
  rintro e w2 ⟨rfl, hb2⟩
  have HB2 : Hid (Below w.heap.size w w2) := below_after HB1.out hb2
  have hs2 := hb2.size
  have HL1 : Hid (w2.heap[w.heap.size]? = _) := (hb2.block _ (by omega)).trans HK1.out
  have HL2 : Hid (w2.heap[w.heap.size + 1]? = _) := (hb2.block _ (by omega)).trans HK2.out
  have p1 := cells8 HL1.out
  have p2 := cells6 HL2.out
  clear hb2 HK1 HK2
  rcases b2 : (belowB c.vars i.ds && (belowB c.vars i.ar && belowB c.blocks.length i.to)) with _ | _
  · have HR2 : Hid (r = 2) := by unfold Hid; rw [HR.out, instrF, HO.out, b1, b2]; rfl
    go_wp2_with fail
    go_ret
    exact ⟨by rw [HR2.out]; rfl, HB2.out⟩
  go_wp2_with fail
  clear p1 p2
  refine (inForm_any i _ _ _ ⟨_, _, _, rfl⟩ ⟨_, _, _, rfl⟩ ⟨_, _, _, rfl⟩ w2).mono ?_
  rintro e w3 ⟨rfl, hb3⟩
  have HB3 : Hid (Below w.heap.size w w3) := below_after HB2.out hb3
  have hs3 := hb3.size
  have HK1 : Hid (w3.heap[w.heap.size]? = _) := (hb3.block _ (by omega)).trans HL1.out
  have HK2 : Hid (w3.heap[w.heap.size + 1]? = _) := (hb3.block _ (by omega)).trans HL2.out
  have p1 := cells8 HK1.out
  have p2 := cells6 HK2.out
  clear hb3 HL1 HL2
  rcases b3 : formB i with _ | _
  · have HR2 : Hid (r = 4) := by unfold Hid; rw [HR.out, instrF, HO.out, b1, b2, b3]; rfl
    go_wp2_with fail
    go_ret
    exact ⟨by rw [HR2.out]; rfl, HB3.out⟩
  go_wp2_with fail
  clear p1 p2
  refine (argsFit_any i c _ _ _ _ _ mp w3 ⟨_, _, _, rfl⟩ ⟨_, _, _, rfl⟩ ⟨_, _, _, rfl⟩ ⟨_, _, rfl⟩ ⟨_, _, _, rfl⟩).mono ?_
  rintro e w4 ⟨rfl, hb4⟩
  have HB4 : Hid (Below w.heap.size w w4) := below_after HB3.out hb4
  have hs4 := hb4.size
  have HL1 : Hid (w4.heap[w.heap.size]? = _) := (hb4.block _ (by omega)).trans HK1.out
  have HL2 : Hid (w4.heap[w.heap.size + 1]? = _) := (hb4.block _ (by omega)).trans HK2.out
  have p1 := cells8 HL1.out
  have p2 := cells6 HL2.out
  clear hb4 HK1 HK2
  rcases b4 : argsB c.results i with _ | _
  · have HR2 : Hid (r = 10) := by unfold Hid; rw [HR.out, instrF, HO.out, b1, b2, b3, b4]; rfl
    go_wp2_with fail
    go_ret
    exact ⟨by rw [HR2.out]; rfl, HB4.out⟩
  rcases b5 : (i.op == 7) with _ | _
  · have HR2 : Hid (r = 0) := by unfold Hid; rw [HR.out, instrF, HO.out, b1, b2, b3, b4, b5]; rfl
    go_wp2_with fail
    go_ret
    exact ⟨by rw [HR2.out]; rfl, HB4.out⟩
  have HR2 : Hid (r = invokeF fs i) := by unfold Hid; rw [HR.out, instrF, HO.out, b1, b2, b3, b4, b5]; rfl
  go_wp2_with fail
  clear p1 p2
  refine (invoke_any i c fs _ _ _ _ _ mp B w4 (by omega) (HH.out.below HB4.out).cods (HH.out.below HB4.out).pl ⟨_, _, _, rfl⟩ (HD.out.below (HB4.out.mono hB)) ⟨_, _, rfl⟩ ⟨_, _, _, rfl⟩ HS.out).mono ?_
  rintro e w5 ⟨rfl, hb5⟩
  have HB5 : Hid (Below w.heap.size w w5) := below_after HB4.out hb5
  clear hb5
  go_wp2_with fail
  go_ret
  exact ⟨by rw [HR2.out]; rfl, HB5.out⟩

end Go.Proofs.YtbpnfoihonehgadDoor
