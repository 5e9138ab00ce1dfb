/-
  Package sound: an instruction.
-/
import Derived.Test.YthlngmknifpbjaaDoorJSoI
import Derived.Test.YthlngmknifpbjaaDoorJSoR
namespace Go.Proofs.YthlngmknifpbjaaDoor
section
open Go.RowKit Go.Maps
set_option linter.unusedSimpArgs false
set_option linter.unusedVariables false

/-- what a look at code stands on: the functions, their places, the rules -/
structure Ck (w : World) (B mp qc : Nat) (vf : Value) (fs : List Cod) : Prop where
  le : B ≤ w.heap.size
  cods : Cods B w vf fs
  pl : MapAt w mp (plD 0 (.map []) fs)
  inv : RInv w B qc

theorem Ck.belowN {w w' : World} {B mp qc N : Nat} {vf : Value} {fs : List Cod} (h : Ck w B mp qc vf fs) (hN : B ≤ N) (hm : mp < N) (k : Below N w w') : Ck w' B mp qc vf fs :=
  ⟨Nat.le_trans h.le k.size, h.cods.below (k.mono hN), h.pl.same (k.block _ hm), h.inv.below hN k⟩
theorem Ck.below {w w' : World} {B mp qc : Nat} {vf : Value} {fs : List Cod} (h : Ck w B mp qc vf fs) (k : Below w.heap.size w w') : Ck w' B mp qc vf fs := h.belowN h.le h.pl.lt k

def headS (c : Cod) : Int := if c.blocks.length = 0 then 6 else if decide (2000 < c.blocks.length) || (decide (16 < c.params) || (decide (16 < c.results) || bigS c)) then 1 else if decide (c.params < 0) || (decide (c.results < 0) || offS c) then 2 else 0
def instrS (fs : List Cod) (c : Cod) (i : Ins) : Int :=
  if !(cntS i.op).isSome then 3 else if !(fitsB i.ds.length (cV i.op).1 && (fitsB i.ar.length (cV i.op).2.1 && fitsB i.to.length (cV i.op).2.2)) then 10 else if !(belowB c.blocks.length i.to && hasS c i) then 2
  else if !formB i then 4 else if !argsB c.results i then 10 else if i.op == 7 then invokeF fs i else 0

def rulV (qc : Nat) (N : Int) : Value := .agg #[.func (.func 37) #[] #[], .func (.func 38) #[] #[], .func (.func 39) #[] #[], .func (.func 40) #[] #[], .int .i64 N]

theorem cells5 {w : World} {x : Nat} {T : TypeId} {f : Nat × Nat} {c0 c1 c2 c3 c4 : Value} (h : w.heap[x]? = some (.cells #[c0, c1, c2, c3, c4] T f)) :
    w.cell? ⟨x, 0, none⟩ = some c0 ∧ w.cell? ⟨x, 1, none⟩ = some c1 ∧ w.cell? ⟨x, 2, none⟩ = some c2 ∧ w.cell? ⟨x, 3, none⟩ = some c3 ∧ w.cell? ⟨x, 4, none⟩ = some c4 := by simp [World.cell?, h]

set_option maxHeartbeats 4000000 in
theorem head_any (c : Cod) (a : Option Addr) (k qc : Nat) (N : Int) (w : World) (hl : c.blocks.length ≤ maxLen) :
    Calls Tryd.prog 54 #[rulV qc N, codV c (.slice a c.blocks.length k)] w fun e w' => e = .returned (.int .i64 (headS c)) ∧ Below w.heap.size w w' := by
  obtain ⟨r, hr⟩ : ∃ r, r = headS c := ⟨_, rfl⟩
  rw [← hr]
  unfold headS at hr
  have HBG : Hid (∀ (n : Nat) (w : World), Calls Tryd.prog 38 #[codV c (.slice a n k)] w fun e w' => e = .returned (.bool (bigS c)) ∧ Below w.heap.size w w') := fun n w => big_any c a n k w
  have HOF : Hid (∀ (n : Nat) (w : World), Calls Tryd.prog 39 #[codV c (.slice a n k)] w fun e w' => e = .returned (.bool (offS c)) ∧ Below w.heap.size w w') := fun n w => off_any c a n k w
  generalize bigS c = bg at hr HBG
  generalize offS c = of at hr HOF
  obtain ⟨name, params, results, vars, slots, blocks⟩ := c
  unfold codV at HBG HOF ⊢
  unfold rulV
  simp only at hr hl HBG HOF ⊢
  obtain ⟨n, hn⟩ : ∃ n, n = blocks.length := ⟨_, rfl⟩
  rw [← hn] at hr hl ⊢
  clear hn
  unfold maxLen at hl
  have HR : Hid (r = _) := hr
  clear hr
  obtain ⟨W, hW⟩ : ∃ W, W = (w.alloc (.cells #[.func (.func 37) #[] #[], .func (.func 38) #[] #[], .func (.func 39) #[] #[], .func (.func 40) #[] #[], .int .i64 N] 59)).alloc (.cells #[.string ⟨name.toArray⟩, .int .i64 params, .int .i64 results, .int .i64 vars, .int .i64 slots, .slice a n k] 28) := ⟨_, rfl⟩
  have HW : Hid (Below w.heap.size w W) := by rw [hW]; exact below_after (below_alloc _ _) (below_alloc _ _)
  have hWs : W.heap.size = w.heap.size + 2 := by rw [hW]; simp
  have HC1 : Hid (W.heap[w.heap.size]? = some (.cells #[.func (.func 37) #[] #[], .func (.func 38) #[] #[], .func (.func 39) #[] #[], .func (.func 40) #[] #[], .int .i64 N] 59)) := by rw [hW]; exact (heap_alloc2 w _ _).1
  have HC2 : Hid (W.heap[w.heap.size + 1]? = some (.cells #[.string ⟨name.toArray⟩, .int .i64 params, .int .i64 results, .int .i64 vars, .int .i64 slots, .slice a n k] 28)) := by rw [hW]; exact (heap_alloc2 w _ _).2
  have HWS : Hid (W = _) := hW
  clear hW
  by_cases h0 : n = 0
  · have HR2 : Hid (r = 6) := by unfold Hid; rw [HR.out, if_pos h0]
    subst h0
    go_enter Tryd.func54, Tryd.ntmps54
    go_wp2_with fail
    go_ret
    exact ⟨by rw [HR2.out]; rfl, HWS.out ▸ HW.out⟩
  have h0b : ((n : Int) == 0) = false := beq_eq_false_iff_ne.2 (by omega)
  by_cases g1 : 2000 < n ∨ 16 < params ∨ 16 < results
  · have HR2 : Hid (r = 1) := by
      unfold Hid
      rw [HR.out, if_neg h0, if_pos]
      rcases g1 with g | g | g <;> simp [g]
    by_cases g2 : 2000 < n
    · have g2I : (2000 : Int) < (n : Int) := by omega
      go_enter Tryd.func54, Tryd.ntmps54
      go_wp2_with fail
      go_ret
      exact ⟨by rw [HR2.out]; rfl, HWS.out ▸ HW.out⟩
    have g2I : ¬ (2000 : Int) < (n : Int) := by omega
    by_cases g4 : 16 < params
    · go_enter Tryd.func54, Tryd.ntmps54
      go_wp2_with fail
      go_ret
      exact ⟨by rw [HR2.out]; rfl, HWS.out ▸ HW.out⟩
    have g5 : 16 < results := by omega
    go_enter Tryd.func54, Tryd.ntmps54
    go_wp2_with fail
    go_ret
    exact ⟨by rw [HR2.out]; rfl, HWS.out ▸ HW.out⟩
  have g2I : ¬ (2000 : Int) < (n : Int) := by omega
  have g4 : ¬ 16 < params := by omega
  have g5 : ¬ 16 < results := by omega
  have HR1 : Hid (r = if bg then 1 else if decide (params < 0) || (decide (results < 0) || of) then 2 else 0) := by
    unfold Hid
    rw [HR.out, if_neg h0]
    have e : (decide (2000 < n) || (decide (16 < params) || (decide (16 < results) || bg))) = bg := by
      rw [decide_eq_false (by omega), decide_eq_false g4, decide_eq_false g5]; rfl
    rw [e]
  clear g1
  go_enter Tryd.func54, Tryd.ntmps54
  go_wp2_with fail
  rw [← HWS.out]
  refine Calls.mono (HBG.out n W) ?_
  rintro e w1 ⟨rfl, hb1⟩
  have HB1 : Hid (Below w.heap.size w w1) := below_after HW.out hb1
  have hs1 := hb1.size
  have HK1 : Hid (w1.heap[w.heap.size]? = _) := (hb1.block _ (by omega)).trans HC1.out
  have HK2 : Hid (w1.heap[w.heap.size + 1]? = _) := (hb1.block _ (by omega)).trans HC2.out
  have p1 := cells5 HK1.out
  have p2 := cells6 HK2.out
  clear hb1 HC1 HC2 HWS
  rcases bg with _ | _
  · by_cases k1 : params < 0
    · have HR2 : Hid (r = 2) := by unfold Hid; rw [HR1.out, if_neg (by simp), if_pos (by simp [k1])]
      go_wp2_with fail
      go_ret
      exact ⟨by rw [HR2.out]; rfl, HB1.out⟩
    by_cases k2 : results < 0
    · have HR2 : Hid (r = 2) := by unfold Hid; rw [HR1.out, if_neg (by simp), if_pos (by simp [k2])]
      go_wp2_with fail
      go_ret
      exact ⟨by rw [HR2.out]; rfl, HB1.out⟩
    have HR3 : Hid (r = if of then 2 else 0) := by
      unfold Hid
      rw [HR1.out, if_neg (by simp), decide_eq_false k1, decide_eq_false k2]; rfl
    go_wp2_with fail
    refine Calls.mono (HOF.out n w1) ?_
    rintro e w2 ⟨rfl, hb2⟩
    have HB2 : Hid (Below w.heap.size w w2) := below_after HB1.out hb2
    clear hb2 p1 p2
    rcases of with _ | _
    · have HR2 : Hid (r = 0) := HR3.out
      go_wp2_with fail
      go_ret
      exact ⟨by rw [HR2.out]; rfl, HB2.out⟩
    · have HR2 : Hid (r = 2) := HR3.out
      go_wp2_with fail
      go_ret
      exact ⟨by rw [HR2.out]; rfl, HB2.out⟩
  · have HR2 : Hid (r = 1) := HR1.out
    go_wp2_with fail
    go_ret
    exact ⟨by rw [HR2.out]; rfl, HB1.out⟩
end

section
open Go.RowKit Go.Maps
set_option linter.unusedSimpArgs false
set_option linter.unusedVariables false

set_option maxHeartbeats 4000000 in
theorem fit_any (i : Ins) (x1 x2 x3 : Int) (ad : Option Addr) (cd : Nat) (aa : Option Addr) (ca : Nat) (at' : Option Addr) (ct : Nat) (w : World) :
    Calls Tryd.prog 67 #[.agg #[.int .i64 x1, .int .i64 x2, .int .i64 x3], insV i (.slice ad i.ds.length cd) (.slice aa i.ar.length ca) (.slice at' i.to.length ct)] w fun e w' => e = .returned (.bool (fitsB i.ds.length x1 && (fitsB i.ar.length x2 && fitsB i.to.length x3))) ∧ Below w.heap.size w w' := by
  obtain ⟨n1, hn1⟩ : ∃ n, n = i.ds.length := ⟨_, rfl⟩
  obtain ⟨n2, hn2⟩ : ∃ n, n = i.ar.length := ⟨_, rfl⟩
  obtain ⟨n3, hn3⟩ : ∃ n, n = i.to.length := ⟨_, rfl⟩
  rw [← hn1, ← hn2, ← hn3]
  obtain ⟨op, ds, ar, nn, s, to⟩ := i
  unfold insV
  simp only
  clear hn1 hn2 hn3
  have HB : Hid (Below w.heap.size w ((w.alloc (Obj.cells #[Value.int IntKind.i64 x1, Value.int IntKind.i64 x2, Value.int IntKind.i64 x3] 73)).alloc (Obj.cells #[Value.int IntKind.i64 op, Value.slice ad n1 cd, Value.slice aa n2 ca, Value.int IntKind.i64 nn, Value.string ⟨s.toArray⟩, Value.slice at' n3 ct] 37))) := below_after (below_alloc _ _) (below_alloc _ _)
  go_enter Tryd.func67, Tryd.ntmps67
  go_wp2_with fail
  refine (fits_any _ _ _).mono ?_
  rintro e w1 ⟨rfl, hw1⟩
  have hw1' := hw1.symm
  subst hw1'
  rcases hb1 : fitsB (n1 : Int) x1 with _ | _
  · go_wp2_with fail
    go_ret
    exact ⟨by simp [hb1], HB.out⟩
  · go_wp2_with fail
    refine (fits_any _ _ _).mono ?_
    rintro e w1 ⟨rfl, hw1⟩
    have hw1' := hw1.symm
    subst hw1'
    rcases hb2 : fitsB (n2 : Int) x2 with _ | _
    · go_wp2_with fail
      go_ret
      exact ⟨by simp [hb1, hb2], HB.out⟩
    · go_wp2_with fail
      refine (fits_any _ _ _).mono ?_
      rintro e w1 ⟨rfl, hw1⟩
      have hw1' := hw1.symm
      subst hw1'
      go_wp2_with fail
      go_ret
      exact ⟨by simp [hb1, hb2], HB.out⟩

set_option maxHeartbeats 8000000 in
set_option maxRecDepth 20000 in
theorem instr_any (i : Ins) (c : Cod) (fs : List Cod) (vf vb vd va vt : Value) (mp qc B : Nat) (N : Int) (w : World) (h : Ck w B mp qc vf fs) (hvb : ∃ a k, vb = .slice a c.blocks.length k) (hbl : c.blocks.length ≤ 2000)
    (hd : Nums B w vd i.ds) (ha : Nums B w va i.ar) (ht : Nums B w vt i.to) (hs : i.s.length ≤ maxLen) :
    Calls Tryd.prog 63 #[chkV 37 38 39 40 #[] N vf mp c vb, insV i vd va vt] w fun e w' => e = .returned (.int .i64 (instrS fs c i)) ∧ Below w.heap.size w w' := by
  have hB := h.le
  have HH : Hid (_) := h
  obtain ⟨a1, k1, rfl⟩ := Lies.slice h.cods
  obtain ⟨a2, k2, rfl⟩ := hvb
  obtain ⟨ad, kd, rfl⟩ := Lies.slice hd
  obtain ⟨a4, k4, rfl⟩ := Lies.slice ha
  obtain ⟨a5, k5, rfl⟩ := Lies.slice ht
  obtain ⟨r, hr⟩ : ∃ r, r = instrS fs c i := ⟨_, rfl⟩
  rw [← hr]
  unfold instrS at hr
  obtain ⟨x1, hx1⟩ : ∃ x, x = (cV i.op).1 := ⟨_, rfl⟩
  obtain ⟨x2, hx2⟩ : ∃ x, x = (cV i.op).2.1 := ⟨_, rfl⟩
  obtain ⟨x3, hx3⟩ : ∃ x, x = (cV i.op).2.2 := ⟨_, rfl⟩
  obtain ⟨ok, hok⟩ : ∃ x, x = (cntS i.op).isSome := ⟨_, rfl⟩
  have HCN : Hid (∀ (W : World), RInv W B qc → B ≤ W.heap.size → Calls Tryd.prog 37 (#[.int .i64 i.op] ++ #[]) W fun e w' => e = .returned (.tuple #[.agg #[.int .i64 x1, .int .i64 x2, .int .i64 x3], .bool ok]) ∧ Below W.heap.size W w') := by
    intro W h1 h2
    rw [hx1, hx2, hx3, hok]
    exact cnt_any i.op B qc W h1 h2
  rw [← hx1, ← hx2, ← hx3, ← hok] at hr
  clear hx1 hx2 hx3 hok
  have HR : Hid (r = _) := hr
  have HD : Hid (Nums B w (.slice ad i.ds.length kd) i.ds) := hd
  have HA : Hid (Nums B w (.slice a4 i.ar.length k4) i.ar) := ha
  have HT : Hid (Nums B w (.slice a5 i.to.length k5) i.to) := ht
  have HS : Hid (_) := hs
  have HBL : Hid (_) := hbl
  obtain ⟨W, hW⟩ : ∃ W, W = (w.alloc (Obj.cells #[.func (.func 37) #[] #[], .func (.func 38) #[] #[], .func (.func 39) #[] #[], .func (.func 40) #[] #[], .int .i64 N, .slice a1 fs.length k1, .map (some mp), .string ⟨c.name.toArray⟩, .int .i64 c.params, .int .i64 c.results, .int .i64 c.vars, .int .i64 c.slots, .slice a2 c.blocks.length k2] 95)).alloc (Obj.cells #[Value.int IntKind.i64 i.op, Value.slice ad i.ds.length kd, Value.slice a4 i.ar.length k4, Value.int IntKind.i64 i.n, Value.string ⟨i.s.toArray⟩, Value.slice a5 i.to.length k5] 37) := ⟨_, rfl⟩
  have HW : Hid (Below w.heap.size w W) := by rw [hW]; exact below_after (below_alloc _ _) (below_alloc _ _)
  have hWs : W.heap.size = w.heap.size + 2 := by rw [hW]; simp
  have HC1 : Hid (W.heap[w.heap.size]? = some (Obj.cells #[.func (.func 37) #[] #[], .func (.func 38) #[] #[], .func (.func 39) #[] #[], .func (.func 40) #[] #[], .int .i64 N, .slice a1 fs.length k1, .map (some mp), .string ⟨c.name.toArray⟩, .int .i64 c.params, .int .i64 c.results, .int .i64 c.vars, .int .i64 c.slots, .slice a2 c.blocks.length k2] 95)) := by rw [hW]; exact (heap_alloc2 w _ _).1
  have HC2 : Hid (W.heap[w.heap.size + 1]? = some (Obj.cells #[Value.int IntKind.i64 i.op, Value.slice ad i.ds.length kd, Value.slice a4 i.ar.length k4, Value.int IntKind.i64 i.n, Value.string ⟨i.s.toArray⟩, Value.slice a5 i.to.length k5] 37)) := by rw [hW]; exact (heap_alloc2 w _ _).2
  have HWS : Hid (W = _) := hW
  clear h hd ha ht hs hbl hr hW
  unfold chkV insV
  go_enter Tryd.func63, Tryd.ntmps63
  go_wp2_with fail
  rw [← HWS.out]
  refine Calls.mono (HCN.out W (HH.out.inv.below hB HW.out) (by omega)) ?_
  rintro e w1 ⟨rfl, hb1⟩
  have HB1 : Hid (Below w.heap.size w w1) := below_after HW.out hb1
  obtain ⟨V, hV⟩ : ∃ V, V = w1.alloc (.cells #[.int .i64 x1, .int .i64 x2, .int .i64 x3] 73) := ⟨_, rfl⟩
  have hbV : Below W.heap.size W V := below_after hb1 (by rw [hV]; exact below_alloc _ _)
  have hVs : V.heap.size = w1.heap.size + 1 := by rw [hV]; simp
  have HBV : Hid (Below w.heap.size w V) := below_after HW.out hbV
  have HKVa : Hid (V.heap[w.heap.size]? = _) := (hbV.block _ (by omega)).trans HC1.out
  have HKVb : Hid (V.heap[w.heap.size + 1]? = _) := (hbV.block _ (by omega)).trans HC2.out
  have hs1 := hb1.size
  have p0 := cells3 (show V.heap[w1.heap.size]? = some (.cells #[.int .i64 x1, .int .i64 x2, .int .i64 x3] 73) by rw [hV]; exact heap_alloc_new _ _)
  have p1 := cells13 HKVa.out
  have p2 := cells6 HKVb.out
  rw [hV] at p0 p1 p2
  have HVS : Hid (V = _) := hV
  clear hb1 hbV HWS HC1 HC2 hV
  rcases ok with _ | _
  · have HR2 : Hid (r = 3) := HR.out
    go_wp2_with fail
    go_ret
    exact ⟨by rw [HR2.out]; rfl, HVS.out ▸ HBV.out⟩
  replace HR : Hid (r = _) := HR.out.trans (if_neg (by simp))
  go_wp2_with fail
  rw [← HVS.out]
  clear p0 p1 p2
  refine (fit_any i x1 x2 x3 _ _ _ _ _ _ V).mono ?_
  rintro e w2 ⟨rfl, hb2⟩
  have HB2 : Hid (Below w.heap.size w w2) := below_after HBV.out hb2
  have hs2 := hb2.size
  have HK2a : Hid (w2.heap[w.heap.size]? = _) := (hb2.block _ (by omega)).trans HKVa.out
  have HK2b : Hid (w2.heap[w.heap.size + 1]? = _) := (hb2.block _ (by omega)).trans HKVb.out
  have p1 := cells13 HK2a.out
  have p2 := cells6 HK2b.out
  clear hb2
  rcases b1 : (fitsB i.ds.length x1 && (fitsB i.ar.length x2 && fitsB i.to.length x3)) with _ | _
  · have HR2 : Hid (r = 10) := HR.out.trans (by (rw [b1]) <;> rfl)
    go_wp2_with fail
    go_ret
    exact ⟨by rw [HR2.out]; rfl, HB2.out⟩
  replace HR : Hid (r = _) := HR.out.trans (if_neg (by rw [b1]; simp))
  clear b1
  go_wp2_with fail
  clear p1 p2
  refine (below_any c.blocks.length B _ i.to w2 (by omega) (HT.out.below (HB2.out.mono hB))).mono ?_
  rintro e w3 ⟨rfl, hb3⟩
  have HB3 : Hid (Below w.heap.size w w3) := below_after HB2.out hb3
  have hs3 := hb3.size
  have HK3a : Hid (w3.heap[w.heap.size]? = _) := (hb3.block _ (by omega)).trans HK2a.out
  have HK3b : Hid (w3.heap[w.heap.size + 1]? = _) := (hb3.block _ (by omega)).trans HK2b.out
  have p1 := cells13 HK3a.out
  have p2 := cells6 HK3b.out
  clear hb3
  rcases b1 : belowB c.blocks.length i.to with _ | _
  · have HR2 : Hid (r = 2) := HR.out.trans (by (rw [b1]) <;> rfl)
    go_wp2_with fail
    go_ret
    exact ⟨by rw [HR2.out]; rfl, HB3.out⟩
  replace HR : Hid (r = _) := HR.out.trans (by rw [b1, Bool.true_and])
  clear b1
  go_wp2_with fail
  clear p1 p2
  refine (has_any c i _ _ _ _ _ _ B w3 (by omega) (HD.out.below (HB3.out.mono hB)) (HA.out.below (HB3.out.mono hB)) ⟨_, _, _, rfl⟩).mono ?_
  rintro e w4 ⟨rfl, hb4⟩
  have HB4 : Hid (Below w.heap.size w w4) := below_after HB3.out hb4
  have hs4 := hb4.size
  have HK4a : Hid (w4.heap[w.heap.size]? = _) := (hb4.block _ (by omega)).trans HK3a.out
  have HK4b : Hid (w4.heap[w.heap.size + 1]? = _) := (hb4.block _ (by omega)).trans HK3b.out
  have p1 := cells13 HK4a.out
  have p2 := cells6 HK4b.out
  clear hb4
  rcases b1 : hasS c i with _ | _
  · have HR2 : Hid (r = 2) := HR.out.trans (by (rw [b1]) <;> rfl)
    go_wp2_with fail
    go_ret
    exact ⟨by rw [HR2.out]; rfl, HB4.out⟩
  replace HR : Hid (r = _) := HR.out.trans (if_neg (by rw [b1]; simp))
  clear b1
  go_wp2_with fail
  clear p1 p2
  refine (inForm_any i _ _ _ ⟨_, _, _, rfl⟩ ⟨_, _, _, rfl⟩ ⟨_, _, _, rfl⟩ w4).mono ?_
  rintro e w5 ⟨rfl, hb5⟩
  have HB5 : Hid (Below w.heap.size w w5) := below_after HB4.out hb5
  have hs5 := hb5.size
  have HK5a : Hid (w5.heap[w.heap.size]? = _) := (hb5.block _ (by omega)).trans HK4a.out
  have HK5b : Hid (w5.heap[w.heap.size + 1]? = _) := (hb5.block _ (by omega)).trans HK4b.out
  have p1 := cells13 HK5a.out
  have p2 := cells6 HK5b.out
  clear hb5
  rcases b1 : formB i with _ | _
  · have HR2 : Hid (r = 4) := HR.out.trans (by (rw [b1]) <;> rfl)
    go_wp2_with fail
    go_ret
    exact ⟨by rw [HR2.out]; rfl, HB5.out⟩
  replace HR : Hid (r = _) := HR.out.trans (if_neg (by rw [b1]; simp))
  clear b1
  go_wp2_with fail
  clear p1 p2
  refine (argsFit_any i c _ _ _ _ _ mp w5 ⟨_, _, _, rfl⟩ ⟨_, _, _, rfl⟩ ⟨_, _, _, rfl⟩ ⟨_, _, rfl⟩ ⟨_, _, _, rfl⟩).mono ?_
  rintro e w6 ⟨rfl, hb6⟩
  have HB6 : Hid (Below w.heap.size w w6) := below_after HB5.out hb6
  have hs6 := hb6.size
  have HK6a : Hid (w6.heap[w.heap.size]? = _) := (hb6.block _ (by omega)).trans HK5a.out
  have HK6b : Hid (w6.heap[w.heap.size + 1]? = _) := (hb6.block _ (by omega)).trans HK5b.out
  have p1 := cells13 HK6a.out
  have p2 := cells6 HK6b.out
  clear hb6
  rcases b1 : argsB c.results i with _ | _
  · have HR2 : Hid (r = 10) := HR.out.trans (by (rw [b1]) <;> rfl)
    go_wp2_with fail
    go_ret
    exact ⟨by rw [HR2.out]; rfl, HB6.out⟩
  replace HR : Hid (r = _) := HR.out.trans (if_neg (by rw [b1]; simp))
  clear b1
  rcases b5 : (i.op == 7) with _ | _
  · have HR2 : Hid (r = 0) := HR.out.trans (by (rw [b5]) <;> rfl)
    go_wp2_with fail
    go_ret
    exact ⟨by rw [HR2.out]; rfl, HB6.out⟩
  have HR2 : Hid (r = invokeF fs i) := HR.out.trans (by (rw [b5]) <;> rfl)
  go_wp2_with fail
  clear p1 p2
  refine (invoke_any i c fs _ _ _ _ _ mp B w6 (by omega) (HH.out.below HB6.out).cods (HH.out.below HB6.out).pl ⟨_, _, _, rfl⟩ (HD.out.below (HB6.out.mono hB)) ⟨_, _, rfl⟩ ⟨_, _, _, rfl⟩ HS.out).mono ?_
  rintro e w7 ⟨rfl, hb7⟩
  have HB7 : Hid (Below w.heap.size w w7) := below_after HB6.out hb7
  clear hb7
  go_wp2_with fail
  go_ret
  exact ⟨by rw [HR2.out]; rfl, HB7.out⟩
end

end Go.Proofs.YthlngmknifpbjaaDoor
