/-
  Package sound: the head of code; an instruction.
-/
import Derived.Test.YtbpbpihboenbeaaDoorSoH
import Derived.Test.YtbpbpihboenbeaaDoorSoR
namespace Go.Proofs.YtbpbpihboenbeaaDoor
open Go.RowKit Go.Maps
set_option linter.unusedSimpArgs false
set_option linter.unusedVariables false

/-- what a look at code stands on: the functions, their places, the rules -/
structure Ck (w : World) (B mp qc : Nat) (vf : Value) (fs : List Cod) : Prop where
  le : B ≤ w.heap.size
  cods : Cods B w vf fs
  pl : MapAt w mp (plD 0 (.map []) fs)
  inv : RInv w B qc

theorem Ck.belowN {w w' : World} {B mp qc N : Nat} {vf : Value} {fs : List Cod} (h : Ck w B mp qc vf fs) (hN : B ≤ N) (hm : mp < N) (k : Below N w w') : Ck w' B mp qc vf fs :=
  ⟨Nat.le_trans h.le k.size, h.cods.below (k.mono hN), h.pl.same (k.block _ hm), h.inv.below hN k⟩
theorem Ck.below {w w' : World} {B mp qc : Nat} {vf : Value} {fs : List Cod} (h : Ck w B mp qc vf fs) (k : Below w.heap.size w w') : Ck w' B mp qc vf fs := h.belowN h.le h.pl.lt k

def headS (c : Cod) : Int := if c.blocks.length = 0 then 6 else if decide (2000 < c.blocks.length) || (decide (16 < c.params) || (decide (16 < c.results) || bigS c)) then 1 else if decide (c.params < 0) || (decide (c.results < 0) || offS c) then 2 else 0
def instrS (fs : List Cod) (c : Cod) (i : Ins) : Int :=
  if !(cntS i.op).isSome then 3 else if !(fitsB i.ds.length (cV i.op).1 && (fitsB i.ar.length (cV i.op).2.1 && fitsB i.to.length (cV i.op).2.2)) then 10 else if !(belowB c.blocks.length i.to && hasS c i) then 2
  else if !formB i then 4 else if !argsB c.results i then 10 else if i.op == 7 then invokeF fs i else 0

def rulV (qc : Nat) (N : Int) : Value := .agg #[.func (.func 25) #[] #[], .func (.func 26) #[] #[], .func (.func 27) #[] #[], .func (.func 28) #[] #[], .int .i64 N]

theorem cells5 {w : World} {x : Nat} {T : TypeId} {f : Nat × Nat} {c0 c1 c2 c3 c4 : Value} (h : w.heap[x]? = some (.cells #[c0, c1, c2, c3, c4] T f)) :
    w.cell? ⟨x, 0, none⟩ = some c0 ∧ w.cell? ⟨x, 1, none⟩ = some c1 ∧ w.cell? ⟨x, 2, none⟩ = some c2 ∧ w.cell? ⟨x, 3, none⟩ = some c3 ∧ w.cell? ⟨x, 4, none⟩ = some c4 := by simp [World.cell?, h]

set_option maxHeartbeats 4000000 in
theorem head_any (c : Cod) (a : Option Addr) (k qc : Nat) (N : Int) (w : World) (hl : c.blocks.length ≤ maxLen) :
    Calls Tryd.prog 45 #[rulV qc N, codV c (.slice a c.blocks.length k)] w fun e w' => e = .returned (.int .i64 (headS c)) ∧ Below w.heap.size w w' := by
  obtain ⟨r, hr⟩ : ∃ r, r = headS c := ⟨_, rfl⟩
  rw [← hr]
  unfold headS at hr
  have HBG : Hid (∀ (n : Nat) (w : World), Calls Tryd.prog 26 #[codV c (.slice a n k)] w fun e w' => e = .returned (.bool (bigS c)) ∧ Below w.heap.size w w') := fun n w => big_any c a n k w
  have HOF : Hid (∀ (n : Nat) (w : World), Calls Tryd.prog 27 #[codV c (.slice a n k)] w fun e w' => e = .returned (.bool (offS c)) ∧ Below w.heap.size w w') := fun n w => off_any c a n k w
  generalize bigS c = bg at hr HBG
  generalize offS c = of at hr HOF
  obtain ⟨name, params, results, vars, slots, blocks⟩ := c
  unfold codV at HBG HOF ⊢
  unfold rulV
  simp only at hr hl HBG HOF ⊢
  obtain ⟨n, hn⟩ : ∃ n, n = blocks.length := ⟨_, rfl⟩
  rw [← hn] at hr hl ⊢
  clear hn
  unfold maxLen at hl
  have HR : Hid (r = _) := hr
  clear hr
  obtain ⟨W, hW⟩ : ∃ W, W = (w.alloc (.cells #[.func (.func 25) #[] #[], .func (.func 26) #[] #[], .func (.func 27) #[] #[], .func (.func 28) #[] #[], .int .i64 N] 38)).alloc (.cells #[.string ⟨name.toArray⟩, .int .i64 params, .int .i64 results, .int .i64 vars, .int .i64 slots, .slice a n k] 28) := ⟨_, rfl⟩
  have HW : Hid (Below w.heap.size w W) := by rw [hW]; exact below_after (below_alloc _ _) (below_alloc _ _)
  have hWs : W.heap.size = w.heap.size + 2 := by rw [hW]; simp
  have HC1 : Hid (W.heap[w.heap.size]? = some (.cells #[.func (.func 25) #[] #[], .func (.func 26) #[] #[], .func (.func 27) #[] #[], .func (.func 28) #[] #[], .int .i64 N] 38)) := by rw [hW]; exact (heap_alloc2 w _ _).1
  have HC2 : Hid (W.heap[w.heap.size + 1]? = some (.cells #[.string ⟨name.toArray⟩, .int .i64 params, .int .i64 results, .int .i64 vars, .int .i64 slots, .slice a n k] 28)) := by rw [hW]; exact (heap_alloc2 w _ _).2
  have HWS : Hid (W = _) := hW
  clear hW
  by_cases h0 : n = 0
  · have HR2 : Hid (r = 6) := by unfold Hid; rw [HR.out, if_pos h0]
    subst h0
    go_enter Tryd.func45, Tryd.ntmps45
    go_wp2_with fail
    go_ret
    exact ⟨by rw [HR2.out]; rfl, HWS.out ▸ HW.out⟩
  have h0b : ((n : Int) == 0) = false := beq_eq_false_iff_ne.2 (by omega)
  by_cases g1 : 2000 < n ∨ 16 < params ∨ 16 < results
  · have HR2 : Hid (r = 1) := by
      unfold Hid
      rw [HR.out, if_neg h0, if_pos]
      rcases g1 with g | g | g <;> simp [g]
    by_cases g2 : 2000 < n
    · have g2I : (2000 : Int) < (n : Int) := by omega
      go_enter Tryd.func45, Tryd.ntmps45
      go_wp2_with fail
      go_ret
      exact ⟨by rw [HR2.out]; rfl, HWS.out ▸ HW.out⟩
    have g2I : ¬ (2000 : Int) < (n : Int) := by omega
    by_cases g4 : 16 < params
    · go_enter Tryd.func45, Tryd.ntmps45
      go_wp2_with fail
      go_ret
      exact ⟨by rw [HR2.out]; rfl, HWS.out ▸ HW.out⟩
    have g5 : 16 < results := by omega
    go_enter Tryd.func45, Tryd.ntmps45
    go_wp2_with fail
    go_ret
    exact ⟨by rw [HR2.out]; rfl, HWS.out ▸ HW.out⟩
  have g2I : ¬ (2000 : Int) < (n : Int) := by omega
  have g4 : ¬ 16 < params := by omega
  have g5 : ¬ 16 < results := by omega
  have HR1 : Hid (r = if bg then 1 else if decide (params < 0) || (decide (results < 0) || of) then 2 else 0) := by
    unfold Hid
    rw [HR.out, if_neg h0]
    have e : (decide (2000 < n) || (decide (16 < params) || (decide (16 < results) || bg))) = bg := by
      rw [decide_eq_false (by omega), decide_eq_false g4, decide_eq_false g5]; rfl
    rw [e]
  clear g1
  go_enter Tryd.func45, Tryd.ntmps45
  go_wp2_with fail
  rw [← HWS.out]
  refine Calls.mono (HBG.out n W) ?_
  rintro e w1 ⟨rfl, hb1⟩
  have HB1 : Hid (Below w.heap.size w w1) := below_after HW.out hb1
  have hs1 := hb1.size
  have HK1 : Hid (w1.heap[w.heap.size]? = _) := (hb1.block _ (by omega)).trans HC1.out
  have HK2 : Hid (w1.heap[w.heap.size + 1]? = _) := (hb1.block _ (by omega)).trans HC2.out
  have p1 := cells5 HK1.out
  have p2 := cells6 HK2.out
  clear hb1 HC1 HC2 HWS
  rcases bg with _ | _
  · by_cases k1 : params < 0
    · have HR2 : Hid (r = 2) := by unfold Hid; rw [HR1.out, if_neg (by simp), if_pos (by simp [k1])]
      go_wp2_with fail
      go_ret
      exact ⟨by rw [HR2.out]; rfl, HB1.out⟩
    by_cases k2 : results < 0
    · have HR2 : Hid (r = 2) := by unfold Hid; rw [HR1.out, if_neg (by simp), if_pos (by simp [k2])]
      go_wp2_with fail
      go_ret
      exact ⟨by rw [HR2.out]; rfl, HB1.out⟩
    have HR3 : Hid (r = if of then 2 else 0) := by
      unfold Hid
      rw [HR1.out, if_neg (by simp), decide_eq_false k1, decide_eq_false k2]; rfl
    go_wp2_with fail
    refine Calls.mono (HOF.out n w1) ?_
    rintro e w2 ⟨rfl, hb2⟩
    have HB2 : Hid (Below w.heap.size w w2) := below_after HB1.out hb2
    clear hb2 p1 p2
    rcases of with _ | _
    · have HR2 : Hid (r = 0) := HR3.out
      go_wp2_with fail
      go_ret
      exact ⟨by rw [HR2.out]; rfl, HB2.out⟩
    · have HR2 : Hid (r = 2) := HR3.out
      go_wp2_with fail
      go_ret
      exact ⟨by rw [HR2.out]; rfl, HB2.out⟩
  · have HR2 : Hid (r = 1) := HR1.out
    go_wp2_with fail
    go_ret
    exact ⟨by rw [HR2.out]; rfl, HB1.out⟩

end Go.Proofs.YtbpbpihboenbeaaDoor
