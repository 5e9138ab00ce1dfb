/-
  Package ssa: the climber in memory; where two ways up meet.
-/
import Derived.Test.YtjdedfgdofceeaaSbL
namespace Go.Proofs.Ytjdedfgdofceeaa
open Go.RowKit
set_option linter.unusedSimpArgs false
set_option linter.unusedVariables false

theorem cells4 {w : World} {x : Nat} {T : TypeId} {f : Nat × Nat} {c0 c1 c2 c3 : Value} (h : w.heap[x]? = some (.cells #[c0, c1, c2, c3] T f)) :
    w.cell? ⟨x, 0, none⟩ = some c0 ∧ w.cell? ⟨x, 1, none⟩ = some c1 ∧ w.cell? ⟨x, 2, none⟩ = some c2 ∧ w.cell? ⟨x, 3, none⟩ = some c3 := by simp [World.cell?, h]

/-- the nearest one above, as it stands in a row -/
def upI (u : Nat → Option Nat) (b : Nat) : Int := match u b with
  | some c => ((c : Nat) : Int)
  | none => -1
theorem upI_some {u : Nat → Option Nat} {b c : Nat} (h : u b = some c) : upI u b = (c : Int) := by unfold upI; rw [h]
theorem upI_none {u : Nat → Option Nat} {b : Nat} (h : u b = none) : upI u b = -1 := by unfold upI; rw [h]
theorem upI_set {u : Nat → Option Nat} {b z : Nat} : fset (upI u) b (z : Int) = upI (upd1 u b z) := by
  funext y; unfold fset upI upd1
  by_cases h : y = b <;> simp [h]

/-- the climber in memory -/
structure CL (w : World) (S n C gu gr gm : Nat) (U R M : Nat → Int) (cl : Int) : Prop where
  bC : w.heap[C]? = some (.cells #[.slice (some ⟨gu, 0, none⟩) n n, .slice (some ⟨gr, 0, none⟩) n n, .slice (some ⟨gm, 0, none⟩) n n, .int .i64 cl] 69)
  rU : RowI w S gu n U
  rR : RowI w S gr n R
  rM : RowI w S gm n M
  e1 : gu ≠ gr
  e2 : gu ≠ gm
  e3 : gr ≠ gm
  c1 : C ≠ gu
  c2 : C ≠ gr
  c3 : C ≠ gm
  sC : S ≤ C

variable {w w' : World} {S n C gu gr gm : Nat} {U R M : Nat → Int} {cl : Int}

theorem CL.cells (h : CL w S n C gu gr gm U R M cl) : w.cell? ⟨C, 0, none⟩ = some (.slice (some ⟨gu, 0, none⟩) n n) ∧ w.cell? ⟨C, 1, none⟩ = some (.slice (some ⟨gr, 0, none⟩) n n) ∧ w.cell? ⟨C, 2, none⟩ = some (.slice (some ⟨gm, 0, none⟩) n n) ∧ w.cell? ⟨C, 3, none⟩ = some (.int .i64 cl) := cells4 h.bC
theorem CL.ltC (h : CL w S n C gu gr gm U R M cl) : C < w.heap.size := lt_of_block h.bC
theorem CL.same (h : CL w S n C gu gr gm U R M cl) (k : w'.heap = w.heap) : CL w' S n C gu gr gm U R M cl := by
  refine ⟨by rw [k]; exact h.bC, h.rU.keep (by rw [k]), h.rR.keep (by rw [k]), h.rM.keep (by rw [k]), h.e1, h.e2, h.e3, h.c1, h.c2, h.c3, h.sC⟩
theorem CL.keep (h : CL w S n C gu gr gm U R M cl) (k : Below w.heap.size w w') : CL w' S n C gu gr gm U R M cl := by
  refine ⟨(k.block _ h.ltC).trans h.bC, h.rU.keep (k.block _ h.rU.lt.2), h.rR.keep (k.block _ h.rR.lt.2), h.rM.keep (k.block _ h.rM.lt.2), h.e1, h.e2, h.e3, h.c1, h.c2, h.c3, h.sC⟩
theorem CL.met (h : CL w S n C gu gr gm U R M cl) {i : Nat} (hi : i < n) (x : Int) : CL (w.setCell ⟨gm, i, none⟩ (.int .i64 x)) S n C gu gr gm U R (fset M i x) cl :=
  ⟨(Below.heap_setCell _ _ _ _ h.c3).trans h.bC, h.rU.off (fun e => h.e2 e.symm) _, h.rR.off (fun e => h.e3 e.symm) _, h.rM.set hi x, h.e1, h.e2, h.e3, h.c1, h.c2, h.c3, h.sC⟩
theorem CL.up (h : CL w S n C gu gr gm U R M cl) {i : Nat} (hi : i < n) (x : Int) : CL (w.setCell ⟨gu, i, none⟩ (.int .i64 x)) S n C gu gr gm (fset U i x) R M cl :=
  ⟨(Below.heap_setCell _ _ _ _ h.c1).trans h.bC, h.rU.set hi x, h.rR.off h.e1 _, h.rM.off h.e2 _, h.e1, h.e2, h.e3, h.c1, h.c2, h.c3, h.sC⟩
theorem CL.rank (h : CL w S n C gu gr gm U R M cl) {i : Nat} (hi : i < n) (x : Int) : CL (w.setCell ⟨gr, i, none⟩ (.int .i64 x)) S n C gu gr gm U (fset R i x) M cl :=
  ⟨(Below.heap_setCell _ _ _ _ h.c2).trans h.bC, h.rU.off (fun e => h.e1 e.symm) _, h.rR.set hi x, h.rM.off h.e3 _, h.e1, h.e2, h.e3, h.c1, h.c2, h.c3, h.sC⟩
theorem CL.tick (h : CL w S n C gu gr gm U R M cl) (x : Int) : CL (w.setCell ⟨C, 3, none⟩ (.int .i64 x)) S n C gu gr gm U R M x :=
  ⟨by have := heap_setCell_same (o := 3) h.bC (.int .i64 x); simpa using this, h.rU.off h.c1 _, h.rR.off h.c2 _, h.rM.off h.c3 _, h.e1, h.e2, h.e3, h.c1, h.c2, h.c3, h.sC⟩

theorem Climb.congr {r : Nat → Nat} {u : Nat → Option Nat} {mk mk' : Nat → Prop} {a0 n0 a n : Nat} (h : Climb r u mk a0 n0 a n) (k : ∀ x, mk x ↔ mk' x) : Climb r u mk' a0 n0 a n := by
  have : mk = mk' := funext fun x => propext (k x)
  subst this; exact h
theorem Met.congr {u : Nat → Option Nat} {mk mk' : Nat → Prop} {n : Nat} (h : Met u mk n) (k : ∀ x, mk x ↔ mk' x) : Met u mk' n := fun x hx => h x ((k x).2 hx)

set_option maxHeartbeats 4000000 in
set_option maxRecDepth 20000 in
theorem meet_any {pre : Nat → List Nat} {r p : Nat → Nat} {u : Nat → Option Nat} (near a : Nat) (hO : Ranks pre r p) (hS : St pre r u) (hlt : ∀ b, Rch pre b → b < n) (hR : ∀ b, Rch pre b → R b = (r b : Int))
    (h : CL w S n C gu gr gm (upI u) R M cl) (kn : Kn u near) (ka : Kn u a) (hm : Met u (fun x => x < n ∧ M x = cl) near) :
    Calls Try.prog 36 #[.pointer (some ⟨C, 0, none⟩), .int .i64 (near : Nat), .int .i64 (a : Nat)] w fun e w' =>
      ∃ (z : Nat) (M' : Nat → Int), e = .returned (.int .i64 (z : Nat)) ∧ CL w' S n C gu gr gm (upI u) R M' cl ∧ Below S w w' ∧ Kn u z ∧ (∀ x, Ch u x z ↔ (Ch u x a ∧ Ch u x near)) ∧ Met u (fun x => x < n ∧ M' x = cl) z ∧ ∀ i, M' i = M i ∨ M' i = cl := by
  have HO : Hid (_) := hO
  have HS : Hid (_) := hS
  have HLT : Hid (_) := hlt
  have HRR : Hid (∀ b, Kn u b → b < n ∧ R b = (r b : Int)) := fun b k => ⟨hlt b (k.rch hS), hR b (k.rch hS)⟩
  have HD0 : Hid (CL w S n C gu gr gm (upI u) R M cl) := h
  have HC0 : Hid (Climb r u (fun x => x < n ∧ M x = cl) a near a near) := Climb.start ka kn hm
  clear hO hS hlt h hR kn ka hm
  go_enter Try.func36, Try.ntmps36
  go_wp2_with fail
  go_loopg [1, 2] (r a + r near) (fun g s1 s2 wr => ∃ (a' n' : Nat) (M' : Nat → Int), s1 = .int .i64 (n' : Nat) ∧ s2 = .int .i64 (a' : Nat) ∧ r a' + r n' ≤ g ∧ Hid (CL wr S n C gu gr gm (upI u) R M' cl) ∧ Hid (Below S w wr) ∧ Hid (Climb r u (fun x => x < n ∧ M' x = cl) a near a' n') ∧ Hid (∀ i, M' i = M i ∨ M' i = cl))
  case atStart => exact ⟨a, near, M, rfl, rfl, Nat.le_refl _, HD0, Below.refl _ _, HC0, fun i => .inl rfl⟩
  case round =>
    clear HD0 HC0
    obtain ⟨a', n', M', rfl, rfl, hg, HD, HB, HC, HM⟩ := hrel
    by_cases hne : a' = n'
    · subst hne
      have HE : Hid (_) := HC.out.same HS.out
      go_wp2_with fail
      go_ret
      exact ⟨a', M', rfl, HD.out, HB.out, HC.out.ka, HE.out.1, HE.out.2, HM.out⟩
    · have hneI : ¬ (a' : Int) = (n' : Int) := by omega
      obtain ⟨q0, q1, q2, q3⟩ := HD.out.cells
      obtain ⟨ha1, ha2⟩ := HRR.out a' HC.out.ka
      obtain ⟨hn1, hn2⟩ := HRR.out n' HC.out.kn
      have r1 := (HD.out.rR.get ha1).1
      have r2 := (HD.out.rR.get hn1).1
      rw [ha2] at r1
      rw [hn2] at r2
      by_cases hr : r a' < r n'
      · have hrI : (r a' : Int) < (r n' : Int) := by omega
        have HCX : Hid (Climb r u (fun x => x < n ∧ M' x = cl) a near n' a') := HC.out.swap
        obtain ⟨hr1, c, hc, hrc⟩ := HCX.out.goes HS.out HO.out (by omega) (by omega)
        have HCA : Hid (u n' = some c) := hc
        obtain ⟨hA, _⟩ := HRR.out n' HCX.out.ka
        have r3 := (HD.out.rM.get hA).1
        have r3f := (HD.out.rM.get hA).2
        have r4 := (HD.out.rU.get hA).1
        rw [upI_some hc] at r4
        clear hc
        by_cases hm : M' n' = cl
        · rw [hm] at r3
          have HE : Hid (_) := HCX.out.ended HS.out hr1 ⟨hA, hm⟩
          have HMC : Hid (_) := hm
          clear hm
          go_wp2_with fail
          go_quiet (fail)
          have HD1 : Hid (CL (wr.drewN nq) S n C gu gr gm (upI u) R M' cl) := HD.out.same rfl
          have HB1 : Hid (Below S w (wr.drewN nq)) := below_drewN HB.out nq
          generalize wr.drewN nq = W1 at HD1 HB1 ⊢
          obtain ⟨q0, q1, q2, q3⟩ := HD1.out.cells
          have r3 := (HD1.out.rM.get hA).1
          rw [HMC.out] at r3
          go_wp2_with fail
          go_quiet (fail)
          have HD2 : Hid (CL (W1.drewN nq) S n C gu gr gm (upI u) R M' cl) := HD1.out.same rfl
          have HB2 : Hid (Below S w (W1.drewN nq)) := below_drewN HB1.out nq
          go_wp2_with fail
          go_ret
          exact ⟨a', M', rfl, HD2.out, HB2.out, HCX.out.kn, HE.out.1, HE.out.2, HM.out⟩
        · have HMM : Hid (M' n' ≠ cl) := hm
          go_wp2_with fail
          go_quiet (fail)
          have HD1 : Hid (CL (wr.drewN nq) S n C gu gr gm (upI u) R M' cl) := HD.out.same rfl
          have HB1 : Hid (Below S w (wr.drewN nq)) := below_drewN HB.out nq
          generalize wr.drewN nq = W1 at HD1 HB1 ⊢
          obtain ⟨q0, q1, q2, q3⟩ := HD1.out.cells
          have r3 := (HD1.out.rM.get hA).1
          go_wp2_with fail
          go_quiet (fail)
          have HD2 : Hid (CL (W1.drewN nq) S n C gu gr gm (upI u) R M' cl) := HD1.out.same rfl
          have HB2 : Hid (Below S w (W1.drewN nq)) := below_drewN HB1.out nq
          obtain ⟨W2, hW2⟩ : ∃ W2, W2 = W1.drewN nq := ⟨_, rfl⟩
          rw [← hW2] at HD2 HB2 ⊢
          clear hW2 HD HB HD1 HB1 q0 q1 q2 q3 r1 r2 r3 r3f r4
          obtain ⟨q0, q1, q2, q3⟩ := HD2.out.cells
          have r3 := (HD2.out.rM.get hA).1
          have r3f := (HD2.out.rM.get hA).2
          have HD3 : Hid (CL (W2.setCell ⟨gm, n', none⟩ (.int .i64 cl)).drew S n C gu gr gm (upI u) R (fset M' n' cl) cl) := (HD2.out.met hA cl).same rfl
          have HB3 : Hid (Below S w (W2.setCell ⟨gm, n', none⟩ (.int .i64 cl)).drew) := below_drewN (below_set HB2.out HD2.out.rM.lt.1 _) 1
          have q4 := (HD2.out.met hA cl).cells.1
          have r5 := ((HD2.out.met hA cl).rU.get hA).1
          rw [upI_some HCA.out] at r5
          go_wp2_with fail
          go_region
          go_wp2_with fail
          have HCS : Hid (Climb r u (fun x => x < n ∧ fset M' n' cl x = cl) a near c a') := (HCX.out.step HS.out hr1 HCA.out).congr fun x => by
            unfold fset
            by_cases hx : x = n'
            · simp [hx, hA]
            · simp [hx]
          have HM3 : Hid (∀ i, fset M' n' cl i = M i ∨ fset M' n' cl i = cl) := fun i => by
            unfold fset
            split
            · exact .inr rfl
            · exact HM.out i
          obtain ⟨gt, rfl⟩ : ∃ gt, gk = gt + 1 := ⟨gk - 1, by omega⟩
          go_roundg gt
          case measure => omega
          case rel => exact ⟨c, a', _, rfl, rfl, by omega, HD3, HB3, HCS, HM3⟩
      · have hrI : ¬ (r a' : Int) < (r n' : Int) := by omega
        have HCX : Hid (Climb r u (fun x => x < n ∧ M' x = cl) a near a' n') := HC.out
        obtain ⟨hr1, c, hc, hrc⟩ := HCX.out.goes HS.out HO.out (by omega) (by omega)
        have HCA : Hid (u a' = some c) := hc
        obtain ⟨hA, _⟩ := HRR.out a' HCX.out.ka
        have r3 := (HD.out.rM.get hA).1
        have r3f := (HD.out.rM.get hA).2
        have r4 := (HD.out.rU.get hA).1
        rw [upI_some hc] at r4
        clear hc
        by_cases hm : M' a' = cl
        · rw [hm] at r3
          have HE : Hid (_) := HCX.out.ended HS.out hr1 ⟨hA, hm⟩
          have HMC : Hid (_) := hm
          clear hm
          go_wp2_with fail
          go_quiet (fail)
          have HD1 : Hid (CL (wr.drewN nq) S n C gu gr gm (upI u) R M' cl) := HD.out.same rfl
          have HB1 : Hid (Below S w (wr.drewN nq)) := below_drewN HB.out nq
          generalize wr.drewN nq = W1 at HD1 HB1 ⊢
          obtain ⟨q0, q1, q2, q3⟩ := HD1.out.cells
          have r3 := (HD1.out.rM.get hA).1
          rw [HMC.out] at r3
          go_wp2_with fail
          go_quiet (fail)
          have HD2 : Hid (CL (W1.drewN nq) S n C gu gr gm (upI u) R M' cl) := HD1.out.same rfl
          have HB2 : Hid (Below S w (W1.drewN nq)) := below_drewN HB1.out nq
          go_wp2_with fail
          go_ret
          exact ⟨n', M', rfl, HD2.out, HB2.out, HCX.out.kn, HE.out.1, HE.out.2, HM.out⟩
        · have HMM : Hid (M' a' ≠ cl) := hm
          go_wp2_with fail
          go_quiet (fail)
          have HD1 : Hid (CL (wr.drewN nq) S n C gu gr gm (upI u) R M' cl) := HD.out.same rfl
          have HB1 : Hid (Below S w (wr.drewN nq)) := below_drewN HB.out nq
          generalize wr.drewN nq = W1 at HD1 HB1 ⊢
          obtain ⟨q0, q1, q2, q3⟩ := HD1.out.cells
          have r3 := (HD1.out.rM.get hA).1
          go_wp2_with fail
          go_quiet (fail)
          have HD2 : Hid (CL (W1.drewN nq) S n C gu gr gm (upI u) R M' cl) := HD1.out.same rfl
          have HB2 : Hid (Below S w (W1.drewN nq)) := below_drewN HB1.out nq
          obtain ⟨W2, hW2⟩ : ∃ W2, W2 = W1.drewN nq := ⟨_, rfl⟩
          rw [← hW2] at HD2 HB2 ⊢
          clear hW2 HD HB HD1 HB1 q0 q1 q2 q3 r1 r2 r3 r3f r4
          obtain ⟨q0, q1, q2, q3⟩ := HD2.out.cells
          have r3 := (HD2.out.rM.get hA).1
          have r3f := (HD2.out.rM.get hA).2
          have HD3 : Hid (CL (W2.setCell ⟨gm, a', none⟩ (.int .i64 cl)).drew S n C gu gr gm (upI u) R (fset M' a' cl) cl) := (HD2.out.met hA cl).same rfl
          have HB3 : Hid (Below S w (W2.setCell ⟨gm, a', none⟩ (.int .i64 cl)).drew) := below_drewN (below_set HB2.out HD2.out.rM.lt.1 _) 1
          have q4 := (HD2.out.met hA cl).cells.1
          have r5 := ((HD2.out.met hA cl).rU.get hA).1
          rw [upI_some HCA.out] at r5
          go_wp2_with fail
          go_region
          go_wp2_with fail
          have HCS : Hid (Climb r u (fun x => x < n ∧ fset M' a' cl x = cl) a near c n') := (HCX.out.step HS.out hr1 HCA.out).congr fun x => by
            unfold fset
            by_cases hx : x = a'
            · simp [hx, hA]
            · simp [hx]
          have HM3 : Hid (∀ i, fset M' a' cl i = M i ∨ fset M' a' cl i = cl) := fun i => by
            unfold fset
            split
            · exact .inr rfl
            · exact HM.out i
          obtain ⟨gt, rfl⟩ : ∃ gt, gk = gt + 1 := ⟨gk - 1, by omega⟩
          go_roundg gt
          case measure => omega
          case rel => exact ⟨c, n', _, rfl, rfl, by omega, HD3, HB3, HCS, HM3⟩

end Go.Proofs.Ytjdedfgdofceeaa
