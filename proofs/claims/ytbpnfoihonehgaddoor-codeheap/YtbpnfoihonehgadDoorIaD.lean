/-
  The table of counts; hasCounts, argsFit.
-/
import Derived.Test.YtbpnfoihonehgadDoorIaC
namespace Go.Proofs.YtbpnfoihonehgadDoor
open Go.RowKit
set_option linter.unusedSimpArgs false
set_option linter.unusedVariables false

/-- the table of package ir: three numbers an operator -/
def ctL : List (Int × Int × Int) := [(0, 0, 0), (1, 0, 0), (1, 1, 0), (1, 2, 0), (1, 1, 0), (0, 2, 0), (1, 1, 0), (-1, -1, 0), (0, -1, 0), (0, 0, 1), (0, 1, 2), (0, 1, -2), (0, -1, 0), (0, 0, 0)]
def ct1 (i : Nat) : Int := (ctL.getD i (0, 0, 0)).1
def ct2 (i : Nat) : Int := (ctL.getD i (0, 0, 0)).2.1
def ct3 (i : Nat) : Int := (ctL.getD i (0, 0, 0)).2.2

def TabC (w : World) : Prop := ∀ i, i < 14 → w.cell? ⟨1, i * 3, none⟩ = some (.int .i64 (ct1 i)) ∧ w.cell? ⟨1, i * 3 + 1, none⟩ = some (.int .i64 (ct2 i)) ∧ w.cell? ⟨1, i * 3 + 2, none⟩ = some (.int .i64 (ct3 i))

theorem TabC.below {w w' : World} {B : Nat} (h : TabC w) (hB : 1 < B) (k : Below B w w') : TabC w' := by
  have g1 := hB
  intro i hi
  obtain ⟨h1, h2, h3⟩ := h i hi
  exact ⟨(k.cell (p := ⟨1, i * 3, none⟩) g1).trans h1, (k.cell (p := ⟨1, i * 3 + 1, none⟩) g1).trans h2, (k.cell (p := ⟨1, i * 3 + 2, none⟩) g1).trans h3⟩

set_option maxHeartbeats 4000000 in
theorem hasCounts_at (i : Ins) (k : Nat) (hk : k < 14) (hop : i.op = (k : Int)) (ad : Option Addr) (cd : Nat) (aa : Option Addr) (ca : Nat) (at' : Option Addr) (ct : Nat) (w : World) (hT : TabC w) (hG : 1 < w.heap.size) :
    Calls Tryd.prog 53 #[insV i (.slice ad i.ds.length cd) (.slice aa i.ar.length ca) (.slice at' i.to.length ct)] w fun e w' => e = .returned (.bool (fitsB i.ds.length (ct1 k) && (fitsB i.ar.length (ct2 k) && fitsB i.to.length (ct3 k)))) ∧ Below w.heap.size w w' := by
  obtain ⟨t1, t2, t3⟩ := hT k hk
  obtain ⟨n1, hn1⟩ : ∃ n, n = i.ds.length := ⟨_, rfl⟩
  obtain ⟨n2, hn2⟩ : ∃ n, n = i.ar.length := ⟨_, rfl⟩
  obtain ⟨n3, hn3⟩ : ∃ n, n = i.to.length := ⟨_, rfl⟩
  rw [← hn1, ← hn2, ← hn3]
  obtain ⟨op, ds, ar, nn, s, to⟩ := i
  simp only at hop
  unfold insV
  simp only
  have hk0 : (0 : Int) ≤ op := by omega
  have hk14 : op < 14 := by omega
  have hkn : op.toNat = k := by omega
  generalize ct1 k = x1 at t1 ⊢
  generalize ct2 k = x2 at t2 ⊢
  generalize ct3 k = x3 at t3 ⊢
  have hlt : 1 < w.heap.size := hG
  clear hT hn1 hn2 hn3 hG
  subst hop
  go_enter Tryd.func53, Tryd.ntmps53
  go_wp2_with fail
  refine (fits_any _ _ _).mono ?_
  rintro e w1 ⟨rfl, hw1⟩
  have hw1' := hw1.symm
  subst hw1'
  have HB : Hid (Below w.heap.size w ((w.alloc (Obj.cells #[Value.int IntKind.i64 (k : Int), Value.slice ad n1 cd, Value.slice aa n2 ca, Value.int IntKind.i64 nn, Value.string ⟨s.toArray⟩, Value.slice at' n3 ct] 25)).alloc (Obj.cells #[Value.int IntKind.i64 x1, Value.int IntKind.i64 x2, Value.int IntKind.i64 x3] 106))) := below_after (below_alloc _ _) (below_alloc _ _)
  rcases hb1 : fitsB (n1 : Int) x1 with _ | _
  · go_wp2_with fail
    go_ret
    exact ⟨by simp [hb1], HB.out⟩
  · go_wp2_with fail
    refine (fits_any _ _ _).mono ?_
    rintro e w1 ⟨rfl, hw1⟩
    have hw1' := hw1.symm
    subst hw1'
    rcases hb2 : fitsB (n2 : Int) x2 with _ | _
    · go_wp2_with fail
      go_ret
      exact ⟨by simp [hb1, hb2], HB.out⟩
    · go_wp2_with fail
      refine (fits_any _ _ _).mono ?_
      rintro e w1 ⟨rfl, hw1⟩
      have hw1' := hw1.symm
      subst hw1'
      go_wp2_with fail
      go_ret
      exact ⟨by simp [hb1, hb2], HB.out⟩

theorem fits_n (n : Nat) (x : Nat) : fitsB (n : Int) (x : Int) = (n == x) := by
  unfold fitsB
  have h1 : ((x : Int) == -1) = false := beq_eq_false_iff_ne.2 (by omega)
  have h2 : ((x : Int) == -2) = false := beq_eq_false_iff_ne.2 (by omega)
  rw [h1, h2]
  by_cases h : n = x
  · subst h; simp
  · have h3 : ((n : Int) == (x : Int)) = false := beq_eq_false_iff_ne.2 (by omega)
    have h4 : (n == x) = false := beq_eq_false_iff_ne.2 h
    rw [h3, h4]
    rfl

theorem fits_any1 (n : Nat) : fitsB (n : Int) (-1) = true := by unfold fitsB; simp
theorem fits_some (n : Nat) : fitsB (n : Int) (-2) = decide (0 < n) := by
  unfold fitsB
  have h1 : ((n : Int) == -2) = false := beq_eq_false_iff_ne.2 (by omega)
  rw [h1]
  simp

theorem counts_eq (k d a t : Nat) (h1 : 1 ≤ k) (h2 : k < 14) : (fitsB d (ct1 k) && (fitsB a (ct2 k) && fitsB t (ct3 k))) = countOk (k : Int) d a t := by
  have f0 : ∀ n : Nat, fitsB (n : Int) 0 = (n == 0) := fun n => fits_n n 0
  have f1 : ∀ n : Nat, fitsB (n : Int) 1 = (n == 1) := fun n => fits_n n 1
  have f2 : ∀ n : Nat, fitsB (n : Int) 2 = (n == 2) := fun n => fits_n n 2
  have f3 := fits_any1
  have f4 := fits_some
  match k, h1, h2 with
  | 1, _, _ =>
    show (fitsB (d : Int) 1 && (fitsB (a : Int) 0 && fitsB (t : Int) 0)) = (d == 1 && (a == 0 && t == 0))
    rw [f1 d, f0 a, f0 t]
  | 2, _, _ =>
    show (fitsB (d : Int) 1 && (fitsB (a : Int) 1 && fitsB (t : Int) 0)) = (d == 1 && (a == 1 && t == 0))
    rw [f1 d, f1 a, f0 t]
  | 3, _, _ =>
    show (fitsB (d : Int) 1 && (fitsB (a : Int) 2 && fitsB (t : Int) 0)) = (d == 1 && (a == 2 && t == 0))
    rw [f1 d, f2 a, f0 t]
  | 4, _, _ =>
    show (fitsB (d : Int) 1 && (fitsB (a : Int) 1 && fitsB (t : Int) 0)) = (d == 1 && (a == 1 && t == 0))
    rw [f1 d, f1 a, f0 t]
  | 5, _, _ =>
    show (fitsB (d : Int) 0 && (fitsB (a : Int) 2 && fitsB (t : Int) 0)) = (d == 0 && (a == 2 && t == 0))
    rw [f0 d, f2 a, f0 t]
  | 6, _, _ =>
    show (fitsB (d : Int) 1 && (fitsB (a : Int) 1 && fitsB (t : Int) 0)) = (d == 1 && (a == 1 && t == 0))
    rw [f1 d, f1 a, f0 t]
  | 7, _, _ =>
    show (fitsB (d : Int) (-1) && (fitsB (a : Int) (-1) && fitsB (t : Int) 0)) = (t == 0)
    rw [f3 d, f3 a, f0 t]
    rfl
  | 8, _, _ =>
    show (fitsB (d : Int) 0 && (fitsB (a : Int) (-1) && fitsB (t : Int) 0)) = (d == 0 && t == 0)
    rw [f0 d, f3 a, f0 t]
    rfl
  | 9, _, _ =>
    show (fitsB (d : Int) 0 && (fitsB (a : Int) 0 && fitsB (t : Int) 1)) = (d == 0 && (a == 0 && t == 1))
    rw [f0 d, f0 a, f1 t]
  | 10, _, _ =>
    show (fitsB (d : Int) 0 && (fitsB (a : Int) 1 && fitsB (t : Int) 2)) = (d == 0 && (a == 1 && t == 2))
    rw [f0 d, f1 a, f2 t]
  | 11, _, _ =>
    show (fitsB (d : Int) 0 && (fitsB (a : Int) 1 && fitsB (t : Int) (-2))) = (d == 0 && (a == 1 && decide (0 < t)))
    rw [f0 d, f1 a, f4 t]
  | 12, _, _ =>
    show (fitsB (d : Int) 0 && (fitsB (a : Int) (-1) && fitsB (t : Int) 0)) = (d == 0 && t == 0)
    rw [f0 d, f3 a, f0 t]
    rfl
  | 13, _, _ =>
    show (fitsB (d : Int) 0 && (fitsB (a : Int) 0 && fitsB (t : Int) 0)) = (d == 0 && (a == 0 && t == 0))
    rw [f0 d, f0 a, f0 t]

theorem hasCounts_any (i : Ins) (h1 : 1 ≤ i.op) (h2 : i.op ≤ 13) (ad : Option Addr) (cd : Nat) (aa : Option Addr) (ca : Nat) (at' : Option Addr) (ct : Nat) (w : World) (hT : TabC w) (hG : 1 < w.heap.size) :
    Calls Tryd.prog 53 #[insV i (.slice ad i.ds.length cd) (.slice aa i.ar.length ca) (.slice at' i.to.length ct)] w fun e w' => e = .returned (.bool (countOk i.op i.ds.length i.ar.length i.to.length)) ∧ Below w.heap.size w w' := by
  have hk : i.op = ((i.op.toNat : Nat) : Int) := by omega
  have he := counts_eq i.op.toNat i.ds.length i.ar.length i.to.length (by omega) (by omega)
  rw [← hk] at he
  rw [← he]
  exact hasCounts_at i i.op.toNat (by omega) hk ad cd aa ca at' ct w hT hG

end Go.Proofs.YtbpnfoihonehgadDoor
