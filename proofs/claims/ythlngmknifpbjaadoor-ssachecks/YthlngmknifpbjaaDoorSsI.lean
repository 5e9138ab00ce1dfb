/-
  Package ssa: whether a block can be done, whether one is above another one; whether a variable has its value at a spot.
-/
import Derived.Test.YthlngmknifpbjaaDoorSsH
import Derived.Deep.RegionHeld3
namespace Go.Proofs.YthlngmknifpbjaaDoor
open Go.RowKit Go.Maps
set_option linter.unusedSimpArgs false
set_option linter.unusedVariables false

def flowV (v0 v1 v2 v3 v4 v5 v6 : Value) : Value := .agg #[v0, v1, v2, v3, v4, v5, v6]
theorem cells7' {w : World} {x : Nat} {T : TypeId} {f : Nat × Nat} {c0 c1 c2 c3 c4 c5 c6 : Value} (h : w.heap[x]? = some (.cells #[c0, c1, c2, c3, c4, c5, c6] T f)) :
    w.cell? ⟨x, 5, none⟩ = some c5 ∧ w.cell? ⟨x, 6, none⟩ = some c6 := by simp [World.cell?, h]

set_option maxHeartbeats 2000000 in
set_option maxRecDepth 20000 in
theorem canBe_any (v0 v1 v2 v3 v4 v6 : Value) (g5 n b : Nat) (A : Nat → Int) (w : World) (hb : b < n) (h5 : RowI w 0 g5 n A) :
    Calls Tryd.prog 50 #[flowV v0 v1 v2 v3 v4 (.slice (some ⟨g5, 0, none⟩) n n) v6, .int .i64 (b : Nat)] w fun e w' => e = .returned (.bool (A b != -1)) ∧ Below w.heap.size w w' := by
  have hlt : (b : Int) < (n : Int) := by omega
  obtain ⟨W, hW⟩ : ∃ W, W = w.alloc (.cells #[v0, v1, v2, v3, v4, .slice (some ⟨g5, 0, none⟩) n n, v6] 43) := ⟨_, rfl⟩
  have HW : Hid (Below w.heap.size w W) := by rw [hW]; exact below_alloc _ _
  have HWE : Hid (W = _) := hW
  have H5 : Hid (RowI W 0 g5 n A) := h5.keep (HW.out.block g5 h5.lt.2)
  have HB : Hid (b < n) := hb
  clear hW h5 hb
  have L5 : (w.alloc (.cells #[v0, v1, v2, v3, v4, .slice (some ⟨g5, 0, none⟩) n n, v6] 43)).cell? ⟨g5, b, none⟩ = some (.int .i64 (A b)) := by rw [← HWE.out]; exact (H5.out.get HB.out).1
  unfold flowV
  go_enter Tryd.func50, Tryd.ntmps50
  go_wp2_with fail
  go_ret
  exact ⟨rfl, below_alloc _ _⟩

set_option maxHeartbeats 4000000 in
set_option maxRecDepth 20000 in
theorem isAbove_any (v0 v1 v2 v3 v4 : Value) (g5 g6 n a b : Nat) (A N : Nat → Int) (w : World) (ha : a < n) (hb : b < n) (h5 : RowI w 0 g5 n A) (h6 : RowI w 0 g6 n N) :
    Calls Tryd.prog 60 #[flowV v0 v1 v2 v3 v4 (.slice (some ⟨g5, 0, none⟩) n n) (.slice (some ⟨g6, 0, none⟩) n n), .int .i64 (a : Nat), .int .i64 (b : Nat)] w fun e w' => e = .returned (.bool (decide (A a ≤ A b) && decide (A b < wrap64 (A a + N a)))) ∧ Below w.heap.size w w' := by
  have hlta : (a : Int) < (n : Int) := by omega
  have hltb : (b : Int) < (n : Int) := by omega
  obtain ⟨W, hW⟩ : ∃ W, W = w.alloc (.cells #[v0, v1, v2, v3, v4, .slice (some ⟨g5, 0, none⟩) n n, .slice (some ⟨g6, 0, none⟩) n n] 43) := ⟨_, rfl⟩
  have HW : Hid (Below w.heap.size w W) := by rw [hW]; exact below_alloc _ _
  have HWE : Hid (W = _) := hW
  have H5 : Hid (RowI W 0 g5 n A) := h5.keep (HW.out.block g5 h5.lt.2)
  have H6 : Hid (RowI W 0 g6 n N) := h6.keep (HW.out.block g6 h6.lt.2)
  have HB : Hid (b < n) := hb
  have HA : Hid (a < n) := ha
  clear hW h5 hb ha h6
  have L5 : (w.alloc (.cells #[v0, v1, v2, v3, v4, .slice (some ⟨g5, 0, none⟩) n n, .slice (some ⟨g6, 0, none⟩) n n] 43)).cell? ⟨g5, b, none⟩ = some (.int .i64 (A b)) := by rw [← HWE.out]; exact (H5.out.get HB.out).1
  have L5a : (w.alloc (.cells #[v0, v1, v2, v3, v4, .slice (some ⟨g5, 0, none⟩) n n, .slice (some ⟨g6, 0, none⟩) n n] 43)).cell? ⟨g5, a, none⟩ = some (.int .i64 (A a)) := by rw [← HWE.out]; exact (H5.out.get HA.out).1
  have L6a : (w.alloc (.cells #[v0, v1, v2, v3, v4, .slice (some ⟨g5, 0, none⟩) n n, .slice (some ⟨g6, 0, none⟩) n n] 43)).cell? ⟨g6, a, none⟩ = some (.int .i64 (N a)) := by rw [← HWE.out]; exact (H6.out.get HA.out).1
  unfold flowV
  generalize A a = x at L5a ⊢
  generalize A b = y at L5 ⊢
  generalize N a = z at L6a ⊢
  by_cases h1 : x ≤ y
  · have h1' : decide (x ≤ y) = true := by simpa using h1
    go_enter Tryd.func60, Tryd.ntmps60
    go_wp2_with fail
    go_quiet (fail)
    go_wp2_with fail
    go_ret
    exact ⟨by rw [h1']; rfl, below_drewN (below_alloc _ _) _⟩
  · have h1' : decide (x ≤ y) = false := by simpa using h1
    go_enter Tryd.func60, Tryd.ntmps60
    go_wp2_with fail
    go_quiet (fail)
    go_wp2_with fail
    go_ret
    exact ⟨by rw [h1']; rfl, below_drewN (below_alloc _ _) _⟩

/-- has a variable its value ahead of a spot? -/
def hasM (S : SetM) (A N : Nat → Int) (v : Int) (hb : Nat) (ha : Int) : Bool :=
  match S v with
  | none => false
  | some (sb, sa) => if sb == (hb : Int) then decide (sa < ha) else A sb.toNat != -1 && (decide (A sb.toNat ≤ A hb) && decide (A hb < wrap64 (A sb.toNat + N sb.toNat)))

/-- the checker, as has and asks see it -/
structure KS (w : World) (K : Nat) (c : Cod) (vb f0 f1 f2 f3 f4 : Value) (g5 g6 n : Nat) (A N : Nat → Int) (mp : Nat) (S : SetM) : Prop where
  obj : w.heap[K]? = some (kobj c vb f0 f1 f2 f3 f4 (.slice (some ⟨g5, 0, none⟩) n n) (.slice (some ⟨g6, 0, none⟩) n n) mp)
  r5 : RowI w 0 g5 n A
  r6 : RowI w 0 g6 n N
  set : SetAt w mp c.vars S
  spots : ∀ v sb sa, S v = some (sb, sa) → 0 ≤ sb ∧ sb < (n : Int)
theorem KS.keep {w w' : World} {K : Nat} {c : Cod} {vb f0 f1 f2 f3 f4 : Value} {g5 g6 n : Nat} {A N : Nat → Int} {mp : Nat} {S : SetM} (h : KS w K c vb f0 f1 f2 f3 f4 g5 g6 n A N mp S) (k : Below w.heap.size w w') : KS w' K c vb f0 f1 f2 f3 f4 g5 g6 n A N mp S :=
  ⟨(k.block K (lt_of_block h.obj)).trans h.obj, h.r5.keep (k.block g5 h.r5.lt.2), h.r6.keep (k.block g6 h.r6.lt.2), h.set.keep (k.block mp h.set.lt), h.spots⟩

set_option maxHeartbeats 4000000 in
set_option maxRecDepth 20000 in
theorem hasV_any (K : Nat) (c : Cod) (vb f0 f1 f2 f3 f4 : Value) (g5 g6 n : Nat) (A N : Nat → Int) (mp : Nat) (S : SetM) (v ha : Int) (hb : Nat) (w : World) (h : KS w K c vb f0 f1 f2 f3 f4 g5 g6 n A N mp S) (hbn : hb < n) (hv : I64 v) :
    Calls Tryd.prog 51 #[.pointer (some ⟨K, 0, none⟩), .int .i64 v, .agg #[.int .i64 (hb : Nat), .int .i64 ha]] w fun e w' => e = .returned (.bool (hasM S A N v hb ha)) ∧ Below w.heap.size w w' := by
  obtain ⟨D, ks, o1, _, _, _, _, o6, o7⟩ := h.set.ex
  have HKS : Hid (KS w K c vb f0 f1 f2 f3 f4 g5 g6 n A N mp S) := h
  have HKY : Hid (keyOf Tryd.prog 3 (.int .i64 v) = some (.int .i64 v)) := keyOf_int_mk (P := Tryd.prog) (k := 3) Tryd.underlying3 (a := v) (WalkArith.wf_i64 (by unfold I64 at hv; omega))
  have HO : Hid (w.ownsMap Tryd.prog 3 spotR mp (Maps.size D) D) := o1
  have HDH : Hid (Maps.has D (.int .i64 v) = (S v).isSome) := o6 v
  have HAT : Hid (∀ s, S v = some s → ∀ z, D.atKey (.int .i64 v) z = spotD s) := o7 v
  have HBN : Hid (hb < n) := hbn
  obtain ⟨q0, q1, q2, q3, q4, q5, q6, q7, q8, q9, q10, q11, q12, q13⟩ := cells14 h.obj
  have L13 : (w.alloc (.cells #[.int .i64 (hb : Nat), .int .i64 ha] 67)).cell? ⟨K, 13, none⟩ = some (.map (some mp)) := (cells14 (((below_alloc w (.cells #[.int .i64 (hb : Nat), .int .i64 ha] 67)).block K (lt_of_block h.obj)).trans h.obj)).2.2.2.2.2.2.2.2.2.2.2.2.2
  have HO0 : Hid ((w.alloc (.cells #[.int .i64 (hb : Nat), .int .i64 ha] 67)).ownsMap Tryd.prog 3 spotR mp (Maps.size D) D) := by
    obtain ⟨es, clock, e1, e2⟩ := o1
    exact ⟨es, clock, ((below_alloc w _).block mp h.set.lt).trans e1, e2⟩
  clear o1 o6 o7 h hbn hv q0 q1 q2 q3 q4 q5 q6 q7 q8 q9 q10 q11 q12 q13
  go_enter Tryd.func51, Tryd.ntmps51
  go_wp2_with (at_lookup; refine wpList_lookup_spot _ rfl _ _ 46 rfl 3 67 lawI Tryd.underlying46 (zeroSpot _) mp _ D rfl HO0.out _ _ rfl HKY.out ?_)
  intro sb sa hs
  have HSS : Hid (_) := hs
  clear hs L13
  rcases hh : Maps.has D (.int .i64 v) with _ | _
  · have HR : Hid (hasM S A N v hb ha = false) := by
      have h := HDH.out
      rw [hh] at h
      unfold Hid hasM
      cases hq : S v with
      | none => rfl
      | some _ => rw [hq] at h; cases h
    go_wp2_with fail
    go_ret
    exact ⟨by rw [HR.out]; rfl, below_after (below_alloc _ _) (below_alloc _ _)⟩
  · have hsv : S v = some (sb, sa) := by
      have h := HDH.out
      rw [hh] at h
      cases hq : S v with
      | none => rw [hq] at h; cases h
      | some s =>
        have h1 := HAT.out s hq (spotD (0, 0))
        rw [HSS.out] at h1
        obtain ⟨tb, ta⟩ := s
        simp [spotD] at h1
        rw [h1.1, h1.2]
    have HSV : Hid (S v = some (sb, sa)) := hsv
    by_cases hbb : sb = (hb : Int)
    · have hbq : (sb == (hb : Int)) = true := by simpa using hbb
      have HR : Hid (hasM S A N v hb ha = decide (sa < ha)) := by unfold Hid hasM; rw [HSV.out]; simp only [hbq, if_true]
      clear hbb hsv
      go_wp2_with fail
      go_ret
      exact ⟨by rw [HR.out]; rfl, below_after (below_alloc _ _) (below_alloc _ _)⟩
    · have hbq : (sb == (hb : Int)) = false := by simpa using hbb
      clear hbb
      go_upto_region 4 with fail
      obtain ⟨W, hW⟩ : ∃ W, W = (w.alloc (.cells #[.int .i64 (hb : Nat), .int .i64 ha] 67)).alloc (.cells #[.int .i64 sb, .int .i64 sa] 67) := ⟨_, rfl⟩
      obtain ⟨a1, a2⟩ := heap_alloc2 w (.cells #[.int .i64 (hb : Nat), .int .i64 ha] 67) (.cells #[.int .i64 sb, .int .i64 sa] 67)
      rw [← hW] at a1 a2 ⊢
      obtain ⟨G, hG⟩ : ∃ G, G = w.heap.size := ⟨_, rfl⟩
      rw [← hG] at a1 a2 ⊢
      have hBW : Below w.heap.size w W := by rw [hW]; exact below_after (below_alloc _ _) (below_alloc _ _)
      have HKW : Hid (∀ X, Below W.heap.size W X → KS X K c vb f0 f1 f2 f3 f4 g5 g6 n A N mp S ∧ X.heap[G]? = some (.cells #[.int .i64 (hb : Nat), .int .i64 ha] 67) ∧ X.heap[G + 1]? = some (.cells #[.int .i64 sb, .int .i64 sa] 67)) := fun X k =>
        ⟨(HKS.out.keep hBW).keep k, (k.block G (lt_of_block a1)).trans a1, (k.block (G + 1) (lt_of_block a2)).trans a2⟩
      have HBW : Hid (Below w.heap.size w W) := hBW
      obtain ⟨nb, hnb⟩ : ∃ nb : Nat, sb = (nb : Int) := ⟨sb.toNat, by have := (HKS.out.spots v sb sa hsv).1; omega⟩
      have hnl : nb < n := by have := (HKS.out.spots v sb sa hsv).2; omega
      have HNL : Hid (nb < n) := hnl
      have HR : Hid (hasM S A N v hb ha = (A nb != -1 && (decide (A nb ≤ A hb) && decide (A hb < wrap64 (A nb + N nb))))) := by
        unfold Hid hasM; rw [HSV.out]; simp only [hbq, hnb, Int.toNat_natCast]; rw [if_neg (by rw [← hnb, hbq]; simp)]
      subst hnb
      obtain ⟨q0, q1, q2, q3, q4, q5, q6, q7, q8, q9, q10, q11, q12, q13⟩ := cells14 (HKW.out W (Below.refl _ _)).1.obj
      obtain ⟨r0, r1⟩ := cells2 (HKW.out W (Below.refl _ _)).2.1
      obtain ⟨t0, t1⟩ := cells2 (HKW.out W (Below.refl _ _)).2.2
      clear hsv hbq hW hG hBW a1 a2 hnl
      have HCL : Hid (∀ X, Below W.heap.size W X → (fun w' => (w'.cell? ⟨K, 6, none⟩ = some f0 ∧ w'.cell? ⟨K, 7, none⟩ = some f1 ∧ w'.cell? ⟨K, 8, none⟩ = some f2 ∧ w'.cell? ⟨K, 9, none⟩ = some f3 ∧ w'.cell? ⟨K, 10, none⟩ = some f4 ∧ w'.cell? ⟨K, 11, none⟩ = some (.slice (some ⟨g5, 0, none⟩) n n) ∧ w'.cell? ⟨K, 12, none⟩ = some (.slice (some ⟨g6, 0, none⟩) n n)) ∧ w'.cell? ⟨G, 0, none⟩ = some (.int .i64 (hb : Nat)) ∧ w'.cell? ⟨G + 1, 0, none⟩ = some (.int .i64 (nb : Nat))) X) := fun X k => by
        obtain ⟨h1, h2, h3⟩ := HKW.out X k
        obtain ⟨_, _, _, _, _, _, q6, q7, q8, q9, q10, q11, q12, _⟩ := cells14 h1.obj
        exact ⟨⟨q6, q7, q8, q9, q10, q11, q12⟩, (cells2 h2).1, (cells2 h3).1⟩
      clear q0 q1 q2 q3 q4 q5 q6 q7 q8 q9 q10 q11 q12 q13 r0 r1 t0 t1
      have hcw := HCL.out W (Below.refl _ _)
      have HDD : Hid (Below W.heap.size W W.drew) := (Below.refl _ _).drew
      have hcd := HCL.out W.drew HDD.out
      have HCB : Hid (∀ X, Below W.heap.size W X → Calls Tryd.prog 50 #[.agg #[f0, f1, f2, f3, f4, .slice (some ⟨g5, 0, none⟩) n n, .slice (some ⟨g6, 0, none⟩) n n], .int .i64 (nb : Nat)] X fun e w' => e = .returned (.bool (A nb != -1)) ∧ Below X.heap.size X w') := fun X k =>
        canBe_any f0 f1 f2 f3 f4 _ g5 n nb A X HNL.out (HKW.out X k).1.r5
      have HIA : Hid (∀ X, Below W.heap.size W X → Calls Tryd.prog 60 #[.agg #[f0, f1, f2, f3, f4, .slice (some ⟨g5, 0, none⟩) n n, .slice (some ⟨g6, 0, none⟩) n n], .int .i64 (nb : Nat), .int .i64 (hb : Nat)] X fun e w' => e = .returned (.bool (decide (A nb ≤ A hb) && decide (A hb < wrap64 (A nb + N nb)))) ∧ Below X.heap.size X w') := fun X k =>
        isAbove_any f0 f1 f2 f3 f4 g5 g6 n nb hb A N X HNL.out HBN.out (HKW.out X k).1.r5 (HKW.out X k).1.r6
      rcases hA : (A nb != -1) with _ | _
      · rw [hA] at HCB HR
        refine wp_region_noPanic ?_
        refine wp_region_held_drew (S := (fun w' => (w'.cell? ⟨K, 6, none⟩ = some f0 ∧ w'.cell? ⟨K, 7, none⟩ = some f1 ∧ w'.cell? ⟨K, 8, none⟩ = some f2 ∧ w'.cell? ⟨K, 9, none⟩ = some f3 ∧ w'.cell? ⟨K, 10, none⟩ = some f4 ∧ w'.cell? ⟨K, 11, none⟩ = some (.slice (some ⟨g5, 0, none⟩) n n) ∧ w'.cell? ⟨K, 12, none⟩ = some (.slice (some ⟨g6, 0, none⟩) n n)) ∧ w'.cell? ⟨G, 0, none⟩ = some (.int .i64 (hb : Nat)) ∧ w'.cell? ⟨G + 1, 0, none⟩ = some (.int .i64 (nb : Nat)))) (by kernel_rfl) hcw ?_
        intro HS
        refine wpAnyH_take (i := 0) (v := ?_) (by simp only [List.getElem?_toArray, List.getElem?_cons_succ, List.getElem?_cons_zero]; rfl) (by kernel_rfl) (by kernel_rfl) (by kernel_rfl) (fun _ _ _ h => h) (Or.inl ⟨by rfl, ?_⟩) HS ?_
        rotate_left
        · intro wz hSw
          try dsimp only at hSw
          obtain ⟨⟨e6, e7, e8, e9, e10, e11, e12⟩, e0, e1⟩ := hSw
          go_simp
          try with_reducible rfl
        try simp only [Act.put, List.setIfInBounds_toArray, List.set_cons_zero, List.set_cons_succ]
        refine wpAnyH_take (i := 1) (v := ?_) (by simp only [List.getElem?_toArray, List.getElem?_cons_succ, List.getElem?_cons_zero]; rfl) (by kernel_rfl) (by kernel_rfl) (by kernel_rfl) (fun _ _ _ h => h) (Or.inl ⟨by rfl, ?_⟩) HS ?_
        rotate_left
        · intro wz hSw
          try dsimp only at hSw
          obtain ⟨⟨e6, e7, e8, e9, e10, e11, e12⟩, e0, e1⟩ := hSw
          go_simp
          try with_reducible rfl
        try simp only [Act.put, List.setIfInBounds_toArray, List.set_cons_zero, List.set_cons_succ]
        refine wpAnyH_take (i := 2) (v := ?_) (by simp only [List.getElem?_toArray, List.getElem?_cons_succ, List.getElem?_cons_zero]; rfl) (by kernel_rfl) (by kernel_rfl) (by kernel_rfl) (fun _ _ _ h => h) (Or.inl ⟨by rfl, ?_⟩) HS ?_
        rotate_left
        · intro wz hSw
          try dsimp only at hSw
          obtain ⟨⟨e6, e7, e8, e9, e10, e11, e12⟩, e0, e1⟩ := hSw
          go_simp
          try with_reducible rfl
        try simp only [Act.put, List.setIfInBounds_toArray, List.set_cons_zero, List.set_cons_succ]
        refine wpAnyH_take (i := 3) (v := ?_) (by simp only [List.getElem?_toArray, List.getElem?_cons_succ, List.getElem?_cons_zero]; rfl) (by kernel_rfl) (by kernel_rfl) (by kernel_rfl) (fun _ _ _ h => h) (Or.inl ⟨by rfl, ?_⟩) HS ?_
        rotate_left
        · intro wz hSw
          try dsimp only at hSw
          obtain ⟨⟨e6, e7, e8, e9, e10, e11, e12⟩, e0, e1⟩ := hSw
          go_simp
          try with_reducible rfl
        try simp only [Act.put, List.setIfInBounds_toArray, List.set_cons_zero, List.set_cons_succ]
        refine wpAnyH_take (i := 4) (v := ?_) (by simp only [List.getElem?_toArray, List.getElem?_cons_succ, List.getElem?_cons_zero]; rfl) (by kernel_rfl) (by kernel_rfl) (by kernel_rfl) (fun _ _ _ h => h) (Or.inl ⟨by rfl, ?_⟩) HS ?_
        rotate_left
        · intro wz hSw
          try dsimp only at hSw
          obtain ⟨⟨e6, e7, e8, e9, e10, e11, e12⟩, e0, e1⟩ := hSw
          go_simp
          try with_reducible rfl
        try simp only [Act.put, List.setIfInBounds_toArray, List.set_cons_zero, List.set_cons_succ]
        refine wpAnyH_take (i := 5) (v := ?_) (by simp only [List.getElem?_toArray, List.getElem?_cons_succ, List.getElem?_cons_zero]; rfl) (by kernel_rfl) (by kernel_rfl) (by kernel_rfl) (fun _ _ _ h => h) (Or.inl ⟨by rfl, ?_⟩) HS ?_
        rotate_left
        · intro wz hSw
          try dsimp only at hSw
          obtain ⟨⟨e6, e7, e8, e9, e10, e11, e12⟩, e0, e1⟩ := hSw
          go_simp
          try with_reducible rfl
        try simp only [Act.put, List.setIfInBounds_toArray, List.set_cons_zero, List.set_cons_succ]
        refine wpAnyH_ready (rs := [6]) (by kernel_rfl) (by simp) (AllReadyH.cons (by simp only [List.getElem?_toArray, List.getElem?_cons_succ, List.getElem?_cons_zero]; rfl) ?_ AllReadyH.nil)
        intro K' HK
        rw [if_pos (by rfl)]
        clear HS
        go_simp
        go_wp2_with (go_at_call 50; refine Calls.mono (HCB.out W.drew HDD.out) ?_; rintro e w1 ⟨rfl, hb1⟩)
        have HB1 : Hid (Below W.heap.size W w1) := below_after HDD.out hb1
        have HS2 : (fun w' => (w'.cell? ⟨K, 6, none⟩ = some f0 ∧ w'.cell? ⟨K, 7, none⟩ = some f1 ∧ w'.cell? ⟨K, 8, none⟩ = some f2 ∧ w'.cell? ⟨K, 9, none⟩ = some f3 ∧ w'.cell? ⟨K, 10, none⟩ = some f4 ∧ w'.cell? ⟨K, 11, none⟩ = some (.slice (some ⟨g5, 0, none⟩) n n) ∧ w'.cell? ⟨K, 12, none⟩ = some (.slice (some ⟨g6, 0, none⟩) n n)) ∧ w'.cell? ⟨G, 0, none⟩ = some (.int .i64 (hb : Nat)) ∧ w'.cell? ⟨G + 1, 0, none⟩ = some (.int .i64 (nb : Nat))) w1 := HCL.out w1 HB1.out
        refine HK.out _ _ HS2 ?_
        intro HS
        try simp only [Act.put, List.setIfInBounds_toArray, List.set_cons_zero, List.set_cons_succ]
        refine wpAnyH_take (i := 7) (v := ?_) (by simp only [List.getElem?_toArray, List.getElem?_cons_succ, List.getElem?_cons_zero]; rfl) (by kernel_rfl) (by kernel_rfl) (by kernel_rfl) (fun _ _ _ h => h) (Or.inl ⟨by rfl, ?_⟩) HS ?_
        rotate_left
        · intro wz hSw
          try dsimp only at hSw
          obtain ⟨⟨e6, e7, e8, e9, e10, e11, e12⟩, e0, e1⟩ := hSw
          go_simp
          try with_reducible rfl
        try simp only [Act.put, List.setIfInBounds_toArray, List.set_cons_zero, List.set_cons_succ]
        refine wpAnyH_take (i := 8) (v := undef) (by simp only [List.getElem?_toArray, List.getElem?_cons_succ, List.getElem?_cons_zero]; rfl) (by kernel_rfl) (by kernel_rfl) (by kernel_rfl) (fun _ _ _ h => h) (Or.inr ⟨by rfl, rfl⟩) HS ?_
        try simp only [Act.put, List.setIfInBounds_toArray, List.set_cons_zero, List.set_cons_succ]
        refine wpAnyH_take (i := 9) (v := undef) (by simp only [List.getElem?_toArray, List.getElem?_cons_succ, List.getElem?_cons_zero]; rfl) (by kernel_rfl) (by kernel_rfl) (by kernel_rfl) (fun _ _ _ h => h) (Or.inr ⟨by rfl, rfl⟩) HS ?_
        try simp only [Act.put, List.setIfInBounds_toArray, List.set_cons_zero, List.set_cons_succ]
        refine wpAnyH_take (i := 10) (v := undef) (by simp only [List.getElem?_toArray, List.getElem?_cons_succ, List.getElem?_cons_zero]; rfl) (by kernel_rfl) (by kernel_rfl) (by kernel_rfl) (fun _ _ _ h => h) (Or.inr ⟨by rfl, rfl⟩) HS ?_
        try simp only [Act.put, List.setIfInBounds_toArray, List.set_cons_zero, List.set_cons_succ]
        refine wpAnyH_take (i := 11) (v := undef) (by simp only [List.getElem?_toArray, List.getElem?_cons_succ, List.getElem?_cons_zero]; rfl) (by kernel_rfl) (by kernel_rfl) (by kernel_rfl) (fun _ _ _ h => h) (Or.inr ⟨by rfl, rfl⟩) HS ?_
        try simp only [Act.put, List.setIfInBounds_toArray, List.set_cons_zero, List.set_cons_succ]
        refine wpAnyH_take (i := 12) (v := undef) (by simp only [List.getElem?_toArray, List.getElem?_cons_succ, List.getElem?_cons_zero]; rfl) (by kernel_rfl) (by kernel_rfl) (by kernel_rfl) (fun _ _ _ h => h) (Or.inr ⟨by rfl, rfl⟩) HS ?_
        try simp only [Act.put, List.setIfInBounds_toArray, List.set_cons_zero, List.set_cons_succ]
        refine wpAnyH_take (i := 13) (v := undef) (by simp only [List.getElem?_toArray, List.getElem?_cons_succ, List.getElem?_cons_zero]; rfl) (by kernel_rfl) (by kernel_rfl) (by kernel_rfl) (fun _ _ _ h => h) (Or.inr ⟨by rfl, rfl⟩) HS ?_
        try simp only [Act.put, List.setIfInBounds_toArray, List.set_cons_zero, List.set_cons_succ]
        refine wpAnyH_take (i := 14) (v := undef) (by simp only [List.getElem?_toArray, List.getElem?_cons_succ, List.getElem?_cons_zero]; rfl) (by kernel_rfl) (by kernel_rfl) (by kernel_rfl) (fun _ _ _ h => h) (Or.inr ⟨by rfl, rfl⟩) HS ?_
        try simp only [Act.put, List.setIfInBounds_toArray, List.set_cons_zero, List.set_cons_succ]
        refine wpAnyH_take (i := 15) (v := undef) (by simp only [List.getElem?_toArray, List.getElem?_cons_succ, List.getElem?_cons_zero]; rfl) (by kernel_rfl) (by kernel_rfl) (by kernel_rfl) (fun _ _ _ h => h) (Or.inr ⟨by rfl, rfl⟩) HS ?_
        try simp only [Act.put, List.setIfInBounds_toArray, List.set_cons_zero, List.set_cons_succ]
        refine wpAnyH_take (i := 16) (v := undef) (by simp only [List.getElem?_toArray, List.getElem?_cons_succ, List.getElem?_cons_zero]; rfl) (by kernel_rfl) (by kernel_rfl) (by kernel_rfl) (fun _ _ _ h => h) (Or.inr ⟨by rfl, rfl⟩) HS ?_
        try simp only [Act.put, List.setIfInBounds_toArray, List.set_cons_zero, List.set_cons_succ]
        refine wpAnyH_take (i := 17) (v := ?_) (by simp only [List.getElem?_toArray, List.getElem?_cons_succ, List.getElem?_cons_zero]; rfl) (by kernel_rfl) (by kernel_rfl) (by kernel_rfl) (fun _ _ _ h => h) (Or.inl ⟨by rfl, ?_⟩) HS ?_
        rotate_left
        · intro wz hSw
          try dsimp only at hSw
          obtain ⟨⟨e6, e7, e8, e9, e10, e11, e12⟩, e0, e1⟩ := hSw
          go_simp
          try with_reducible rfl
        try simp only [Act.put, List.setIfInBounds_toArray, List.set_cons_zero, List.set_cons_succ]
        refine wpAnyH_take (i := 18) (v := ?_) (by simp only [List.getElem?_toArray, List.getElem?_cons_succ, List.getElem?_cons_zero]; rfl) (by kernel_rfl) (by kernel_rfl) (by kernel_rfl) (fun _ _ _ h => h) (Or.inl ⟨by rfl, ?_⟩) HS ?_
        rotate_left
        · intro wz hSw
          try dsimp only at hSw
          obtain ⟨⟨e6, e7, e8, e9, e10, e11, e12⟩, e0, e1⟩ := hSw
          go_simp
          try with_reducible rfl
        try simp only [Act.put, List.setIfInBounds_toArray, List.set_cons_zero, List.set_cons_succ]
        refine wpAnyH_done (by kernel_rfl) ?_ _
        refine NoPanic.normal ?_
        go_wp2_with fail
        go_ret
        exact ⟨by rw [HR.out]; rfl, below_after HBW.out HB1.out⟩
      · rw [hA] at HCB HR
        go_region_held3 (fun w' => (w'.cell? ⟨K, 6, none⟩ = some f0 ∧ w'.cell? ⟨K, 7, none⟩ = some f1 ∧ w'.cell? ⟨K, 8, none⟩ = some f2 ∧ w'.cell? ⟨K, 9, none⟩ = some f3 ∧ w'.cell? ⟨K, 10, none⟩ = some f4 ∧ w'.cell? ⟨K, 11, none⟩ = some (.slice (some ⟨g5, 0, none⟩) n n) ∧ w'.cell? ⟨K, 12, none⟩ = some (.slice (some ⟨g6, 0, none⟩) n n)) ∧ w'.cell? ⟨G, 0, none⟩ = some (.int .i64 (hb : Nat)) ∧ w'.cell? ⟨G + 1, 0, none⟩ = some (.int .i64 (nb : Nat))) (first | exact hcw | exact hcd | exact hc6 | exact hc7)
          (first | (go_at_call 50; refine Calls.mono (HCB.out W.drew HDD.out) ?_; rintro e w1 ⟨rfl, hb1⟩; have HB1 : Hid (Below W.heap.size W w1) := below_after HDD.out hb1; have hc6 := HCL.out w1 HB1.out; clear hb1) | (go_at_call 60; refine Calls.mono (HIA.out w1 HB1.out) ?_; rintro e w2 ⟨rfl, hb2⟩; have HB2 : Hid (Below w.heap.size w w2) := below_after HBW.out (below_after HB1.out hb2); have hc7 := HCL.out w2 (below_after HB1.out hb2); clear hb2))
        all_goals (go_wp2_with fail; go_ret; exact ⟨by rw [HR.out]; rfl, HB2.out⟩)

end Go.Proofs.YthlngmknifpbjaaDoor
