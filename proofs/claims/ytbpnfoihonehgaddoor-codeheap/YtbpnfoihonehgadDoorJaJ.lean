/-
  The result of an instruction that has one.
-/
import Derived.Test.YtbpnfoihonehgadDoorJaI
namespace Go.Proofs.YtbpnfoihonehgadDoor
open Go.RowKit
set_option linter.unusedSimpArgs false
set_option linter.unusedVariables false

variable {w : World} {col : Nat → Nat} {B m mp : Nat} {vf : Value} {fs : List Cod} {vh vl vc vv : Value} {q : Mst}

theorem getM_i64 (h : Mach w col B m mp vf fs vh vl vc vv q) {a x : Int} (hx : getM q a = some x) : I64 x := by
  unfold getM at hx
  by_cases hz : 0 ≤ a
  · rw [if_pos hz] at hx; exact h.iv x (List.mem_of_getElem? hx)
  · rw [if_neg hz] at hx; cases hx

theorem wrap_i64 (n : Int) : I64 (wrap64 n) := by unfold I64 wrap64; omega

theorem tmod_i64 {a b : Int} (ha : I64 a) (hb : b ≠ 0) : I64 (a.tmod b) := by
  obtain ⟨h1, h2⟩ := ha
  have h5 : (a.tmod b).natAbs ≤ a.natAbs := by
    rw [Int.natAbs_tmod]
    exact Nat.mod_le _ _
  rcases Int.le_total 0 a with h | h
  · have := Int.tmod_nonneg b h
    exact ⟨by omega, by omega⟩
  · have : a.tmod b ≤ 0 := by
      have h6 := Int.tmod_nonneg b (a := -a) (by omega)
      rw [Int.neg_tmod] at h6
      omega
    exact ⟨by omega, by omega⟩

theorem calc_i64 {s : List UInt8} {a b : Int} (ha : I64 a) : I64 (calcM s a b).1 := by
  have ht : ∀ c, I64 (truthI c) := by intro c; cases c <;> exact ⟨by decide, by decide⟩
  have hz : I64 0 := ⟨by decide, by decide⟩
  have hd : I64 (divM s a b).1 := by
    unfold divM
    by_cases h : (b == 0) = true
    · rw [if_pos h]; exact hz
    · rw [if_neg h]
      have hb : b ≠ 0 := by simpa using h
      by_cases h2 : (s == [47]) = true
      · rw [if_pos h2]; exact wrap_i64 _
      · rw [if_neg h2]; exact tmod_i64 ha hb
  unfold calcM
  repeat' split
  all_goals first | exact wrap_i64 _ | exact hd | exact ht _

theorem valueM_i64 (h : Mach w col B m mp vf fs vh vl vc vv q) {i : Ins} (hn : I64 i.n) {n e : Int} {q' : Mst} (hv : valueM q i = some ((n, e), q')) : I64 n := by
  have hz : I64 0 := ⟨by decide, by decide⟩
  unfold valueM at hv
  by_cases h1 : (i.op == 1) = true
  · rw [if_pos h1] at hv
    injection hv with hv; injection hv with hv _; injection hv with hv _
    rw [← hv]; exact hn
  · rw [if_neg h1] at hv
    cases e0 : i.ar[0]? with
    | none => rw [e0] at hv; cases hv
    | some a =>
      rw [e0] at hv
      cases e1 : getM q a with
      | none => simp only [e1] at hv; cases hv
      | some x =>
        simp only [e1] at hv
        have hx := getM_i64 h e1
        by_cases h3 : (i.op == 3) = true
        · rw [if_pos h3] at hv
          cases e2 : i.ar[1]? with
          | none => rw [e2] at hv; cases hv
          | some b =>
            rw [e2] at hv
            cases e3 : getM q b with
            | none => simp only [e3] at hv; cases hv
            | some y =>
              simp only [e3] at hv
              injection hv with hv; injection hv with hv _
              have : n = (calcM i.s x y).1 := by rw [hv]
              rw [this]; exact calc_i64 hx
        · rw [if_neg h3] at hv
          by_cases h4 : (i.op == 4) = true
          · rw [if_pos h4] at hv
            injection hv with hv; injection hv with hv _
            have : n = (loadM q x i.n).1 := by rw [hv]
            rw [this]
            unfold loadM
            split
            · rename_i hh
              have := (inHeap_at hh).2
              show I64 (q.heap.getD _ 0)
              rw [List.getD, List.getElem?_eq_getElem this]
              exact h.ih _ (List.getElem_mem this)
            · exact hz
          · rw [if_neg h4] at hv
            by_cases h6 : (i.op == 6) = true
            · rw [if_pos h6] at hv
              split at hv
              · cases hv
              · injection hv with hv
                have : n = (allocM q x).1.1 := by rw [hv]
                rw [this]
                have hlh := h.lh
                unfold allocM
                repeat' split
                · exact hz
                · exact hz
                · exact ⟨by show _ ≤ (q.heap.length : Int); omega, by show (q.heap.length : Int) < _; omega⟩
            · rw [if_neg h6] at hv
              injection hv with hv; injection hv with hv _; injection hv with hv _
              rw [← hv]; exact hx

/-- the first number of a list -/
theorem nums_at {B : Nat} {w : World} {v : Value} {l : List Int} (h : Nums B w v l) {k : Nat} {a : Int} (h0 : l[k]? = some a) : ∃ ga o ka, v = .slice (some ⟨ga, o, none⟩) l.length ka ∧ ga < B ∧ w.cell? ⟨ga, o + k, none⟩ = some (.int .i64 a) := by
  obtain ⟨aa, ka, rfl⟩ := Lies.slice h
  obtain ⟨ga, o, cs, rfl, hga, _, hP, hcell⟩ := Lies.at h h0
  obtain ⟨rfl, _⟩ := hP
  have q0 := hcell 0 (by decide)
  simp at q0
  exact ⟨ga, o, ka, rfl, hga, q0⟩

theorem load_tup (h : Mach w col B m mp vf fs vh vl vc vv q) (x y : Int) : Calls Tryd.prog 43 #[.pointer (some ⟨m, 0, none⟩), .int .i64 x, .int .i64 y] w fun e w' => e = .returned (.tuple #[.int .i64 (loadM q x y).1, .int .i64 (loadM q x y).2]) ∧ ∃ n, w' = w.drewN n := load_any h x y
theorem calc_tup (s : List UInt8) (a b : Int) (w : World) : Calls Tryd.prog 42 #[.string ⟨s.toArray⟩, .int .i64 a, .int .i64 b] w fun e w' => e = .returned (.tuple #[.int .i64 (calcM s a b).1, .int .i64 (calcM s a b).2]) ∧ w' = w := calc_any s a b w

set_option maxHeartbeats 4000000 in
set_option maxRecDepth 20000 in
theorem value_any (h : Mach w col B m mp vf fs vh vl vc vv q) (i : Ins) (vd va vt : Value) (hd : ∃ a n k, vd = .slice a n k) (ha : Nums B w va i.ar) (ht : ∃ a n k, vt = .slice a n k) (r : Int × Int) (q' : Mst) (hq : valueM q i = some (r, q')) :
    Calls Tryd.prog 27 #[.pointer (some ⟨m, 0, none⟩), insV i vd va vt] w fun e w' => e = .returned (pairV r) ∧ After w col B m mp vf fs q' w' := by
  obtain ⟨ad, nd, kd, rfl⟩ := hd
  obtain ⟨at', nt, kt, rfl⟩ := ht
  obtain ⟨aa, ka, rfl⟩ := Lies.slice ha
  have hB := h.bw
  unfold valueM at hq
  obtain ⟨W, hW⟩ : ∃ W, W = w.alloc (.cells #[.int .i64 i.op, .slice ad nd kd, .slice aa i.ar.length ka, .int .i64 i.n, .string ⟨i.s.toArray⟩, .slice at' nt kt] 25) := ⟨_, rfl⟩
  have HWB : Hid (Below w.heap.size w W) := by rw [hW]; exact below_alloc _ _
  have HWS : Hid (W = _) := hW
  have HC : Hid (W.heap[w.heap.size]? = some (.cells #[.int .i64 i.op, .slice ad nd kd, .slice aa i.ar.length ka, .int .i64 i.n, .string ⟨i.s.toArray⟩, .slice at' nt kt] 25)) := by rw [hW]; exact heap_alloc_new w _
  have HM : Hid (Mach W col B m mp vf fs vh vl vc vv q) := h.keep HWB.out
  have HA : Hid (Nums B W (.slice aa i.ar.length ka) i.ar) := ha.below (HWB.out.mono hB)
  have HFR : Hid (Fr w col W col) := Fr.of_below col HWB.out
  clear h ha hW
  obtain ⟨op, ds, ar, nn, s, to⟩ := i
  simp only at hq HC HA HWS
  unfold insV
  simp only
  rcases h1 : (op == 1) with _ | _
  · rw [h1] at hq
    simp only [Bool.false_eq_true, if_false] at hq
    cases e0 : ar[0]? with
    | none => rw [e0] at hq; cases hq
    | some a =>
      rw [e0] at hq
      obtain ⟨ga, o, ka', hsl, hga, q0⟩ := nums_at HA.out e0
      cases hsl
      have hlen : 0 < ar.length := (List.getElem?_eq_some_iff.1 e0).1
      have hgaW : ga < w.heap.size := Nat.lt_of_lt_of_le hga hB
      rw [Nat.add_zero] at q0
      have q0w := q0
      rw [HWB.out.cell (p := ⟨ga, o, none⟩) hgaW] at q0w
      cases e1 : getM q a with
      | none => simp only [e1] at hq; cases hq
      | some x =>
        simp only [e1] at hq
        have HX : Hid (getM q a = some x) := e1
        clear e1
        rcases h3 : (op == 3) with _ | _
        · rw [h3] at hq
          simp only [Bool.false_eq_true, if_false] at hq
          clear e0
          obtain ⟨N, hN⟩ : ∃ N, N = ar.length := ⟨_, rfl⟩
          rw [← hN] at hlen HC HWS ⊢
          have hlenI : (0 : Int) < (N : Int) := by omega
          clear HA hN
          have p := cells6 HC.out
          rcases h4 : (op == 4) with _ | _
          · rw [h4] at hq
            simp only [Bool.false_eq_true, if_false] at hq
            rcases h6 : (op == 6) with _ | _
            · rw [h6] at hq
              simp only [Bool.false_eq_true, if_false] at hq
              injection hq with hq
              injection hq with hr hq
              subst hr
              subst hq
              unfold pairV
              simp only
              go_enter Tryd.func27, Tryd.ntmps27
              go_wp2_with fail
              rw [← HWS.out]
              refine (getM_any HM.out a x HX.out).mono ?_
              rintro e w1 ⟨rfl, n1, rfl⟩
              go_wp2_with fail
              go_ret2
              exact ⟨rfl, After.mk (HM.out.keep (below_drewN W _ n1)) (HFR.out.trans (fr_drewN W col n1))⟩
            · rw [h6] at hq
              simp only [if_true] at hq
              split at hq
              · cases hq
              · rename_i hc
                injection hq with hq
                have hr : (allocM q x).1 = r := by rw [hq]
                have hq2 : (allocM q x).2 = q' := by rw [hq]
                subst hr
                subst hq2
                have HCC : Hid (x ≤ 20000 ∧ q.heap.length ≤ 20000 ∧ 0 ≤ q.room ∧ q.room ≤ 20000) := by unfold Hid; omega
                clear hc hq
                go_enter Tryd.func27, Tryd.ntmps27
                go_wp2_with fail
                rw [← HWS.out]
                refine (getM_any HM.out a x HX.out).mono ?_
                rintro e w1 ⟨rfl, n1, rfl⟩
                go_wp2_with fail
                refine (alloc_any (HM.out.keep (below_drewN W _ n1)) x HCC.out.1 HCC.out.2.1 HCC.out.2.2.1 HCC.out.2.2.2).mono ?_
                rintro e w2 ⟨rfl, h2⟩
                have H2 : Hid (After w col B m mp vf fs (allocM q x).2 w2) := After.of (HFR.out.trans (fr_drewN W col n1)) h2
                clear h2
                unfold pairV
                go_wp2_with fail
                go_ret2
                exact ⟨rfl, H2.out⟩
          · rw [h4] at hq
            simp only [if_true] at hq
            injection hq with hq
            injection hq with hr hq
            subst hr
            subst hq
            go_enter Tryd.func27, Tryd.ntmps27
            go_wp2_with fail
            rw [← HWS.out]
            go_quiet (first
              | (go_at_call 25; exact Calls.quiet_of (getM_any (HM.out.keep (below_drewN W _ _)) a x HX.out))
              | (go_at_call 43; exact Calls.quiet_of (load_tup (HM.out.keep (below_drewN W _ _)) x nn)))
            go_wp2_with fail
            go_ret2
            exact ⟨rfl, After.mk (HM.out.keep (below_drewN W _ _)) (HFR.out.trans (fr_drewN W col _))⟩
        · rw [h3] at hq
          simp only [if_true] at hq
          cases e2 : ar[1]? with
          | none => rw [e2] at hq; cases hq
          | some b =>
            rw [e2] at hq
            obtain ⟨ga', o', ka'', hsl, _, q1⟩ := nums_at HA.out e2
            cases hsl
            have hlen1 : 1 < ar.length := (List.getElem?_eq_some_iff.1 e2).1
            cases e3 : getM q b with
            | none => simp only [e3] at hq; cases hq
            | some y =>
              simp only [e3] at hq
              have HY : Hid (getM q b = some y) := e3
              clear e3 e0 e2
              injection hq with hq
              injection hq with hr hq
              subst hr
              subst hq
              obtain ⟨N, hN⟩ : ∃ N, N = ar.length := ⟨_, rfl⟩
              rw [← hN] at hlen hlen1 HC HWS ⊢
              have hlenI : (0 : Int) < (N : Int) := by omega
              have hlenJ : (1 : Int) < (N : Int) := by omega
              clear HA hN
              have p := cells6 HC.out
              go_enter Tryd.func27, Tryd.ntmps27
              go_wp2_with fail
              rw [← HWS.out]
              go_quiet (first
                | (go_at_call_of 25 (Value.int IntKind.i64 a); exact Calls.quiet_of (getM_any (HM.out.keep (below_drewN W _ _)) a x HX.out))
                | (go_at_call_of 25 (Value.int IntKind.i64 b); exact Calls.quiet_of (getM_any (HM.out.keep (below_drewN W _ _)) b y HY.out))
                | (go_at_call 42; exact Calls.quiet_of_same (calc_tup _ _ _ _)))
              go_wp2_with fail
              go_ret2
              exact ⟨rfl, After.mk (HM.out.keep (below_drewN W _ _)) (HFR.out.trans (fr_drewN W col _))⟩
  · rw [h1] at hq
    simp only [if_true] at hq
    injection hq with hq
    injection hq with hr hq
    subst hr
    subst hq
    unfold pairV
    simp only
    obtain ⟨N, hN⟩ : ∃ N, N = ar.length := ⟨_, rfl⟩
    rw [← hN] at HC HWS ⊢
    clear HA hN
    have p := cells6 HC.out
    go_enter Tryd.func27, Tryd.ntmps27
    go_wp2_with fail
    go_ret2
    exact ⟨rfl, HWS.out ▸ After.mk HM.out HFR.out⟩

end Go.Proofs.YtbpnfoihonehgadDoor
