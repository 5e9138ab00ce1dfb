/-
  A step.
-/
import Derived.Test.YtbpnfoihonehgadDoorJaK0
import Derived.Deep.RegionHeld3
namespace Go.Proofs.YtbpnfoihonehgadDoor
open Go.RowKit
set_option linter.unusedSimpArgs false
set_option linter.unusedVariables false

variable {w : World} {col : Nat → Nat} {B m mp : Nat} {vf : Value} {fs : List Cod} {vh vl vc vv : Value} {q : Mst}

set_option maxHeartbeats 4000000 in
set_option maxRecDepth 20000 in
theorem step_any (h : Mach w col B m mp vf fs vh vl vc vv q) (r : Int) (q' : Mst) (hq : stepM q = some (r, q')) :
    Calls Tryd.prog 19 #[.pointer (some ⟨m, 0, none⟩)] w fun e w' => e = .returned (.int .i64 r) ∧ Out w col B m mp vf fs r q' w' := by
  have HH : Hid (Mach w col B m mp vf fs vh vl vc vv q) := h
  obtain ⟨gc, cc, gv, cv, vn, hvc, hvv, _, _, h5, _⟩ := h.calling
  unfold stepM at hq
  cases e0 : q.next with
  | nil => rw [e0] at hq; cases hq
  | cons i l =>
    rw [e0] at hq
    have HQ : Hid (stepR { q with next := l } i = some (r, q')) := hq
    clear h hvv hvc hq
    go_enter Tryd.func19, Tryd.ntmps19
    go_wp2_with fail
    refine (last_any m gc cc w h5).mono ?_
    rintro e w1 ⟨rfl, n1, hw1⟩
    have hM1 : Mach w1 col B m mp vf fs vh vl vc vv q := by rw [hw1]; exact HH.out.keep (below_drewN w _ n1)
    have HF1 : Hid (Fr w col w1 col) := by rw [hw1]; exact fr_drewN w col n1
    have h5w : w1.cell? ⟨m, 5, none⟩ = some (.slice (some ⟨gc, 0, none⟩) 1 cc) := by rw [hw1]; exact h5
    obtain ⟨gc', cc', gv, cv, vn, hvc, hvv, hgc, hgv, h5', h6, hn, hf, hblk, hzc, hzv, hvar⟩ := hM1.calling
    rw [h5'] at h5w
    injection h5w with h5w
    injection h5w with e1 _ e2
    injection e1 with e1
    injection e1 with e1 _ _
    subst e1
    subst e2
    subst hvc
    subst hvv
    clear hw1 h5 HH
    rw [e0] at hblk
    obtain ⟨hblk, an0, kn, hvn, hcap⟩ := hblk
    subst hvn
    have hB := hM1.bw
    have HM1 : Hid (_) := hM1
    obtain ⟨ga, o, cs, rfl, hga, _, hP, hcell⟩ := Lies.at hblk (i := 0) (x := i) rfl
    obtain ⟨vd, va, vt, rfl, hd, ha, ht, hsl, hni⟩ := hP
    have HND : Hid (Nums B w1 vd i.ds) := hd
    have HNA : Hid (Nums B w1 va i.ar) := ha
    obtain ⟨ad, kd, rfl⟩ := Lies.slice hd
    obtain ⟨aa, ka, rfl⟩ := Lies.slice ha
    obtain ⟨at', kt, rfl⟩ := Lies.slice ht
    have c0 := hcell 0 (by decide)
    have c1 := hcell 1 (by decide)
    have c2 := hcell 2 (by decide)
    have c3 := hcell 3 (by decide)
    have c4 := hcell 4 (by decide)
    have c5 := hcell 5 (by decide)
    simp at c0 c1 c2 c3 c4 c5
    have hgw : ga < w1.heap.size := Nat.lt_of_lt_of_le hga hB
    rw [List.length_cons] at hn hcap
    have hzc1 := hzc 1
    have hlI : (0 : Int) < ((l.length + 1 : Nat) : Int) := by omega
    have HBLK : Hid (Blk B w1 (.slice (some ⟨ga, o, none⟩) (l.length + 1) kn) (i :: l)) := hblk
    have HNI : Hid (I64 i.n) := hni
    clear hcell hzc hzv hvar hblk h6 hf hd ha ht hsl hni hM1 hga hgv h5'
    obtain ⟨nx, hnx⟩ : ∃ nx : Value, nx = if kn = 1 then .slice (some ⟨ga, o, none⟩) l.length 0 else .slice (some ⟨ga, o + 6, none⟩) l.length (kn - 1) := ⟨_, rfl⟩
    have HX1 : Hid (Blk B w1 nx l ∧ ∃ a c, nx = .slice a l.length c ∧ l.length ≤ c) := by
      unfold Hid
      rw [hnx]
      by_cases hk1 : kn = 1
      · rw [if_pos hk1]
        have hl0 : l = [] := List.eq_nil_of_length_eq_zero (by omega)
        subst hl0
        exact ⟨⟨Nat.zero_le _, _, _, rfl, fun h => absurd h (by decide)⟩, _, _, rfl, Nat.zero_le _⟩
      · rw [if_neg hk1]
        exact ⟨blk_tail HBLK.out, _, _, rfl, by omega⟩
    have HM2 : Hid (Mach (w1.setCell ⟨gc', 1, none⟩ nx) col B m mp vf fs vh vl (.slice (some ⟨gc', 0, none⟩) 1 cc') (.slice (some ⟨gv, 0, none⟩) q.vars.length cv) { q with next := l }) := HM1.out.setNext HX1.out.1 HX1.out.2
    have HF2 : Hid (Fr w col (w1.setCell ⟨gc', 1, none⟩ nx) col) := HF1.out.trans (fr_set w1 col (by have := HM1.out.cc gc' rfl; omega) _)
    have HNX : Hid (nx = _) := hnx
    clear hnx HX1 HBLK hcap
    obtain ⟨W, hW⟩ : ∃ W, W = (w1.setCell ⟨gc', 1, none⟩ nx).alloc (.cells #[.int .i64 i.op, .slice ad i.ds.length kd, .slice aa i.ar.length ka, .int .i64 i.n, .string ⟨i.s.toArray⟩, .slice at' i.to.length kt] 25) := ⟨_, rfl⟩
    have HWB : Hid (Below (w1.setCell ⟨gc', 1, none⟩ nx).heap.size (w1.setCell ⟨gc', 1, none⟩ nx) W) := by rw [hW]; exact below_alloc _ _
    have hsz : (w1.setCell ⟨gc', 1, none⟩ nx).heap.size = w1.heap.size := by simp [World.setCell]
    have HC : Hid (W.heap[w1.heap.size]? = some (.cells #[.int .i64 i.op, .slice ad i.ds.length kd, .slice aa i.ar.length ka, .int .i64 i.n, .string ⟨i.s.toArray⟩, .slice at' i.to.length kt] 25)) := by rw [hW, ← hsz]; exact heap_alloc_new _ _
    have HM3 : Hid (Mach W col B m mp vf fs vh vl (.slice (some ⟨gc', 0, none⟩) 1 cc') (.slice (some ⟨gv, 0, none⟩) q.vars.length cv) { q with next := l }) := HM2.out.keep HWB.out
    have HF3 : Hid (Fr w col W col) := HF2.out.trans (Fr.of_below col HWB.out)
    have HB3 : Hid (Below B w1 W) := (below_set w1 (HM1.out.lo gc' (by have := HM1.out.cc gc' rfl; omega)).1 nx).trans (HWB.out.mono HM2.out.bw)
    have HWS : Hid (W = _) := hW
    clear hW hsz HM2 HF2
    have hz0 : col w1.heap.size = 0 := HM1.out.new _ (Nat.le_refl _)
    have hWlt : w1.heap.size < W.heap.size := lt_of_block HC.out
    have HZ : Hid (∀ (w' : World) (col' : Nat → Nat), Fr W col w' col' → w'.heap[w1.heap.size]? = some (.cells #[.int .i64 i.op, .slice ad i.ds.length kd, .slice aa i.ar.length ka, .int .i64 i.n, .string ⟨i.s.toArray⟩, .slice at' i.to.length kt] 25)) := fun w' col' hf => (hf.block _ hWlt hz0).1.trans HC.out
    have HLOW : Hid (∀ k, k < B → col k = 0) := HM1.out.low
    have hq2 := HQ.out
    have HM4 : Hid (∃ q2, q2 = { q with next := l } ∧ Mach W col B m mp vf fs vh vl (.slice (some ⟨gc', 0, none⟩) 1 cc') (.slice (some ⟨gv, 0, none⟩) q.vars.length cv) q2) := ⟨_, rfl, HM3.out⟩
    obtain ⟨q2, hq2e, hM5⟩ := HM4.out
    rw [← hq2e] at hq2
    have HM5 : Hid (_) := hM5
    have HBW : Hid (B ≤ W.heap.size) := hM5.bw
    clear HM3 HM4 hM5 hq2e HQ HM1 HF1 e0 hz0 hWlt
    have hcases : (kn = 1 ∧ nx = .slice (some ⟨ga, o, none⟩) l.length 0) ∨ (kn ≠ 1 ∧ nx = .slice (some ⟨ga, o + 6, none⟩) l.length (kn - 1)) := by
      by_cases hk1 : kn = 1
      · exact .inl ⟨hk1, by rw [HNX.out, if_pos hk1]⟩
      · exact .inr ⟨hk1, by rw [HNX.out, if_neg hk1]⟩
    clear HNX
    unfold stepR at hq2
    rcases hv : (i.op == 1 || i.op == 2 || i.op == 3 || i.op == 4 || i.op == 6) with _ | _
    · rw [hv] at hq2
      simp only [Bool.false_eq_true, if_false] at hq2
      simp only [Bool.or_eq_false_iff] at hv
      obtain ⟨⟨⟨⟨o1, o2⟩, o3⟩, o4⟩, o6⟩ := hv
      rcases o5 : (i.op == 5) with _ | _
      · rw [o5] at hq2
        simp only [Bool.false_eq_true, if_false] at hq2
        rcases o8 : (i.op == 8) with _ | _
        · rw [o8] at hq2
          simp only [Bool.false_eq_true, if_false] at hq2
          rcases o12 : (i.op == 12) with _ | _
          · rw [o12] at hq2
            simp only [Bool.false_eq_true, if_false] at hq2
            rcases o13 : (i.op == 13) with _ | _
            · rw [o13] at hq2; cases hq2
            · rw [o13] at hq2
              simp only [if_true] at hq2
              injection hq2 with hq2
              injection hq2 with hr hq2
              subst hr
              subst hq2
              have o7 : (i.op == 7) = false := beq_eq_false_iff_ne.2 (fun e => by rw [e] at o13; exact absurd o13 (by decide))
              rcases hcases with ⟨hk1, hnx⟩ | ⟨hk1, hnx⟩ <;> subst hnx
              all_goals
                go_wp2_with fail
                go_ret
                exact ⟨rfl, HWS.out ▸ Out.mk (After.mk HM5.out HF3.out)⟩
          · rw [o12] at hq2
            simp only [if_true] at hq2
            injection hq2 with hq2
            injection hq2 with hr hq2
            subst hr
            subst hq2
            have o7 : (i.op == 7) = false := beq_eq_false_iff_ne.2 (fun e => by rw [e] at o12; exact absurd o12 (by decide))
            rcases hcases with ⟨hk1, hnx⟩ | ⟨hk1, hnx⟩ <;> subst hnx
            all_goals
              go_wp2_with fail
              rw [← HWS.out]
              refine (back_any HM5.out _ ⟨_, _, _, rfl⟩).mono ?_
              rintro e w3 ⟨rfl, hfin⟩
              have HFIN : Hid (Out w col B m mp vf fs 1 q2 w3) := by
                unfold Hid Out
                rw [if_neg (by decide)]
                exact Final.of HF3.out hfin
              clear hfin
              go_wp2_with fail
              go_ret
              exact ⟨rfl, HFIN.out⟩
        · rw [o8] at hq2
          simp only [if_true] at hq2
          have HQ2 : Hid (showM q2 i = some (r, q')) := hq2
          clear hq2
          rcases hcases with ⟨hk1, hnx⟩ | ⟨hk1, hnx⟩ <;> subst hnx
          all_goals
            go_wp2_with fail
            rw [← HWS.out]
            refine (show_any HM5.out i _ _ _ ⟨_, _, _, rfl⟩ (HNA.out.below HB3.out) ⟨_, _, _, rfl⟩ r q' HQ2.out).mono ?_
            rintro e w3 ⟨rfl, haft⟩
            have HFIN : Hid (Out w col B m mp vf fs r q' w3) := Out.mk (After.of HF3.out haft)
            clear haft
            go_wp2_with fail
            go_ret
            exact ⟨rfl, HFIN.out⟩
      · rw [o5] at hq2
        simp only [if_true] at hq2
        cases ea : i.ar[0]? with
        | none => rw [ea] at hq2; simp at hq2
        | some a =>
          cases eb : i.ar[1]? with
          | none => rw [ea, eb] at hq2; simp at hq2
          | some b =>
            rw [ea, eb] at hq2
            simp only at hq2
            cases ex : getM q2 a with
            | none => rw [ex] at hq2; simp at hq2
            | some x =>
              cases ey : getM q2 b with
              | none => rw [ex, ey] at hq2; simp at hq2
              | some y =>
                rw [ex, ey] at hq2
                simp only at hq2
                injection hq2 with hq2
                have hr : (storeM q2 x i.n y).1 = r := by rw [hq2]
                have hq3 : (storeM q2 x i.n y).2 = q' := by rw [hq2]
                subst hr
                subst hq3
                obtain ⟨gd, od, kd', hsl, hgdB, qa⟩ := nums_at (HNA.out.below HB3.out) ea
                cases hsl
                obtain ⟨gd', od', kd'', hsl, _, qb⟩ := nums_at (HNA.out.below HB3.out) eb
                cases hsl
                rw [Nat.add_zero] at qa
                have HX : Hid (getM q2 a = some x) := ex
                have HY : Hid (getM q2 b = some y) := ey
                have HYI : Hid (I64 y) := getM_i64 HM5.out ey
                have hlenA : (0 : Int) < (i.ar.length : Int) := by have := (List.getElem?_eq_some_iff.1 ea).1; omega
                have hlenB : (1 : Int) < (i.ar.length : Int) := by have := (List.getElem?_eq_some_iff.1 eb).1; omega
                have HS : Hid (∀ (w' : World) (col' : Nat → Nat), Fr W col w' col' → (w'.cell? ⟨w1.heap.size, 2, none⟩ = some (.slice (some ⟨gd, od, none⟩) i.ar.length ka) ∧ w'.cell? ⟨w1.heap.size, 3, none⟩ = some (.int .i64 i.n)) ∧ w'.cell? ⟨gd, od, none⟩ = some (.int .i64 a) ∧ w'.cell? ⟨gd, od + 1, none⟩ = some (.int .i64 b)) := by
                  intro w' col' hf
                  have p := cells6 (HZ.out w' col' hf)
                  have hb : Below B W w' := hf.below HBW.out HLOW.out
                  exact ⟨⟨p.2.2.1, p.2.2.2.1⟩, (hb.cell (p := ⟨gd, od, none⟩) hgdB).trans qa, (hb.cell (p := ⟨gd, od + 1, none⟩) hgdB).trans qb⟩
                have hS0 := HS.out W col (Fr.refl _ _)
                clear hq2 ex ey ea eb qa qb hgdB
                have HK : Hid (∀ w' : World, w'.os = W.os → w'.tape = W.tape → w'.output = W.output → w'.heap = W.heap → Mach w' col B m mp vf fs vh vl (.slice (some ⟨gc', 0, none⟩) 1 cc') (.slice (some ⟨gv, 0, none⟩) q.vars.length cv) q2) := fun w' h1 h2 h3 h4 => HM5.out.keep ⟨h1, h2, h3, by rw [h4]; exact Nat.le_refl _, fun k _ => by rw [h4]⟩
                have HG : Hid (∀ (w' : World) (v y : Int), getM q2 v = some y → w'.os = W.os → w'.tape = W.tape → w'.output = W.output → w'.heap = W.heap → Calls Tryd.prog 25 #[.pointer (some ⟨m, 0, none⟩), .int .i64 v] w' fun e w'' => e = .returned (.int .i64 y) ∧ ∃ n, w'' = w'.drewN n) := fun w' v y h0 h1 h2 h3 h4 => getM_any (HK.out w' h1 h2 h3 h4) v y h0
                have HGA : Hid (∀ (w' : World), w'.os = W.os → w'.tape = W.tape → w'.output = W.output → w'.heap = W.heap → Calls Tryd.prog 25 #[.pointer (some ⟨m, 0, none⟩), .int .i64 a] w' fun e w'' => e = .returned (.int .i64 x) ∧ ∃ n, w'' = w'.drewN n) := fun w' h1 h2 h3 h4 => HG.out w' a x HX.out h1 h2 h3 h4
                have HGB : Hid (∀ (w' : World), w'.os = W.os → w'.tape = W.tape → w'.output = W.output → w'.heap = W.heap → Calls Tryd.prog 25 #[.pointer (some ⟨m, 0, none⟩), .int .i64 b] w' fun e w'' => e = .returned (.int .i64 y) ∧ ∃ n, w'' = w'.drewN n) := fun w' h1 h2 h3 h4 => HG.out w' b y HY.out h1 h2 h3 h4
                have HST : Hid (∀ (w' : World), w'.os = W.os → w'.tape = W.tape → w'.output = W.output → w'.heap = W.heap → Calls Tryd.prog 29 #[.pointer (some ⟨m, 0, none⟩), .int .i64 x, .int .i64 i.n, .int .i64 y] w' fun e w'' => e = .returned (.int .i64 (storeM q2 x i.n y).1) ∧ Mach w'' col B m mp vf fs vh vl (.slice (some ⟨gc', 0, none⟩) 1 cc') (.slice (some ⟨gv, 0, none⟩) q.vars.length cv) (storeM q2 x i.n y).2 ∧ Fr W col w'' col) := fun w' h1 h2 h3 h4 => (store_any (HK.out w' h1 h2 h3 h4) x i.n y HYI.out).mono fun e w'' ⟨g1, g2, g3⟩ => ⟨g1, g2, ⟨g3.os.trans h1, g3.tape.trans h2, g3.output.trans h3, by have := g3.size; rw [h4] at this; exact this, fun k hk h0 => by have := g3.block k (by rw [h4]; exact hk) h0; rw [h4] at this; exact this⟩⟩
                obtain ⟨N, hN⟩ : ∃ N, N = i.ar.length := ⟨_, rfl⟩
                rw [← hN] at hlenA hlenB hS0 HS HWS c2
                clear hN
                have hlenA' : 0 < N := by omega
                have hlenB' : 1 < N := by omega
                rcases hcases with ⟨hk1, hnx⟩ | ⟨hk1, hnx⟩ <;> subst hnx
                all_goals
                  go_wp2_with fail
                  rw [← HWS.out]
                  go_region_held3 (fun w' => (w'.cell? ⟨w1.heap.size, 2, none⟩ = some (.slice (some ⟨gd, od, none⟩) N ka) ∧ w'.cell? ⟨w1.heap.size, 3, none⟩ = some (.int .i64 i.n)) ∧ w'.cell? ⟨gd, od, none⟩ = some (.int .i64 a) ∧ w'.cell? ⟨gd, od + 1, none⟩ = some (.int .i64 b)) (first | exact hS0 | exact hS1)
                    (first
                      | (go_at_call_of 25 (Value.int IntKind.i64 a); refine Calls.mono (HGA.out _ rfl rfl rfl rfl) ?_; rintro e w3 ⟨rfl, n3, rfl⟩)
                      | (go_at_call_of 25 (Value.int IntKind.i64 b); refine Calls.mono (HGB.out _ rfl rfl rfl rfl) ?_; rintro e w3 ⟨rfl, n3, rfl⟩)
                      | (go_at_call 29; refine Calls.mono (HST.out _ rfl rfl rfl rfl) ?_; rintro e w5 ⟨rfl, hM6, hF6⟩; have HM6 : Hid (_) := hM6; have HF6 : Hid (Fr W col w5 col) := hF6; have hS1 := HS.out w5 col hF6; clear hM6 hF6))
                  all_goals
                    go_wp2_with fail
                    go_ret
                    exact ⟨rfl, Out.mk (After.mk HM6.out (HF3.out.trans HF6.out))⟩
    · rw [hv] at hq2
      simp only [if_true] at hq2
      have hv5 : (i.op == 1) = true ∨ ((i.op == 1) = false ∧ (i.op == 2) = true) ∨ ((i.op == 1) = false ∧ (i.op == 2) = false ∧ (i.op == 3) = true) ∨ ((i.op == 1) = false ∧ (i.op == 2) = false ∧ (i.op == 3) = false ∧ (i.op == 4) = true) ∨ ((i.op == 1) = false ∧ (i.op == 2) = false ∧ (i.op == 3) = false ∧ (i.op == 4) = false ∧ (i.op == 6) = true) := by
        revert hv
        cases (i.op == 1) <;> cases (i.op == 2) <;> cases (i.op == 3) <;> cases (i.op == 4) <;> cases (i.op == 6) <;> simp
      clear hv
      cases ev : valueM q2 i with
      | none => rw [ev] at hq2; cases hq2
      | some p =>
        obtain ⟨⟨n, e⟩, q1⟩ := p
        rw [ev] at hq2
        simp only at hq2
        have HI : Hid (I64 n) := valueM_i64 HM5.out HNI.out ev
        have HEV : Hid (valueM q2 i = some ((n, e), q1)) := ev
        clear ev
        rcases he : (e == 0) with _ | _
        · rw [he] at hq2
          simp only [Bool.false_eq_true, if_false] at hq2
          injection hq2 with hq2
          injection hq2 with hr hq2
          subst hr
          subst hq2
          rcases hv5 with o1 | ⟨o1, o2⟩ | ⟨o1, o2, o3⟩ | ⟨o1, o2, o3, o4⟩ | ⟨o1, o2, o3, o4, o6⟩ <;> rcases hcases with ⟨hk1, hnx⟩ | ⟨hk1, hnx⟩ <;> subst hnx
          all_goals
            go_wp2_with fail
            rw [← HWS.out]
            refine (value_any HM5.out i _ _ _ ⟨_, _, _, rfl⟩ (HNA.out.below HB3.out) ⟨_, _, _, rfl⟩ (n, e) q1 HEV.out).mono ?_
            rintro e' w3 ⟨rfl, haft⟩
            have HFIN : Hid (Out w col B m mp vf fs e q1 w3) := Out.mk (After.of HF3.out haft)
            clear haft
            unfold pairV
            go_wp2_with fail
            go_ret
            exact ⟨rfl, HFIN.out⟩
        · rw [he] at hq2
          simp only [if_true] at hq2
          have he0 : e = 0 := by simpa using he
          subst he0
          cases ed : i.ds[0]? with
          | none => rw [ed] at hq2; cases hq2
          | some d =>
            rw [ed] at hq2
            simp only at hq2
            cases es : setM q1 d n with
            | none => rw [es] at hq2; cases hq2
            | some q3 =>
              rw [es] at hq2
              simp only at hq2
              injection hq2 with hq2
              injection hq2 with hr hq2
              subst hr
              subst hq2
              obtain ⟨gd, od, kd', hsl, hgdB, qd⟩ := nums_at (HND.out.below HB3.out) ed
              cases hsl
              rw [Nat.add_zero] at qd
              have HES : Hid (setM q1 d n = some q3) := es
              have HQD : Hid (W.cell? ⟨gd, od, none⟩ = some (.int .i64 d)) := qd
              have hlenD : (0 : Int) < (i.ds.length : Int) := by have := (List.getElem?_eq_some_iff.1 ed).1; omega
              have HGD : Hid (gd < B) := hgdB
              clear es ed qd hgdB he
              rcases hv5 with o1 | ⟨o1, o2⟩ | ⟨o1, o2, o3⟩ | ⟨o1, o2, o3, o4⟩ | ⟨o1, o2, o3, o4, o6⟩ <;> rcases hcases with ⟨hk1, hnx⟩ | ⟨hk1, hnx⟩ <;> subst hnx
              all_goals
                go_wp2_with fail
                rw [← HWS.out]
                refine (value_any HM5.out i _ _ _ ⟨_, _, _, rfl⟩ (HNA.out.below HB3.out) ⟨_, _, _, rfl⟩ (n, 0) q1 HEV.out).mono ?_
                rintro e' w3 ⟨rfl, haft⟩
                obtain ⟨c6, vh6, vl6, vc6, vv6, hM6, hF6⟩ := haft
                have HM6 : Hid (_) := hM6
                have HF6 : Hid (Fr W col w3 c6) := hF6
                have p := cells6 (HZ.out w3 c6 hF6)
                have pd : w3.cell? ⟨gd, od, none⟩ = some (.int .i64 d) := ((hF6.below HBW.out HLOW.out).cell (p := ⟨gd, od, none⟩) HGD.out).trans HQD.out
                clear hM6 hF6
                unfold pairV
                go_wp2_with fail
                refine (setM_any HM6.out d n HI.out q3 HES.out).mono ?_
                rintro e'' w4 ⟨rfl, hM7, hF7⟩
                have HFIN : Hid (Out w col B m mp vf fs 0 q3 w4) := Out.mk (After.mk hM7 ((HF3.out.trans HF6.out).trans hF7))
                clear hM7 hF7 p pd
                go_wp2_with fail
                go_ret
                exact ⟨rfl, HFIN.out⟩

end Go.Proofs.YtbpnfoihonehgadDoor
