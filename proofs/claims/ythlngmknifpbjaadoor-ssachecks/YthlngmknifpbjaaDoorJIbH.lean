/-
  The statement's own look at code.
-/
import Derived.Test.YthlngmknifpbjaaDoorJIbC
import Derived.Test.YthlngmknifpbjaaDoorIbD
import Derived.Test.YthlngmknifpbjaaDoorIbE
import Derived.Deep.RegionHeld3
namespace Go.Proofs.YthlngmknifpbjaaDoor
section
open Go.RowKit Go.Maps
set_option linter.unusedSimpArgs false
set_option linter.unusedVariables false

set_option maxHeartbeats 8000000 in
set_option maxRecDepth 20000 in
theorem instrR_7 : SaidR 7 := by
  intro ds ar nn s to c fs vf vdt vb vd va vt B w hB hfs hvdt hvb hb1 hb2 hv0 hv3 hd ha ht hs
  have hlF := hfs.len
  have HFS : Hid (Cods B w vf fs) := hfs
  obtain ⟨a1, k1, rfl⟩ := Lies.slice hfs
  obtain ⟨a2, n2, k2, rfl⟩ := hvdt
  obtain ⟨a3, k3, rfl⟩ := hvb
  have HD : Hid (Nums B w vd ds) := hd
  have HA : Hid (Nums B w va ar) := ha
  have HT : Hid (Nums B w vt to) := ht
  have HSL : Hid (s.length ≤ maxLen) := hs
  have hlD := hd.len
  have hlA := ha.len
  have hlT := ht.len
  obtain ⟨ad, kd, rfl⟩ := Lies.slice hd
  obtain ⟨a4, k4, rfl⟩ := Lies.slice ha
  obtain ⟨a5, k5, rfl⟩ := Lies.slice ht
  unfold maxLen at hlD hlA hlT hlF
  obtain ⟨r, hr⟩ : ∃ r, r = instrF fs c ⟨7, ds, ar, nn, s, to⟩ := ⟨_, rfl⟩
  rw [← hr]
  have HR : Hid (r = _) := hr
  obtain ⟨nd, hnd⟩ : ∃ n, n = ds.length := ⟨_, rfl⟩
  obtain ⟨na, hna⟩ : ∃ n, n = ar.length := ⟨_, rfl⟩
  obtain ⟨nt, hnt⟩ : ∃ n, n = to.length := ⟨_, rfl⟩
  obtain ⟨nb, hnb⟩ : ∃ n, n = c.blocks.length := ⟨_, rfl⟩
  have HND : Hid (nd = ds.length) := hnd
  have HNA : Hid (na = ar.length) := hna
  have HNT : Hid (nt = to.length) := hnt
  have HNB : Hid (nb = c.blocks.length) := hnb
  rw [← hnd] at hlD
  rw [← hna] at hlA
  rw [← hnt] at hlT
  rw [← hnb] at hb1 hb2
  rw [← hnb, ← hnd, ← hna, ← hnt]
  rw [← hnd] at HD
  rw [← hna] at HA
  rw [← hnt] at HT
  clear hfs hd ha ht hs hr hnd hna hnt hnb
  unfold prgV codV insV
  simp only
  obtain ⟨W, hW⟩ : ∃ W, W = ((w.alloc (.cells #[.slice a1 fs.length k1, .slice a2 n2 k2] 25)).alloc (.cells #[.string ⟨c.name.toArray⟩, .int .i64 c.params, .int .i64 c.results, .int .i64 c.vars, .int .i64 c.slots, .slice a3 nb k3] 28)).alloc (.cells #[.int .i64 7, .slice ad nd kd, .slice a4 na k4, .int .i64 nn, .string ⟨s.toArray⟩, .slice a5 nt k5] 37) := ⟨_, rfl⟩
  have HW : Hid (Below w.heap.size w W) := by rw [hW]; exact below_after (below_after (below_alloc _ _) (below_alloc _ _)) (below_alloc _ _)
  have hWs : W.heap.size = w.heap.size + 3 := by rw [hW]; simp
  have HC0 : Hid (W.heap[w.heap.size]? = some (.cells #[.slice a1 fs.length k1, .slice a2 n2 k2] 25)) := by rw [hW]; exact blk_alloc (heap_alloc2 w _ _).1 _
  have HC1 : Hid (W.heap[w.heap.size + 1]? = some (.cells #[.string ⟨c.name.toArray⟩, .int .i64 c.params, .int .i64 c.results, .int .i64 c.vars, .int .i64 c.slots, .slice a3 nb k3] 28)) := by rw [hW]; exact blk_alloc (heap_alloc2 w _ _).2 _
  have HC2 : Hid (W.heap[w.heap.size + 2]? = some (.cells #[.int .i64 7, .slice ad nd kd, .slice a4 na k4, .int .i64 nn, .string ⟨s.toArray⟩, .slice a5 nt k5] 37)) := by rw [hW]; exact heap_alloc3 w _ _ _
  have HWS : Hid (W = _) := hW
  clear hW
  have hzd : ((nd : Int) != (nd : Int)) = false := by simp
  have hza : ((na : Int) != (na : Int)) = false := by simp
  have hzt : ((nt : Int) != (nt : Int)) = false := by simp
  rcases e3 : (nt == 0) with _ | _
  · have e3L : (to.length == 0) = false := by rw [← HNT.out]; exact e3
    have e3I : ((nt : Int) != 0) = true := by rw [ne0, e3]; rfl
    have HR2 : Hid (r = 10) := HR.out.trans (F_10 (show (1 : Int) ≤ 7 by decide) (show (7 : Int) ≤ 13 by decide) (show (to.length == 0) = false by rw [e3L]))
    clear e3L
    go_enter Tryd.func21, Tryd.ntmps21
    go_wp2_with fail
    go_ret
    exact ⟨by rw [HR2.out]; rfl, HWS.out ▸ HW.out⟩
  have e3L : Hid ((to.length == 0) = true) := by unfold Hid; rw [← HNT.out]; exact e3
  have e3I : ((nt : Int) != 0) = false := by rw [ne0, e3]; rfl
  have HCO : Hid (countOk (Ins.op ⟨7, ds, ar, nn, s, to⟩) ds.length ar.length to.length = true) := (show (to.length == 0) = true by rw [e3L.out])
  go_enter Tryd.func21, Tryd.ntmps21
  go_wp2_with fail
  rw [← HWS.out]
  have p1 := cells2 HC0.out
  have p2 := cells6 HC1.out
  have p3 := cells6 HC2.out
  refine (allIn_any _ B _ ds W (HD.out.below (HW.out.mono hB))).mono ?_
  rintro e w1 ⟨rfl, hw1⟩
  have hw1' := hw1.symm
  subst hw1'
  rw [allB_below]
  rcases b1 : belowB c.vars ds with _ | _
  · have HR2 : Hid (r = 2) := HR.out.trans (F_2 (show (1 : Int) ≤ 7 by decide) (show (7 : Int) ≤ 13 by decide) HCO.out (by simp only [b1]; rfl))
    go_wp2_with fail
    go_ret
    exact ⟨by rw [HR2.out]; rfl, HW.out⟩
  go_wp2_with fail
  refine (allIn_any _ B _ ar W (HA.out.below (HW.out.mono hB))).mono ?_
  rintro e w2 ⟨rfl, hw2⟩
  have hw2' := hw2.symm
  subst hw2'
  rw [allB_below]
  rcases b2 : belowB c.vars ar with _ | _
  · have HR2 : Hid (r = 2) := HR.out.trans (F_2 (show (1 : Int) ≤ 7 by decide) (show (7 : Int) ≤ 13 by decide) HCO.out (by simp only [b1, b2]; rfl))
    go_wp2_with fail
    go_ret
    exact ⟨by rw [HR2.out]; rfl, HW.out⟩
  go_wp2_with fail
  refine (allIn_any _ B _ to W (HT.out.below (HW.out.mono hB))).mono ?_
  rintro e w3 ⟨rfl, hw3⟩
  have hw3' := hw3.symm
  subst hw3'
  rw [allB_below]
  rcases b3 : belowB (nb : Int) to with _ | _
  · have HR2 : Hid (r = 2) := HR.out.trans (F_2 (show (1 : Int) ≤ 7 by decide) (show (7 : Int) ≤ 13 by decide) HCO.out (by simp only [b1, b2]; rw [← HNB.out, b3]; rfl))
    go_wp2_with fail
    go_ret
    exact ⟨by rw [HR2.out]; rfl, HW.out⟩
  have HBO : Hid ((belowB c.vars ds && (belowB c.vars ar && belowB c.blocks.length to)) = true) := by unfold Hid; rw [b1, b2, ← HNB.out, b3]; rfl
  clear b1 b2 b3
  have HI7 : Hid (r = invokeF fs ⟨7, ds, ar, nn, s, to⟩) := HR.out.trans (F_7 (show (1 : Int) ≤ 7 by decide) (show (7 : Int) ≤ 13 by decide) HCO.out HBO.out rfl rfl rfl)
  clear HR HCO HBO
  go_wp2_with fail
  refine (funcNamed_any fs s _ _ B W (by omega) (HFS.out.below (HW.out.mono hB)) ⟨_, _, _, rfl⟩).mono ?_
  rintro e w4 ⟨rfl, hb4⟩
  have HB4 : Hid (Below w.heap.size w w4) := below_after HW.out hb4
  have hs4 := hb4.size
  clear p1 p2 p3
  have HK0 : Hid (w4.heap[w.heap.size]? = _) := (hb4.block _ (by omega)).trans HC0.out
  have HK2 : Hid (w4.heap[w.heap.size + 2]? = _) := (hb4.block _ (by omega)).trans HC2.out
  have p1 := cells2 HK0.out
  have p2 := cells6 ((hb4.block _ (by omega)).trans HC1.out)
  have p3 := cells6 HK2.out
  clear hb4 HC0 HC1 HC2 HWS
  rcases hp : placeOf fs s with _ | k
  · have hq : plI fs s = -1 := by unfold plI; rw [hp]
    have HR2 : Hid (r = 6) := HI7.out.trans (by unfold invokeF; rw [hp])
    rw [hq]
    go_wp2_with fail
    go_ret
    exact ⟨by rw [HR2.out]; rfl, HB4.out⟩
  have hq : plI fs s = (k : Int) := by unfold plI; rw [hp]
  have HP : Hid (_) := hp
  have hklt : k < fs.length := by
    unfold placeOf at hp
    obtain ⟨h, _⟩ := List.findIdx?_eq_some_iff_getElem.1 hp
    exact h
  have hget : fs[k]? = some fs[k] := List.getElem?_eq_getElem hklt
  generalize fs[k] = f at hget
  have HGET : Hid (fs[k]? = some f) := hget
  obtain ⟨ga, o, cs, rfl, hgB, hcs, hu, hcell⟩ := Lies.at HFS.out hget
  obtain ⟨vb', rfl, hvb', hnl, _⟩ := hu
  have hga : ga < w.heap.size := by omega
  have q1 := hcell 1 (by decide)
  have q2 := hcell 2 (by decide)
  simp at q1 q2
  rw [← HB4.out.cell (p := ⟨ga, o + k * 6 + 1, none⟩) hga] at q1
  rw [← HB4.out.cell (p := ⟨ga, o + k * 6 + 2, none⟩) hga] at q2
  have hlt : (k : Int) < (fs.length : Int) := by omega
  have hk0 : ¬ (k : Int) < 0 := by omega
  clear hp hget hcell hvb' hnl hcs
  rw [hq]
  have HI8 : Hid (r = if ((na : Int) != f.params || (nd : Int) != f.results) = true then 10 else if twiceB ds = true then 7 else 0) := by
    unfold Hid
    rw [HI7.out]
    unfold invokeF
    rw [HP.out]
    simp only [HGET.out]
    rw [← HNA.out, ← HND.out]
  rcases h1 : ((na : Int) != f.params) with _ | _
  · rcases h2 : ((nd : Int) != f.results) with _ | _
    · have HI9 : Hid (r = if twiceB ds = true then 7 else 0) := by unfold Hid; rw [HI8.out, h1, h2]; rfl
      go_wp2_with fail
      clear q1 q2 p1 p2 p3
      go_loopg [11] nd (fun g s11 wr => ∃ i : Nat, s11 = .int .i64 (i : Nat) ∧ i + g = nd ∧ Hid (Below w4.heap.size w4 wr) ∧ Hid (∀ (m n : Nat) (x : Int), m < n → n < i → ds[m]? = some x → ds[n]? = some x → False))
      case atStart => exact ⟨0, rfl, by omega, Below.refl _ _, fun m n x _ hn => absurd hn (by omega)⟩
      case round =>
        obtain ⟨i, rfl, hig, HBL, HJ⟩ := hrel
        cases gk with
        | zero =>
          have hlt2 : ¬ (i : Int) < (nd : Int) := by omega
          have HR2 : Hid (r = 0) := by
            unfold Hid
            rw [HI9.out, twice_not ds fun m n x hmn hm hn => HJ.out m n x hmn (by have := (List.getElem?_eq_some_iff.1 hn).1; have := HND.out; omega) hm hn]
            rfl
          have HBF : Hid (Below w.heap.size w wr) := below_after HB4.out HBL.out
          go_wp2_with fail
          go_ret
          exact ⟨by rw [HR2.out]; rfl, HBF.out⟩
        | succ g =>
          have hlt2 : (i : Int) < (nd : Int) := by omega
          have hilt : i < ds.length := by have := HND.out; omega
          have hgi : ds[i]? = some ds[i] := List.getElem?_eq_getElem hilt
          generalize ds[i] = xi at hgi
          have HGI : Hid (ds[i]? = some xi) := hgi
          clear hgi
          obtain ⟨wo, hwo⟩ : ∃ wo, wo = wr := ⟨_, rfl⟩
          subst hwo
          go_wp2_with fail
          go_loopg [12] i (fun g' s12 wr => ∃ m : Nat, s12 = .int .i64 (m : Nat) ∧ m + g' = i ∧ Hid (Below w4.heap.size w4 wr) ∧ Hid (∀ (m' : Nat), m' < m → ds[m']? = some xi → False))
          case atStart => exact ⟨0, rfl, by omega, HBL, fun m' hm => absurd hm (by omega)⟩
          case round =>
            obtain ⟨m, rfl, hmg, HBI, HJI⟩ := hrel
            cases gk with
            | zero =>
              have hlt3 : ¬ (m : Int) < (i : Int) := by omega
              go_wp2_with fail
              go_roundg g
              case measure => omega
              case rel =>
                refine ⟨i + 1, by go_num, by omega, HBI, fun m' n x hmn hn hm hx => ?_⟩
                rcases Nat.lt_or_ge n i with h | h
                · exact HJ.out m' n x hmn h hm hx
                · have : n = i := by omega
                  subst this
                  rw [HGI.out] at hx
                  cases hx
                  exact HJI.out m' (by omega) hm
            | succ g' =>
              have hlt3 : (m : Int) < (i : Int) := by omega
              have hmlt : m < ds.length := by omega
              have hgm : ds[m]? = some ds[m] := List.getElem?_eq_getElem hmlt
              generalize ds[m] = xm at hgm
              obtain ⟨gd, od, cs, rfl, hgd, hcs, hP, hcell⟩ := Lies.at HD.out hgm
              obtain ⟨rfl, _⟩ := hP
              obtain ⟨gd2, od2, cs2, hae, hgd2, hcs2, hP2, hcell2⟩ := Lies.at HD.out HGI.out
              injection hae with hae
              injection hae with hae1 hae2
              subst hae1
              subst hae2
              obtain ⟨rfl, _⟩ := hP2
              have hgdl : gd < w.heap.size := by omega
              have hgdl4 : gd < w4.heap.size := by omega
              have q0 := hcell 0 (by decide)
              have q1 := hcell2 0 (by decide)
              simp at q0 q1
              rw [← HB4.out.cell (p := ⟨gd, od + m, none⟩) hgdl, ← HBI.out.cell (p := ⟨gd, od + m, none⟩) hgdl4] at q0
              rw [← HB4.out.cell (p := ⟨gd, od + i, none⟩) hgdl, ← HBI.out.cell (p := ⟨gd, od + i, none⟩) hgdl4] at q1
              have q0d : wr.drew.cell? ⟨gd, od + m, none⟩ = some (.int .i64 xm) := q0
              have q1d : wr.drew.cell? ⟨gd, od + i, none⟩ = some (.int .i64 xi) := q1
              have hK := (HBI.out.block _ (by omega)).trans HK2.out
              have p3 := cells6 hK
              have p3d := cells6 (show wr.drew.heap[w.heap.size + 2]? = _ from hK)
              have HGM : Hid (ds[m]? = some xm) := hgm
              have HBD : Hid (Below w4.heap.size w4 wr.drew) := HBI.out.drew
              have hlt4 : (m : Int) < (nd : Int) := by omega
              clear hgm hcell hcell2 hcs hcs2 hK
              go_wp2_with fail
              go_region
              all_goals (
                rcases hx : (xm == xi) with _ | _
                · go_wp2_with fail
                  go_roundg g'
                  case measure => omega
                  case rel =>
                    refine ⟨m + 1, by go_num, by omega, HBD, fun m' hm' hh => ?_⟩
                    rcases Nat.lt_or_ge m' m with h | h
                    · exact HJI.out m' h hh
                    · have : m' = m := by omega
                      subst this
                      rw [HGM.out] at hh
                      cases hh
                      simp at hx
                · have HR2 : Hid (r = 7) := by
                    unfold Hid
                    have he : xm = xi := by simpa using hx
                    subst he
                    rw [HI9.out, twice_of ds m i _ (by omega) HGM.out HGI.out]
                    rfl
                  have HBF : Hid (Below w.heap.size w wr.drew) := below_after HB4.out HBD.out
                  go_wp2_with fail
                  go_ret
                  exact ⟨by rw [HR2.out]; rfl, HBF.out⟩)
    · have HR2 : Hid (r = 10) := by unfold Hid; rw [HI8.out, h1, h2]; rfl
      go_wp2_with fail
      go_ret
      exact ⟨by rw [HR2.out]; rfl, HB4.out⟩
  · have HR2 : Hid (r = 10) := by unfold Hid; rw [HI8.out, h1]; rfl
    go_wp2_with fail
    go_ret
    exact ⟨by rw [HR2.out]; rfl, HB4.out⟩
end

section
open Go.RowKit Go.Maps
set_option linter.unusedSimpArgs false
set_option linter.unusedVariables false

set_option maxHeartbeats 8000000 in
set_option maxRecDepth 20000 in
theorem instrR_other (k : Int) (hk : k < 1 ∨ 13 < k) : SaidR k := by
  intro ds ar nn s to c fs vf vdt vb vd va vt B w hB hfs hvdt hvb hb1 hb2 hv0 hv3 hd ha ht hs
  obtain ⟨a1, k1, rfl⟩ := Lies.slice hfs
  obtain ⟨a2, n2, k2, rfl⟩ := hvdt
  obtain ⟨a3, k3, rfl⟩ := hvb
  obtain ⟨ad, kd, rfl⟩ := Lies.slice hd
  obtain ⟨a4, k4, rfl⟩ := Lies.slice ha
  obtain ⟨a5, k5, rfl⟩ := Lies.slice ht
  have hr : instrF fs c ⟨k, ds, ar, nn, s, to⟩ = 3 := by
    unfold instrF
    rw [if_pos]
    simp
    exact hk
  rw [hr]
  unfold prgV codV insV
  simp only
  have e1 : (k == 1) = false := beq_eq_false_iff_ne.2 (by omega)
  have e2 : (k == 2) = false := beq_eq_false_iff_ne.2 (by omega)
  have e3 : (k == 3) = false := beq_eq_false_iff_ne.2 (by omega)
  have e4 : (k == 4) = false := beq_eq_false_iff_ne.2 (by omega)
  have e5 : (k == 5) = false := beq_eq_false_iff_ne.2 (by omega)
  have e6 : (k == 6) = false := beq_eq_false_iff_ne.2 (by omega)
  have e7 : (k == 7) = false := beq_eq_false_iff_ne.2 (by omega)
  have e8 : (k == 8) = false := beq_eq_false_iff_ne.2 (by omega)
  have e9 : (k == 9) = false := beq_eq_false_iff_ne.2 (by omega)
  have e10 : (k == 10) = false := beq_eq_false_iff_ne.2 (by omega)
  have e11 : (k == 11) = false := beq_eq_false_iff_ne.2 (by omega)
  have e12 : (k == 12) = false := beq_eq_false_iff_ne.2 (by omega)
  have e13 : (k == 13) = false := beq_eq_false_iff_ne.2 (by omega)
  clear hfs hd ha ht hk hr hb1 hb2
  go_enter Tryd.func21, Tryd.ntmps21
  go_wp2_with fail
  go_ret
  exact ⟨rfl, below_after (below_after (below_alloc _ _) (below_alloc _ _)) (below_alloc _ _)⟩

theorem instrR_all (k : Int) : SaidR k := by
  by_cases h : k < 1 ∨ 13 < k
  · exact instrR_other k h
  · have : k = 1 ∨ k = 2 ∨ k = 3 ∨ k = 4 ∨ k = 5 ∨ k = 6 ∨ k = 7 ∨ k = 8 ∨ k = 9 ∨ k = 10 ∨ k = 11 ∨ k = 12 ∨ k = 13 := by omega
    rcases this with h | h | h | h | h | h | h | h | h | h | h | h | h <;> subst h
    · exact instrR_1
    · exact instrR_2
    · exact instrR_3
    · exact instrR_4
    · exact instrR_5
    · exact instrR_6
    · exact instrR_7
    · exact instrR_8
    · exact instrR_9
    · exact instrR_10
    · exact instrR_11
    · exact instrR_12
    · exact instrR_13
end

section
open Go.RowKit Go.Maps
set_option linter.unusedSimpArgs false
set_option linter.unusedVariables false

theorem headF_ok {c : Cod} (h : headF c = 0) : 1 ≤ c.blocks.length ∧ c.blocks.length ≤ 2000 ∧ 0 ≤ c.vars ∧ c.vars ≤ 3000 := by
  unfold headF at h
  by_cases z0 : c.blocks.length = 0
  · rw [if_pos z0] at h; cases h
  rw [if_neg z0] at h
  by_cases z1 : (decide (2000 < c.blocks.length) || decide (3000 < c.vars) || decide (16 < c.params) || decide (16 < c.results)) = true
  · rw [if_pos z1] at h; cases h
  rw [if_neg z1] at h
  by_cases z2 : (decide (c.params < 0) || decide (c.results < 0) || decide (c.vars < c.params) || c.slots != 0) = true
  · rw [if_pos z2] at h; cases h
  simp at z1 z2
  omega

set_option maxHeartbeats 16000000 in
set_option maxRecDepth 20000 in
theorem codeR_any (c : Cod) (fs : List Cod) (vf vdt vb : Value) (B : Nat) (w : World) (hB : B ≤ w.heap.size) (hfs : Cods B w vf fs) (hvdt : ∃ a n k, vdt = .slice a n k) (hb : Blks B w vb c.blocks) :
    Calls Tryd.prog 8 #[prgV vf vdt, codV c vb] w fun e w' => e = .returned (.int .i64 (codeF fs c)) ∧ Below w.heap.size w w' := by
  have HFS : Hid (Cods B w vf fs) := hfs
  have HBK : Hid (Blks B w vb c.blocks) := hb
  have hbl := hb.len
  obtain ⟨a1, k1, rfl⟩ := Lies.slice hfs
  obtain ⟨a2, n2, k2, rfl⟩ := hvdt
  obtain ⟨a3, k3, rfl⟩ := Lies.slice hb
  obtain ⟨r, hr⟩ : ∃ r, r = codeF fs c := ⟨_, rfl⟩
  rw [← hr]
  have HR : Hid (r = codeF fs c) := hr
  obtain ⟨n, hn⟩ : ∃ n, n = c.blocks.length := ⟨_, rfl⟩
  have HN : Hid (n = c.blocks.length) := hn
  rw [← hn] at hbl HBK ⊢
  unfold maxLen at hbl
  have HHF : Hid (headF c = if n = 0 then 6 else if decide (2000 < n) || decide (3000 < c.vars) || decide (16 < c.params) || decide (16 < c.results) then 1
    else if decide (c.params < 0) || decide (c.results < 0) || decide (c.vars < c.params) || c.slots != 0 then 2 else 0) := by unfold Hid; rw [hn]; rfl
  have HRH : Hid (∀ x, headF c = x → x ≠ 0 → r = x) := fun x hx hne => by
    rw [HR.out, codeF, hx, if_pos]
    simpa using hne
  clear hfs hb hr hn
  unfold prgV codV
  obtain ⟨W, hW⟩ : ∃ W, W = (w.alloc (.cells #[.slice a1 fs.length k1, .slice a2 n2 k2] 25)).alloc (.cells #[.string ⟨c.name.toArray⟩, .int .i64 c.params, .int .i64 c.results, .int .i64 c.vars, .int .i64 c.slots, .slice a3 n k3] 28) := ⟨_, rfl⟩
  have HW : Hid (Below w.heap.size w W) := by rw [hW]; exact below_after (below_alloc _ _) (below_alloc _ _)
  have hWs : W.heap.size = w.heap.size + 2 := by rw [hW]; simp
  have HC0 : Hid (W.heap[w.heap.size]? = some (.cells #[.slice a1 fs.length k1, .slice a2 n2 k2] 25)) := by rw [hW]; exact (heap_alloc2 w _ _).1
  have HC1 : Hid (W.heap[w.heap.size + 1]? = some (.cells #[.string ⟨c.name.toArray⟩, .int .i64 c.params, .int .i64 c.results, .int .i64 c.vars, .int .i64 c.slots, .slice a3 n k3] 28)) := by rw [hW]; exact (heap_alloc2 w _ _).2
  have HWS : Hid (W = _) := hW
  clear hW
  by_cases h0 : n = 0
  · have HR2 : Hid (r = 6) := HRH.out 6 (by rw [HHF.out, if_pos h0]) (by decide)
    subst h0
    go_enter Tryd.func8, Tryd.ntmps8
    go_wp2_with fail
    go_ret
    exact ⟨by rw [HR2.out]; rfl, HWS.out ▸ HW.out⟩
  have h0b : ((n : Int) == 0) = false := beq_eq_false_iff_ne.2 (by omega)
  by_cases g1 : 2000 < n ∨ 3000 < c.vars ∨ 16 < c.params ∨ 16 < c.results
  · have HR2 : Hid (r = 1) := HRH.out 1 (by
      rw [HHF.out, if_neg h0, if_pos]
      simp
      omega) (by decide)
    by_cases g2 : 2000 < n
    · have g2I : (2000 : Int) < (n : Int) := by omega
      go_enter Tryd.func8, Tryd.ntmps8
      go_wp2_with fail
      go_ret
      exact ⟨by rw [HR2.out]; rfl, HWS.out ▸ HW.out⟩
    have g2I : ¬ (2000 : Int) < (n : Int) := by omega
    by_cases g3 : 3000 < c.vars
    · go_enter Tryd.func8, Tryd.ntmps8
      go_wp2_with fail
      go_ret
      exact ⟨by rw [HR2.out]; rfl, HWS.out ▸ HW.out⟩
    by_cases g4 : 16 < c.params
    · go_enter Tryd.func8, Tryd.ntmps8
      go_wp2_with fail
      go_ret
      exact ⟨by rw [HR2.out]; rfl, HWS.out ▸ HW.out⟩
    have g5 : 16 < c.results := by omega
    go_enter Tryd.func8, Tryd.ntmps8
    go_wp2_with fail
    go_ret
    exact ⟨by rw [HR2.out]; rfl, HWS.out ▸ HW.out⟩
  have g2I : ¬ (2000 : Int) < (n : Int) := by omega
  have g3 : ¬ 3000 < c.vars := by omega
  have g4 : ¬ 16 < c.params := by omega
  have g5 : ¬ 16 < c.results := by omega
  have HF1 : Hid ((decide (2000 < n) || decide (3000 < c.vars) || decide (16 < c.params) || decide (16 < c.results)) = false) := by unfold Hid; simp; omega
  clear g1
  by_cases k1 : c.params < 0
  · have HR2 : Hid (r = 2) := HRH.out 2 (by rw [HHF.out, if_neg h0, HF1.out, if_neg (by simp), if_pos (by simp [k1])]) (by decide)
    go_enter Tryd.func8, Tryd.ntmps8
    go_wp2_with fail
    go_ret
    exact ⟨by rw [HR2.out]; rfl, HWS.out ▸ HW.out⟩
  by_cases k2 : c.results < 0
  · have HR2 : Hid (r = 2) := HRH.out 2 (by rw [HHF.out, if_neg h0, HF1.out, if_neg (by simp), if_pos (by simp [k2])]) (by decide)
    go_enter Tryd.func8, Tryd.ntmps8
    go_wp2_with fail
    go_ret
    exact ⟨by rw [HR2.out]; rfl, HWS.out ▸ HW.out⟩
  by_cases k3 : c.vars < c.params
  · have HR2 : Hid (r = 2) := HRH.out 2 (by rw [HHF.out, if_neg h0, HF1.out, if_neg (by simp), if_pos (by simp [k3])]) (by decide)
    go_enter Tryd.func8, Tryd.ntmps8
    go_wp2_with fail
    go_ret
    exact ⟨by rw [HR2.out]; rfl, HWS.out ▸ HW.out⟩
  by_cases k4p : c.slots ≠ 0
  · have k4 : (c.slots != 0) = true := by simpa using k4p
    have HR2 : Hid (r = 2) := HRH.out 2 (by rw [HHF.out, if_neg h0, HF1.out, if_neg (by simp), if_pos (by simp [k4])]) (by decide)
    go_enter Tryd.func8, Tryd.ntmps8
    go_wp2_with fail
    go_ret
    exact ⟨by rw [HR2.out]; rfl, HWS.out ▸ HW.out⟩
  have k4 : (c.slots != 0) = false := by simpa using k4p
  have hh0 : headF c = 0 := by
    rw [HHF.out, if_neg h0, HF1.out, if_neg (by simp), if_neg]
    simp [k4]
    omega
  have hok := headF_ok hh0
  have HOK : Hid (1 ≤ c.blocks.length ∧ c.blocks.length ≤ 2000 ∧ 0 ≤ c.vars ∧ c.vars ≤ 3000) := hok
  have HR1 : Hid (r = firstNZ (blockF fs c) 0 n) := by unfold Hid; rw [HR.out, codeF, hh0, HN.out]; rfl
  have hn2 : n ≤ 2000 := by omega
  clear hh0 hok HR HHF HRH HF1
  go_enter Tryd.func8, Tryd.ntmps8
  go_wp2_with fail
  rw [← HWS.out]
  clear HWS h0b g2I g3 g4 g5 k1 k2 k3 k4 k4p
  go_loopg [5, 6] n (fun g s5 s6 wr => ∃ i : Nat, s6 = .int .i64 (i : Nat) ∧ s5 = .int .i64 (accW c.blocks i) ∧ i + g = n ∧ Hid (Below W.heap.size W wr) ∧ Hid (r = firstNZ (blockF fs c) i g))
  case atStart => exact ⟨0, rfl, rfl, by omega, Below.refl _ _, HR1⟩
  case round =>
    clear HR1
    obtain ⟨i, rfl, rfl, hig, HBL, HRI⟩ := hrel
    have hszr := HBL.out.size
    have HP0 : Hid (wr.heap[w.heap.size]? = _) := (HBL.out.block _ (by omega)).trans HC0.out
    have HP1 : Hid (wr.heap[w.heap.size + 1]? = _) := (HBL.out.block _ (by omega)).trans HC1.out
    have p1 := cells2 HP0.out
    have p2 := cells6 HP1.out
    cases gk with
    | zero =>
      have hlt : ¬ (i : Int) < (n : Int) := by omega
      have HR2 : Hid (r = 0) := HRI.out
      have HBF : Hid (Below w.heap.size w wr) := below_after HW.out HBL.out
      go_wp2_with fail
      go_ret
      exact ⟨by rw [HR2.out]; rfl, HBF.out⟩
    | succ g =>
      have hlt : (i : Int) < (n : Int) := by omega
      have hilt : i < c.blocks.length := by have := HN.out; omega
      have hgb : c.blocks[i]? = some c.blocks[i] := List.getElem?_eq_getElem hilt
      generalize c.blocks[i] = b at hgb
      have HGB : Hid (c.blocks[i]? = some b) := hgb
      have HAC : Hid (accW c.blocks (i + 1) = wrap64 (accW c.blocks i + (b.length : Int))) := accW_succ _ _ _ hgb
      obtain ⟨gb, ob, cs, rfl, hgbB, hcs, hu, hcell⟩ := Lies.at HBK.out hgb
      obtain ⟨vbi, rfl, hvbi⟩ := hu
      have HVB : Hid (Blk B w vbi b) := hvbi
      have hlb := hvbi.len
      unfold maxLen at hlb
      obtain ⟨ai, ci, rfl⟩ := Lies.slice hvbi
      have hgbl : gb < w.heap.size := by omega
      have hgbW : gb < W.heap.size := by omega
      have q0 := hcell 0 (by decide)
      simp at q0
      rw [← HW.out.cell (p := ⟨gb, ob + i, none⟩) hgbl] at q0
      have HQ0 : Hid (W.cell? ⟨gb, ob + i, none⟩ = some (.slice ai b.length ci)) := q0
      rw [← HBL.out.cell (p := ⟨gb, ob + i, none⟩) hgbW] at q0
      obtain ⟨m, hm⟩ : ∃ m, m = b.length := ⟨_, rfl⟩
      have HM : Hid (m = b.length) := hm
      rw [← hm] at q0 hlb HAC HQ0 HVB
      obtain ⟨x, hx⟩ : ∃ x, x = accW c.blocks i := ⟨_, rfl⟩
      have HX : Hid (x = accW c.blocks i) := hx
      rw [← hx] at HAC ⊢
      have HBF1 : Hid (blockF fs c i = if m = 0 then 6 else if 6000 < wrap64 (x + (m : Int)) then 1 else firstNZ (atF fs c b) 0 m) := by
        unfold Hid blockF
        rw [HGB.out]
        simp only
        rw [HAC.out, HM.out]
      have HRN : Hid (∀ y, blockF fs c i = y → y ≠ 0 → r = y) := fun y hy hne => by
        rw [HRI.out, firstNZ_hit _ _ _ (by rw [hy]; simpa using hne), hy]
      clear hgb hcell hvbi hcs hm hx
      have HBF : Hid (Below w.heap.size w wr) := below_after HW.out HBL.out
      by_cases m0 : m = 0
      · have HR2 : Hid (r = 6) := HRN.out 6 (by rw [HBF1.out, if_pos m0]) (by decide)
        have m0b : ((m : Int) == 0) = true := by simp [m0]
        go_wp2_with fail
        go_ret
        exact ⟨by rw [HR2.out]; rfl, HBF.out⟩
      have m0b : ((m : Int) == 0) = false := beq_eq_false_iff_ne.2 (by omega)
      by_cases m6 : 6000 < wrap64 (x + (m : Int))
      · have HR2 : Hid (r = 1) := HRN.out 1 (by rw [HBF1.out, if_neg m0, if_pos m6]) (by decide)
        go_wp2_with fail
        go_ret
        exact ⟨by rw [HR2.out]; rfl, HBF.out⟩
      have HBF2 : Hid (blockF fs c i = firstNZ (atF fs c b) 0 m) := by unfold Hid; rw [HBF1.out, if_neg m0, if_neg m6]
      obtain ⟨wo, hwo⟩ : ∃ wo, wo = wr := ⟨_, rfl⟩
      subst hwo
      go_wp2_with fail
      clear q0 p1 p2
      go_loopg [8] m (fun g' s8 wr => ∃ k : Nat, s8 = .int .i64 (k : Nat) ∧ k + g' = m ∧ Hid (Below W.heap.size W wr) ∧ Hid (blockF fs c i = firstNZ (atF fs c b) k g'))
      case atStart => exact ⟨0, rfl, by omega, HBL, HBF2⟩
      case round =>
        clear HBF2
        obtain ⟨k, rfl, hkg, HBI, HRK⟩ := hrel
        cases gk with
        | zero =>
          have hlt3 : ¬ (k : Int) < (m : Int) := by omega
          have HB0 : Hid (blockF fs c i = 0) := HRK.out
          have HR2 : Hid (r = firstNZ (blockF fs c) (i + 1) g) := by unfold Hid; rw [HRI.out, firstNZ_step _ _ _ (by rw [HB0.out]; rfl)]
          go_wp2_with fail
          go_roundg g
          case measure => omega
          case rel => exact ⟨i + 1, by go_num, by rw [HAC.out], by omega, HBI, HR2⟩
        | succ g' =>
          have hlt3 : (k : Int) < (m : Int) := by omega
          have hklt : k < b.length := by have := HM.out; omega
          have hgi : b[k]? = some b[k] := List.getElem?_eq_getElem hklt
          generalize b[k] = q at hgi
          have HGI : Hid (b[k]? = some q) := hgi
          obtain ⟨gi, oi, cs, rfl, hgiB, hcs, hu, hcell⟩ := Lies.at HVB.out hgi
          obtain ⟨vd, va, vt, rfl, hd, ha, ht, hsl, _⟩ := hu
          have HD : Hid (Nums B w vd q.ds) := hd
          have HA : Hid (Nums B w va q.ar) := ha
          have HT : Hid (Nums B w vt q.to) := ht
          have HSL : Hid (q.s.length ≤ maxLen) := hsl
          obtain ⟨ad, kd, rfl⟩ := Lies.slice hd
          obtain ⟨a4, k4, rfl⟩ := Lies.slice ha
          obtain ⟨a5, k5, rfl⟩ := Lies.slice ht
          have hgil : gi < w.heap.size := by omega
          have hgiW : gi < W.heap.size := by omega
          have hszi := HBI.out.size
          have HCL : Hid (∀ w', Below W.heap.size W w' → (w'.cell? ⟨gi, oi + k * 6, none⟩ = some (.int .i64 q.op) ∧ w'.cell? ⟨gi, oi + k * 6 + 1, none⟩ = some (.slice ad q.ds.length kd) ∧ w'.cell? ⟨gi, oi + k * 6 + 2, none⟩ = some (.slice a4 q.ar.length k4) ∧ w'.cell? ⟨gi, oi + k * 6 + 3, none⟩ = some (.int .i64 q.n) ∧ w'.cell? ⟨gi, oi + k * 6 + 4, none⟩ = some (.string ⟨q.s.toArray⟩) ∧ w'.cell? ⟨gi, oi + k * 6 + 5, none⟩ = some (.slice a5 q.to.length k5)) ∧ w'.cell? ⟨gb, ob + i, none⟩ = some (.slice (some ⟨gi, oi, none⟩) m ci) ∧ (w'.cell? ⟨w.heap.size, 0, none⟩ = some (.slice a1 fs.length k1) ∧ w'.cell? ⟨w.heap.size, 1, none⟩ = some (.slice a2 n2 k2)) ∧ (w'.cell? ⟨w.heap.size + 1, 0, none⟩ = some (.string ⟨c.name.toArray⟩) ∧ w'.cell? ⟨w.heap.size + 1, 1, none⟩ = some (.int .i64 c.params) ∧ w'.cell? ⟨w.heap.size + 1, 2, none⟩ = some (.int .i64 c.results) ∧ w'.cell? ⟨w.heap.size + 1, 3, none⟩ = some (.int .i64 c.vars) ∧ w'.cell? ⟨w.heap.size + 1, 4, none⟩ = some (.int .i64 c.slots) ∧ w'.cell? ⟨w.heap.size + 1, 5, none⟩ = some (.slice (some ⟨gb, ob, none⟩) n k3))) := by
            intro w' hb'
            have z0 := hcell 0 (by decide)
            have z1 := hcell 1 (by decide)
            have z2 := hcell 2 (by decide)
            have z3 := hcell 3 (by decide)
            have z4 := hcell 4 (by decide)
            have z5 := hcell 5 (by decide)
            simp at z0 z1 z2 z3 z4 z5
            have cc : ∀ o', w'.cell? ⟨gi, o', none⟩ = w.cell? ⟨gi, o', none⟩ := fun o' => (hb'.cell (p := ⟨gi, o', none⟩) hgiW).trans (HW.out.cell (p := ⟨gi, o', none⟩) hgil)
            exact ⟨⟨(cc _).trans z0, (cc _).trans z1, (cc _).trans z2, (cc _).trans z3, (cc _).trans z4, (cc _).trans z5⟩, (hb'.cell (p := ⟨gb, ob + i, none⟩) hgbW).trans HQ0.out, cells2 ((hb'.block _ (by omega)).trans HC0.out), cells6 ((hb'.block _ (by omega)).trans HC1.out)⟩
          have HAT : Hid (atF fs c b k = if (instrF fs c q != 0) = true then instrF fs c q else if (endsB q.op != ((k : Int) == (m : Int) - 1)) = true then 4 else 0) := by
            unfold Hid atF
            rw [HGI.out]
            simp only
            rw [← HM.out]
          have hcw := HCL.out wr HBI.out
          have HBD : Hid (Below W.heap.size W wr.drew) := HBI.out.drew
          have hcd := HCL.out wr.drew HBD.out
          have HDW : Hid (Below w.heap.size w wr.drew) := below_after HW.out HBD.out
          have hszd : wr.drew.heap.size = wr.heap.size := rfl
          clear hgi hcell hcs hd ha ht hsl
          have hsz1 : wr.heap.size ≥ w.heap.size + 2 := by omega
          go_wp2_with fail
          go_region_held3 (fun w' => (w'.cell? ⟨gi, oi + k * 6, none⟩ = some (.int .i64 q.op) ∧ w'.cell? ⟨gi, oi + k * 6 + 1, none⟩ = some (.slice ad q.ds.length kd) ∧ w'.cell? ⟨gi, oi + k * 6 + 2, none⟩ = some (.slice a4 q.ar.length k4) ∧ w'.cell? ⟨gi, oi + k * 6 + 3, none⟩ = some (.int .i64 q.n) ∧ w'.cell? ⟨gi, oi + k * 6 + 4, none⟩ = some (.string ⟨q.s.toArray⟩) ∧ w'.cell? ⟨gi, oi + k * 6 + 5, none⟩ = some (.slice a5 q.to.length k5)) ∧ w'.cell? ⟨gb, ob + i, none⟩ = some (.slice (some ⟨gi, oi, none⟩) m ci) ∧ (w'.cell? ⟨w.heap.size, 0, none⟩ = some (.slice a1 fs.length k1) ∧ w'.cell? ⟨w.heap.size, 1, none⟩ = some (.slice a2 n2 k2)) ∧ (w'.cell? ⟨w.heap.size + 1, 0, none⟩ = some (.string ⟨c.name.toArray⟩) ∧ w'.cell? ⟨w.heap.size + 1, 1, none⟩ = some (.int .i64 c.params) ∧ w'.cell? ⟨w.heap.size + 1, 2, none⟩ = some (.int .i64 c.results) ∧ w'.cell? ⟨w.heap.size + 1, 3, none⟩ = some (.int .i64 c.vars) ∧ w'.cell? ⟨w.heap.size + 1, 4, none⟩ = some (.int .i64 c.slots) ∧ w'.cell? ⟨w.heap.size + 1, 5, none⟩ = some (.slice (some ⟨gb, ob, none⟩) n k3))) (first | exact hcd | exact hc5)
            (first | (go_at_call 21; refine (instrR_all q.op q.ds q.ar q.n q.s q.to c fs _ _ _ _ _ _ B wr.drew (by omega) (HFS.out.below (HDW.out.mono hB)) ⟨_, _, _, rfl⟩ ⟨_, _, by rw [← HN.out]⟩ HOK.out.1 HOK.out.2.1 HOK.out.2.2.1 HOK.out.2.2.2 (HD.out.below (HDW.out.mono hB)) (HA.out.below (HDW.out.mono hB)) (HT.out.below (HDW.out.mono hB)) HSL.out).mono ?_; rintro e w5 ⟨rfl, hb5⟩; have HB5 : Hid (Below W.heap.size W w5) := HBD.out.trans (hb5.mono (by omega)); have hc5 := HCL.out w5 HB5.out; clear hb5))
          rcases h1 : (instrF fs c q == 0) with _ | _
          · have h1n : (instrF fs c q != 0) = true := by simp [bne, h1]
            have HA1 : Hid (atF fs c b k = instrF fs c q) := by unfold Hid; rw [HAT.out, if_pos h1n]
            have HR2 : Hid (r = instrF fs c q) := HRN.out _ (by rw [HRK.out, firstNZ_hit _ _ _ (by rw [HA1.out]; exact h1n), HA1.out]) (by simpa using h1n)
            have HBZ : Hid (Below w.heap.size w w5) := below_after HW.out HB5.out
            go_wp2_with fail
            go_ret
            exact ⟨by rw [HR2.out]; rfl, HBZ.out⟩
          have h1n : (instrF fs c q != 0) = false := by simp [bne, h1]
          have h1z : instrF fs c q = 0 := by simpa using h1
          have HAT2 : Hid (atF fs c b k = if (endsB q.op != ((k : Int) == (m : Int) - 1)) = true then 4 else 0) := by unfold Hid; rw [HAT.out, h1n]; rfl
          rw [h1z]
          clear h1z h1 h1n
          go_wp2_with fail
          refine (closes_any q.op _).mono ?_
          rintro e w6 ⟨rfl, hw6⟩
          have hw6' := hw6.symm
          subst hw6'
          have HBZ : Hid (Below w.heap.size w w5) := below_after HW.out HB5.out
          rcases e1 : endsB q.op with _ | _ <;> rcases e2 : ((k : Int) == (m : Int) - 1) with _ | _
          · have HA1 : Hid (atF fs c b k = 0) := by unfold Hid; rw [HAT2.out, e1, e2]; rfl
            have HR2 : Hid (blockF fs c i = firstNZ (atF fs c b) (k + 1) g') := by unfold Hid; rw [HRK.out, firstNZ_step _ _ _ (by rw [HA1.out]; rfl)]
            go_wp2_with fail
            go_roundg g'
            case measure => omega
            case rel => exact ⟨k + 1, by go_num, by omega, HB5, HR2⟩
          · have HA1 : Hid (atF fs c b k = 4) := by unfold Hid; rw [HAT2.out, e1, e2]; rfl
            have HR2 : Hid (r = 4) := HRN.out _ (by rw [HRK.out, firstNZ_hit _ _ _ (by rw [HA1.out]; rfl), HA1.out]) (by decide)
            go_wp2_with fail
            go_ret
            exact ⟨by rw [HR2.out]; rfl, HBZ.out⟩
          · have HA1 : Hid (atF fs c b k = 4) := by unfold Hid; rw [HAT2.out, e1, e2]; rfl
            have HR2 : Hid (r = 4) := HRN.out _ (by rw [HRK.out, firstNZ_hit _ _ _ (by rw [HA1.out]; rfl), HA1.out]) (by decide)
            go_wp2_with fail
            go_ret
            exact ⟨by rw [HR2.out]; rfl, HBZ.out⟩
          · have HA1 : Hid (atF fs c b k = 0) := by unfold Hid; rw [HAT2.out, e1, e2]; rfl
            have HR2 : Hid (blockF fs c i = firstNZ (atF fs c b) (k + 1) g') := by unfold Hid; rw [HRK.out, firstNZ_step _ _ _ (by rw [HA1.out]; rfl)]
            go_wp2_with fail
            go_roundg g'
            case measure => omega
            case rel => exact ⟨k + 1, by go_num, by omega, HB5, HR2⟩
end

end Go.Proofs.YthlngmknifpbjaaDoor
