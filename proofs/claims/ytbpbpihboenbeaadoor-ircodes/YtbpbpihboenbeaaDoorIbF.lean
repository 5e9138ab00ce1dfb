/-
  The statement's own look at an instruction.
-/
import Derived.Test.YtbpbpihboenbeaaDoorIbC0
namespace Go.Proofs.YtbpbpihboenbeaaDoor
open Go.RowKit Go.Maps
set_option linter.unusedSimpArgs false
set_option linter.unusedVariables false

set_option maxHeartbeats 8000000 in
set_option maxRecDepth 20000 in
theorem instrR_7 : SaidR 7 := by
  intro ds ar nn s to c fs vf vdt vb vd va vt B w hB hfs hvdt hvb hb1 hb2 hv0 hv3 hd ha ht hs
  have hlF := hfs.len
  have HFS : Hid (Cods B w vf fs) := hfs
  obtain ⟨a1, k1, rfl⟩ := Lies.slice hfs
  obtain ⟨a2, n2, k2, rfl⟩ := hvdt
  obtain ⟨a3, k3, rfl⟩ := hvb
  have HD : Hid (Nums B w vd ds) := hd
  have HA : Hid (Nums B w va ar) := ha
  have HT : Hid (Nums B w vt to) := ht
  have HSL : Hid (s.length ≤ maxLen) := hs
  have hlD := hd.len
  have hlA := ha.len
  have hlT := ht.len
  obtain ⟨ad, kd, rfl⟩ := Lies.slice hd
  obtain ⟨a4, k4, rfl⟩ := Lies.slice ha
  obtain ⟨a5, k5, rfl⟩ := Lies.slice ht
  unfold maxLen at hlD hlA hlT hlF
  obtain ⟨r, hr⟩ : ∃ r, r = instrF fs c ⟨7, ds, ar, nn, s, to⟩ := ⟨_, rfl⟩
  rw [← hr]
  have HR : Hid (r = _) := hr
  obtain ⟨nd, hnd⟩ : ∃ n, n = ds.length := ⟨_, rfl⟩
  obtain ⟨na, hna⟩ : ∃ n, n = ar.length := ⟨_, rfl⟩
  obtain ⟨nt, hnt⟩ : ∃ n, n = to.length := ⟨_, rfl⟩
  obtain ⟨nb, hnb⟩ : ∃ n, n = c.blocks.length := ⟨_, rfl⟩
  have HND : Hid (nd = ds.length) := hnd
  have HNA : Hid (na = ar.length) := hna
  have HNT : Hid (nt = to.length) := hnt
  have HNB : Hid (nb = c.blocks.length) := hnb
  rw [← hnd] at hlD
  rw [← hna] at hlA
  rw [← hnt] at hlT
  rw [← hnb] at hb1 hb2
  rw [← hnb, ← hnd, ← hna, ← hnt]
  rw [← hnd] at HD
  rw [← hna] at HA
  rw [← hnt] at HT
  clear hfs hd ha ht hs hr hnd hna hnt hnb
  unfold prgV codV insV
  simp only
  obtain ⟨W, hW⟩ : ∃ W, W = ((w.alloc (.cells #[.slice a1 fs.length k1, .slice a2 n2 k2] 25)).alloc (.cells #[.string ⟨c.name.toArray⟩, .int .i64 c.params, .int .i64 c.results, .int .i64 c.vars, .int .i64 c.slots, .slice a3 nb k3] 28)).alloc (.cells #[.int .i64 7, .slice ad nd kd, .slice a4 na k4, .int .i64 nn, .string ⟨s.toArray⟩, .slice a5 nt k5] 43) := ⟨_, rfl⟩
  have HW : Hid (Below w.heap.size w W) := by rw [hW]; exact below_after (below_after (below_alloc _ _) (below_alloc _ _)) (below_alloc _ _)
  have hWs : W.heap.size = w.heap.size + 3 := by rw [hW]; simp
  have HC0 : Hid (W.heap[w.heap.size]? = some (.cells #[.slice a1 fs.length k1, .slice a2 n2 k2] 25)) := by rw [hW]; exact blk_alloc (heap_alloc2 w _ _).1 _
  have HC1 : Hid (W.heap[w.heap.size + 1]? = some (.cells #[.string ⟨c.name.toArray⟩, .int .i64 c.params, .int .i64 c.results, .int .i64 c.vars, .int .i64 c.slots, .slice a3 nb k3] 28)) := by rw [hW]; exact blk_alloc (heap_alloc2 w _ _).2 _
  have HC2 : Hid (W.heap[w.heap.size + 2]? = some (.cells #[.int .i64 7, .slice ad nd kd, .slice a4 na k4, .int .i64 nn, .string ⟨s.toArray⟩, .slice a5 nt k5] 43)) := by rw [hW]; exact heap_alloc3 w _ _ _
  have HWS : Hid (W = _) := hW
  clear hW
  have hzd : ((nd : Int) != (nd : Int)) = false := by simp
  have hza : ((na : Int) != (na : Int)) = false := by simp
  have hzt : ((nt : Int) != (nt : Int)) = false := by simp
  rcases e3 : (nt == 0) with _ | _
  · have e3L : (to.length == 0) = false := by rw [← HNT.out]; exact e3
    have e3I : ((nt : Int) != 0) = true := by rw [ne0, e3]; rfl
    have HR2 : Hid (r = 10) := HR.out.trans (F_10 (show (1 : Int) ≤ 7 by decide) (show (7 : Int) ≤ 13 by decide) (show (to.length == 0) = false by rw [e3L]))
    clear e3L
    go_enter Tryd.func14, Tryd.ntmps14
    go_wp2_with fail
    go_ret
    exact ⟨by rw [HR2.out]; rfl, HWS.out ▸ HW.out⟩
  have e3L : Hid ((to.length == 0) = true) := by unfold Hid; rw [← HNT.out]; exact e3
  have e3I : ((nt : Int) != 0) = false := by rw [ne0, e3]; rfl
  have HCO : Hid (countOk (Ins.op ⟨7, ds, ar, nn, s, to⟩) ds.length ar.length to.length = true) := (show (to.length == 0) = true by rw [e3L.out])
  go_enter Tryd.func14, Tryd.ntmps14
  go_wp2_with fail
  rw [← HWS.out]
  have p1 := cells2 HC0.out
  have p2 := cells6 HC1.out
  have p3 := cells6 HC2.out
  refine (allIn_any _ B _ ds W (HD.out.below (HW.out.mono hB))).mono ?_
  rintro e w1 ⟨rfl, hw1⟩
  have hw1' := hw1.symm
  subst hw1'
  rw [allB_below]
  rcases b1 : belowB c.vars ds with _ | _
  · have HR2 : Hid (r = 2) := HR.out.trans (F_2 (show (1 : Int) ≤ 7 by decide) (show (7 : Int) ≤ 13 by decide) HCO.out (by simp only [b1]; rfl))
    go_wp2_with fail
    go_ret
    exact ⟨by rw [HR2.out]; rfl, HW.out⟩
  go_wp2_with fail
  refine (allIn_any _ B _ ar W (HA.out.below (HW.out.mono hB))).mono ?_
  rintro e w2 ⟨rfl, hw2⟩
  have hw2' := hw2.symm
  subst hw2'
  rw [allB_below]
  rcases b2 : belowB c.vars ar with _ | _
  · have HR2 : Hid (r = 2) := HR.out.trans (F_2 (show (1 : Int) ≤ 7 by decide) (show (7 : Int) ≤ 13 by decide) HCO.out (by simp only [b1, b2]; rfl))
    go_wp2_with fail
    go_ret
    exact ⟨by rw [HR2.out]; rfl, HW.out⟩
  go_wp2_with fail
  refine (allIn_any _ B _ to W (HT.out.below (HW.out.mono hB))).mono ?_
  rintro e w3 ⟨rfl, hw3⟩
  have hw3' := hw3.symm
  subst hw3'
  rw [allB_below]
  rcases b3 : belowB (nb : Int) to with _ | _
  · have HR2 : Hid (r = 2) := HR.out.trans (F_2 (show (1 : Int) ≤ 7 by decide) (show (7 : Int) ≤ 13 by decide) HCO.out (by simp only [b1, b2]; rw [← HNB.out, b3]; rfl))
    go_wp2_with fail
    go_ret
    exact ⟨by rw [HR2.out]; rfl, HW.out⟩
  have HBO : Hid ((belowB c.vars ds && (belowB c.vars ar && belowB c.blocks.length to)) = true) := by unfold Hid; rw [b1, b2, ← HNB.out, b3]; rfl
  clear b1 b2 b3
  have HI7 : Hid (r = invokeF fs ⟨7, ds, ar, nn, s, to⟩) := HR.out.trans (F_7 (show (1 : Int) ≤ 7 by decide) (show (7 : Int) ≤ 13 by decide) HCO.out HBO.out rfl rfl rfl)
  clear HR HCO HBO
  go_wp2_with fail
  refine (funcNamed_any fs s _ _ B W (by omega) (HFS.out.below (HW.out.mono hB)) ⟨_, _, _, rfl⟩).mono ?_
  rintro e w4 ⟨rfl, hb4⟩
  have HB4 : Hid (Below w.heap.size w w4) := below_after HW.out hb4
  have hs4 := hb4.size
  clear p1 p2 p3
  have HK0 : Hid (w4.heap[w.heap.size]? = _) := (hb4.block _ (by omega)).trans HC0.out
  have HK2 : Hid (w4.heap[w.heap.size + 2]? = _) := (hb4.block _ (by omega)).trans HC2.out
  have p1 := cells2 HK0.out
  have p2 := cells6 ((hb4.block _ (by omega)).trans HC1.out)
  have p3 := cells6 HK2.out
  clear hb4 HC0 HC1 HC2 HWS
  rcases hp : placeOf fs s with _ | k
  · have hq : plI fs s = -1 := by unfold plI; rw [hp]
    have HR2 : Hid (r = 6) := HI7.out.trans (by unfold invokeF; rw [hp])
    rw [hq]
    go_wp2_with fail
    go_ret
    exact ⟨by rw [HR2.out]; rfl, HB4.out⟩
  have hq : plI fs s = (k : Int) := by unfold plI; rw [hp]
  have HP : Hid (_) := hp
  have hklt : k < fs.length := by
    unfold placeOf at hp
    obtain ⟨h, _⟩ := List.findIdx?_eq_some_iff_getElem.1 hp
    exact h
  have hget : fs[k]? = some fs[k] := List.getElem?_eq_getElem hklt
  generalize fs[k] = f at hget
  have HGET : Hid (fs[k]? = some f) := hget
  obtain ⟨ga, o, cs, rfl, hgB, hcs, hu, hcell⟩ := Lies.at HFS.out hget
  obtain ⟨vb', rfl, hvb', hnl, _⟩ := hu
  have hga : ga < w.heap.size := by omega
  have q1 := hcell 1 (by decide)
  have q2 := hcell 2 (by decide)
  simp at q1 q2
  rw [← HB4.out.cell (p := ⟨ga, o + k * 6 + 1, none⟩) hga] at q1
  rw [← HB4.out.cell (p := ⟨ga, o + k * 6 + 2, none⟩) hga] at q2
  have hlt : (k : Int) < (fs.length : Int) := by omega
  have hk0 : ¬ (k : Int) < 0 := by omega
  clear hp hget hcell hvb' hnl hcs
  rw [hq]
  have HI8 : Hid (r = if ((na : Int) != f.params || (nd : Int) != f.results) = true then 10 else if twiceB ds = true then 7 else 0) := by
    unfold Hid
    rw [HI7.out]
    unfold invokeF
    rw [HP.out]
    simp only [HGET.out]
    rw [← HNA.out, ← HND.out]
  rcases h1 : ((na : Int) != f.params) with _ | _
  · rcases h2 : ((nd : Int) != f.results) with _ | _
    · have HI9 : Hid (r = if twiceB ds = true then 7 else 0) := by unfold Hid; rw [HI8.out, h1, h2]; rfl
      go_wp2_with fail
      clear q1 q2 p1 p2 p3
      go_loopg [11] nd (fun g s11 wr => ∃ i : Nat, s11 = .int .i64 (i : Nat) ∧ i + g = nd ∧ Hid (Below w4.heap.size w4 wr) ∧ Hid (∀ (m n : Nat) (x : Int), m < n → n < i → ds[m]? = some x → ds[n]? = some x → False))
      case atStart => exact ⟨0, rfl, by omega, Below.refl _ _, fun m n x _ hn => absurd hn (by omega)⟩
      case round =>
        obtain ⟨i, rfl, hig, HBL, HJ⟩ := hrel
        cases gk with
        | zero =>
          have hlt2 : ¬ (i : Int) < (nd : Int) := by omega
          have HR2 : Hid (r = 0) := by
            unfold Hid
            rw [HI9.out, twice_not ds fun m n x hmn hm hn => HJ.out m n x hmn (by have := (List.getElem?_eq_some_iff.1 hn).1; have := HND.out; omega) hm hn]
            rfl
          have HBF : Hid (Below w.heap.size w wr) := below_after HB4.out HBL.out
          go_wp2_with fail
          go_ret
          exact ⟨by rw [HR2.out]; rfl, HBF.out⟩
        | succ g =>
          have hlt2 : (i : Int) < (nd : Int) := by omega
          have hilt : i < ds.length := by have := HND.out; omega
          have hgi : ds[i]? = some ds[i] := List.getElem?_eq_getElem hilt
          generalize ds[i] = xi at hgi
          have HGI : Hid (ds[i]? = some xi) := hgi
          clear hgi
          obtain ⟨wo, hwo⟩ : ∃ wo, wo = wr := ⟨_, rfl⟩
          subst hwo
          go_wp2_with fail
          go_loopg [12] i (fun g' s12 wr => ∃ m : Nat, s12 = .int .i64 (m : Nat) ∧ m + g' = i ∧ Hid (Below w4.heap.size w4 wr) ∧ Hid (∀ (m' : Nat), m' < m → ds[m']? = some xi → False))
          case atStart => exact ⟨0, rfl, by omega, HBL, fun m' hm => absurd hm (by omega)⟩
          case round =>
            obtain ⟨m, rfl, hmg, HBI, HJI⟩ := hrel
            cases gk with
            | zero =>
              have hlt3 : ¬ (m : Int) < (i : Int) := by omega
              go_wp2_with fail
              go_roundg g
              case measure => omega
              case rel =>
                refine ⟨i + 1, by go_num, by omega, HBI, fun m' n x hmn hn hm hx => ?_⟩
                rcases Nat.lt_or_ge n i with h | h
                · exact HJ.out m' n x hmn h hm hx
                · have : n = i := by omega
                  subst this
                  rw [HGI.out] at hx
                  cases hx
                  exact HJI.out m' (by omega) hm
            | succ g' =>
              have hlt3 : (m : Int) < (i : Int) := by omega
              have hmlt : m < ds.length := by omega
              have hgm : ds[m]? = some ds[m] := List.getElem?_eq_getElem hmlt
              generalize ds[m] = xm at hgm
              obtain ⟨gd, od, cs, rfl, hgd, hcs, hP, hcell⟩ := Lies.at HD.out hgm
              obtain ⟨rfl, _⟩ := hP
              obtain ⟨gd2, od2, cs2, hae, hgd2, hcs2, hP2, hcell2⟩ := Lies.at HD.out HGI.out
              injection hae with hae
              injection hae with hae1 hae2
              subst hae1
              subst hae2
              obtain ⟨rfl, _⟩ := hP2
              have hgdl : gd < w.heap.size := by omega
              have hgdl4 : gd < w4.heap.size := by omega
              have q0 := hcell 0 (by decide)
              have q1 := hcell2 0 (by decide)
              simp at q0 q1
              rw [← HB4.out.cell (p := ⟨gd, od + m, none⟩) hgdl, ← HBI.out.cell (p := ⟨gd, od + m, none⟩) hgdl4] at q0
              rw [← HB4.out.cell (p := ⟨gd, od + i, none⟩) hgdl, ← HBI.out.cell (p := ⟨gd, od + i, none⟩) hgdl4] at q1
              have q0d : wr.drew.cell? ⟨gd, od + m, none⟩ = some (.int .i64 xm) := q0
              have q1d : wr.drew.cell? ⟨gd, od + i, none⟩ = some (.int .i64 xi) := q1
              have hK := (HBI.out.block _ (by omega)).trans HK2.out
              have p3 := cells6 hK
              have p3d := cells6 (show wr.drew.heap[w.heap.size + 2]? = _ from hK)
              have HGM : Hid (ds[m]? = some xm) := hgm
              have HBD : Hid (Below w4.heap.size w4 wr.drew) := HBI.out.drew
              have hlt4 : (m : Int) < (nd : Int) := by omega
              clear hgm hcell hcell2 hcs hcs2 hK
              go_wp2_with fail
              go_region
              all_goals (
                rcases hx : (xm == xi) with _ | _
                · go_wp2_with fail
                  go_roundg g'
                  case measure => omega
                  case rel =>
                    refine ⟨m + 1, by go_num, by omega, HBD, fun m' hm' hh => ?_⟩
                    rcases Nat.lt_or_ge m' m with h | h
                    · exact HJI.out m' h hh
                    · have : m' = m := by omega
                      subst this
                      rw [HGM.out] at hh
                      cases hh
                      simp at hx
                · have HR2 : Hid (r = 7) := by
                    unfold Hid
                    have he : xm = xi := by simpa using hx
                    subst he
                    rw [HI9.out, twice_of ds m i _ (by omega) HGM.out HGI.out]
                    rfl
                  have HBF : Hid (Below w.heap.size w wr.drew) := below_after HB4.out HBD.out
                  go_wp2_with fail
                  go_ret
                  exact ⟨by rw [HR2.out]; rfl, HBF.out⟩)
    · have HR2 : Hid (r = 10) := by unfold Hid; rw [HI8.out, h1, h2]; rfl
      go_wp2_with fail
      go_ret
      exact ⟨by rw [HR2.out]; rfl, HB4.out⟩
  · have HR2 : Hid (r = 10) := by unfold Hid; rw [HI8.out, h1]; rfl
    go_wp2_with fail
    go_ret
    exact ⟨by rw [HR2.out]; rfl, HB4.out⟩

end Go.Proofs.YtbpbpihboenbeaaDoor
