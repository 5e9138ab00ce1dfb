/-
  Package ssa: what is wrong with the Phis.
-/
import Derived.Test.YthlngmknifpbjaaDoorJSoF
import Derived.Deep.Cut
namespace Go.Proofs.YthlngmknifpbjaaDoor
open Go.RowKit
set_option linter.unusedSimpArgs false
set_option linter.unusedVariables false

/-- what is wrong with a Phi of block b, ahead of which so many stand -/
def phiE (vars : Int) (na b : Nat) (x : Ins) : Int :=
  if x.ds.length != 1 || x.ar.length != na || x.to.length != 0 then 10
  else if !belowB vars x.ds || !belowB vars x.ar then 2
  else if b == 0 then 4 else 0
def phiB (vars : Int) (na b : Nat) (bl : List Ins) : Int := firstNZ (fun k => match bl[k]? with | some x => phiE vars na b x | none => 0) 0 (phiN bl)
def phiA (vars : Int) (AH : List (List Int)) (bs : List (List Ins)) : Int := firstNZ (fun b => match bs[b]? with | some bl => phiB vars (AH.getD b []).length b bl | none => 0) 0 bs.length

set_option maxHeartbeats 4000000 in
set_option maxRecDepth 20000 in
theorem phis_any (c : Cod) (vb f1 f2 f3 f4 f5 f6 : Value) (mp K n k9 B : Nat) (a9 : Option Addr) (AH : List (List Int)) (w : World) (hB : B ≤ w.heap.size) (hb : Blks B w vb c.blocks) (hcp : BCap w vb c.blocks)
    (hn : n = c.blocks.length) (hl : AH.length = n) (hA : Rws B w (.slice a9 n k9) AH) (hK : w.heap[K]? = some (kobj c vb (.slice a9 n k9) f1 f2 f3 f4 f5 f6 mp)) :
    Calls Tryd.prog 18 #[.pointer (some ⟨K, 0, none⟩)] w fun e w' => e = .returned (.int .i64 (phiA c.vars AH c.blocks)) ∧ Below w.heap.size w w' := by
  obtain ⟨a, k, rfl⟩ := Lies.slice hb
  rw [← hn] at hb hcp hK
  have HN : Hid (n = c.blocks.length) := hn
  have hnm : n ≤ 9223372036854775807 := by have := hb.len; unfold maxLen at this; omega
  have HBK : Hid (Blks B w (.slice a n k) c.blocks) := hb
  have HCP : Hid (BCap w (.slice a n k) c.blocks) := hcp
  have HAH : Hid (Rws B w (.slice a9 n k9) AH) := hA
  have HAL : Hid (AH.length = n) := hl
  have HBW : Hid (B ≤ w.heap.size) := hB
  obtain ⟨r, hr⟩ : ∃ r, r = phiA c.vars AH c.blocks := ⟨_, rfl⟩
  rw [← hr]
  have HR : Hid (r = phiA c.vars AH c.blocks) := hr
  obtain ⟨kb, hkb⟩ : ∃ kb, kb = w.heap.size := ⟨_, rfl⟩
  obtain ⟨w0, hw0⟩ : ∃ w0, w0 = w.alloc (.cells #[.pointer (some ⟨K, 0, none⟩)] 64) := ⟨_, rfl⟩
  have HW0 : Hid (w0 = _) := hw0
  have HB0 : Hid (Below w.heap.size w w0) := by rw [hw0]; exact below_alloc _ _
  have HKB : Hid (kb = w.heap.size) := hkb
  have HKL : Hid (K < w.heap.size) := lt_of_block hK
  have hbox : w0.cell? ⟨kb, 0, none⟩ = some (.pointer (some ⟨K, 0, none⟩)) := by rw [hw0, hkb]; exact new_cell w _ _
  have hK0 : w0.heap[K]? = some (kobj c (.slice a n k) (.slice a9 n k9) f1 f2 f3 f4 f5 f6 mp) := (HB0.out.block K (lt_of_block hK)).trans hK
  have HKX : Hid (∀ wx, Below w0.heap.size w0 wx → (wx.cell? ⟨kb, 0, none⟩ = some (.pointer (some ⟨K, 0, none⟩))) ∧ wx.heap[K]? = some (kobj c (.slice a n k) (.slice a9 n k9) f1 f2 f3 f4 f5 f6 mp)) := fun wx h => by
    have hs : w0.heap.size = w.heap.size + 1 := by rw [hw0]; simp
    exact ⟨(h.cell (p := ⟨kb, 0, none⟩) (by show kb < _; omega)).trans hbox, (h.block K (by have := HKL.out; omega)).trans hK0⟩
  obtain ⟨hbx, hkk⟩ := HKX.out w0 (Below.refl _ _)
  obtain ⟨q0, q1, q2, q3, q4, q5, q6, q7, q8, q9, q10, q11, q12, q13⟩ := cells14 hkk
  clear hb hcp hA hl hB hr hw0 hK hkb hbox hK0 hkk hn
  go_enter Tryd.func18, Tryd.ntmps18
  have L5 : (w.alloc (.cells #[.pointer (some ⟨K, 0, none⟩)] 64)).cell? ⟨K, 5, none⟩ = some (.slice a n k) := by rw [← HW0.out]; exact q5
  go_wp2_with fail
  rw [← HW0.out, ← HKB.out]
  clear L5 q0 q1 q2 q3 q4 q5 q6 q7 q8 q9 q10 q11 q12 q13 hbx
  obtain ⟨EB, hEB⟩ : ∃ EB : Nat → Int, EB = fun b => match c.blocks[b]? with | some bl => phiB c.vars (AH.getD b []).length b bl | none => 0 := ⟨_, rfl⟩
  have HEB : Hid (EB = _) := hEB
  have HRB : Hid (r = firstNZ EB 0 n) := by unfold Hid; rw [HR.out, hEB, HN.out]; rfl
  clear hEB
  go_loopg [15] n (fun g s15 wr => ∃ b : Nat, s15 = .int .i64 (b : Nat) ∧ b + g = n ∧ Hid (r = firstNZ EB b g) ∧ Hid (Below w0.heap.size w0 wr))
  case atStart => exact ⟨0, rfl, by omega, HRB, Below.refl _ _⟩
  case round =>
    clear HRB
    obtain ⟨b, rfl, hb', HRB, HBL⟩ := hrel
    cases gk with
    | zero =>
      have hlt : ¬ (b : Int) < (n : Int) := by omega
      have HR0 : Hid (r = 0) := HRB.out
      go_wp2_with fail
      go_ret
      exact ⟨by rw [HR0.out]; rfl, HB0.out.trans (HBL.out.mono HB0.out.size)⟩
    | succ g =>
      have hlt : (b : Int) < (n : Int) := by omega
      have hbn : b < n := by omega
      have hget : c.blocks[b]? = some c.blocks[b] := List.getElem?_eq_getElem (by have := HN.out; omega)
      generalize c.blocks[b] = bl at hget
      have HG : Hid (c.blocks[b]? = some bl) := hget
      obtain ⟨gb, ob, cs, rfl, hgb, _, ⟨vk, rfl, hvk⟩, hcl⟩ := Lies.at HBK.out hget
      obtain ⟨ak, ck, rfl⟩ := Lies.slice hvk
      have qw := hcl 0 (by decide)
      simp at qw
      have q0 : wr.cell? ⟨gb, ob + b, none⟩ = some (.slice ak bl.length ck) := (((HB0.out.trans (HBL.out.mono HB0.out.size)).mono HBW.out).cell (p := ⟨gb, ob + b, none⟩) hgb).trans qw
      have hbl := hvk.len
      unfold maxLen at hbl
      have HVK : Hid (Blk B w (.slice ak bl.length ck) bl) := hvk
      have hck : bl.length ≤ ck := by
        obtain ⟨a2, l2, k2, h1, h2⟩ := HCP.out gb ob n k b rfl (by have := HN.out; omega)
        rw [qw] at h1; cases h1; exact h2
      obtain ⟨na, hna⟩ : ∃ na, na = (AH.getD b []).length := ⟨_, rfl⟩
      have HNA : Hid (na = _) := hna
      obtain ⟨p, hp⟩ : ∃ p, p = phiN bl := ⟨_, rfl⟩
      have HP : Hid (p = phiN bl) := hp
      have hpl : p ≤ bl.length := by rw [hp]; exact phiN_le bl
      have hpc : p ≤ ck := by omega
      have hpI : (p : Int) ≤ (ck : Int) := by omega
      clear hcl hget hvk hp hna qw
      go_wp2_with fail
      refine (phisOf_any bl _ _ _ (Blk.below HVK.out ((HB0.out.trans (HBL.out.mono HB0.out.size)).mono HBW.out))).mono ?_
      rintro e w3 ⟨rfl, hw3⟩
      have hw3' := hw3.symm
      subst hw3'
      rw [← HP.out]
      obtain ⟨EK, hEK⟩ : ∃ EK : Nat → Int, EK = fun j => match bl[j]? with | some x => phiE c.vars na b x | none => 0 := ⟨_, rfl⟩
      have HEK : Hid (EK = _) := hEK
      have HKE : Hid (EB b = firstNZ EK 0 p) := by
        have h1 : EB b = phiB c.vars (AH.getD b []).length b bl := by rw [HEB.out]; simp [HG.out]
        unfold Hid
        rw [h1, ← HNA.out, hEK, HP.out]; rfl
      clear hEK hck q0
      go_wp2_with fail
      go_loopg [25] p (fun g2 s25 wr => ∃ j : Nat, s25 = .int .i64 (j : Nat) ∧ j + g2 = p ∧ Hid (EB b = firstNZ EK j g2) ∧ Hid (Below w0.heap.size w0 wr))
      case atStart => exact ⟨0, rfl, by omega, HKE, HBL⟩
      case round =>
        clear HKE HBL
        obtain ⟨j, rfl, hj', HKE, HBL⟩ := hrel
        cases gk with
        | zero =>
          have hltj : ¬ (j : Int) < (p : Int) := by omega
          have HE0 : Hid (EB b = 0) := HKE.out
          have HRB2 : Hid (r = firstNZ EB (b + 1) g) := HRB.out.trans (firstNZ_step EB b g (by rw [HE0.out]; rfl))
          go_wp2_with fail
          go_roundg g
          case measure => omega
          case rel => exact ⟨b + 1, by go_num, by omega, HRB2, HBL⟩
        | succ g2 =>
          have hltj : (j : Int) < (p : Int) := by omega
          have HBX : Hid (Below B w wr) := (HB0.out.trans (HBL.out.mono HB0.out.size)).mono HBW.out
          have hgx : bl[j]? = some bl[j] := List.getElem?_eq_getElem (by omega)
          generalize bl[j] = x at hgx
          have HGX : Hid (bl[j]? = some x) := hgx
          obtain ⟨gi, oi, cs, rfl, hgi, hcs, ⟨vd, va, vt, rfl, hds, has, hts, _⟩, hcl⟩ := Lies.at (Blk.below HVK.out HBX.out) hgx
          have i0 := hcl 0 (by decide)
          have i1 := hcl 1 (by decide)
          have i2 := hcl 2 (by decide)
          have i3 := hcl 3 (by decide)
          have i4 := hcl 4 (by decide)
          have i5 := hcl 5 (by decide)
          simp at i0 i1 i2 i3 i4 i5
          obtain ⟨ad, cd, rfl⟩ := Lies.slice hds
          obtain ⟨aa, ca, rfl⟩ := Lies.slice has
          obtain ⟨at_, ct, rfl⟩ := Lies.slice hts
          have HDS : Hid (_) := hds
          have HAS : Hid (_) := has
          clear hcl hcs hgx hds has hts
          go_upto_region 8 with fail
          obtain ⟨O, hO⟩ : ∃ O, O = (.cells #[.int .i64 x.op, .slice ad x.ds.length cd, .slice aa x.ar.length ca, .int .i64 x.n, .string ⟨x.s.toArray⟩, .slice at_ x.to.length ct] 37 : Obj) := ⟨_, rfl⟩
          rw [← hO]
          obtain ⟨gx, hgx⟩ : ∃ gx, gx = wr.heap.size := ⟨_, rfl⟩
          obtain ⟨W, hW⟩ : ∃ W, W = wr.alloc O := ⟨_, rfl⟩
          have hx : W.heap[gx]? = some O := by rw [hW, hgx]; exact heap_alloc_new wr O
          have hBW : Below w0.heap.size w0 W := by rw [hW]; exact below_after HBL.out (below_alloc _ _)
          have hBxw : Below wr.heap.size wr W := by rw [hW]; exact below_alloc _ _
          rw [← hgx, ← hW]
          rw [hO] at hx
          obtain ⟨_, x1, x2, _, _, x5⟩ := cells6 hx
          have HX : Hid (_) := hx
          have HBSW : Hid (B ≤ W.heap.size) := Nat.le_trans HBW.out (Nat.le_trans HB0.out.size hBW.size)
          have HBW2 : Hid (Below w0.heap.size w0 W) := hBW
          have HB2 : Hid (Below B w W) := (HB0.out.trans (hBW.mono HB0.out.size)).mono HBW.out
          have hds2 := Nums.below HDS.out (hBxw.mono (Nat.le_trans HBW.out (Nat.le_trans HB0.out.size HBL.out.size)))
          have has2 := Nums.below HAS.out (hBxw.mono (Nat.le_trans HBW.out (Nat.le_trans HB0.out.size HBL.out.size)))
          have HDS2 : Hid (Nums B W _ x.ds) := hds2
          have HAS2 : Hid (Nums B W _ x.ar) := has2
          obtain ⟨hbx, hkk⟩ := HKX.out W hBW
          obtain ⟨_, _, _, k3, _, _, k6, _, _, _, _, _, _, _⟩ := cells14 hkk
          obtain ⟨al, hal⟩ : ∃ al, AH[b]? = some al := ⟨_, List.getElem?_eq_getElem (by have := HAL.out; omega)⟩
          have HLA : Hid (al.length = na) := by unfold Hid; rw [HNA.out, List.getD_eq_getElem?_getD, hal]; rfl
          obtain ⟨g9, o9, cs, rfl, _, _, ⟨va9, rfl, hva9⟩, hcl⟩ := Lies.at (Rws.below HAH.out HB2.out) hal
          obtain ⟨au, ku, rfl⟩ := Lies.slice hva9
          have k9c := hcl 0 (by decide)
          simp at k9c
          rw [HLA.out] at k9c
          have HE : Hid (EK j = phiE c.vars na b x) := by unfold Hid; rw [HEK.out]; simp [HGX.out]
          have hnal : na ≤ 9223372036854775807 := by have := hva9.len; rw [HLA.out] at this; unfold maxLen at this; omega
          have hdl := hds2.len
          have hasl := has2.len
          unfold maxLen at hdl hasl
          clear hal hcl hva9 hO hW hgx hx hBW hBxw hds2 has2 hkk i0 i1 i2 i3 i4 i5
          by_cases hc : (x.ds.length != 1 || x.ar.length != na || x.to.length != 0) = true
          · have HEE : Hid (r = 10) := by
              have h1 : phiE c.vars na b x = 10 := by unfold phiE; rw [if_pos hc]
              have h2 : EB b = 10 := by rw [HKE.out, firstNZ_hit EK j g2 (by rw [HE.out, h1]; rfl), HE.out, h1]
              exact HRB.out.trans ((firstNZ_hit EB b g (by rw [h2]; rfl)).trans h2)
            by_cases hd1 : x.ds.length = 1
            · have hd1' : ((x.ds.length : Int) != 1) = false := by simp; omega
              by_cases ha1 : x.ar.length = na
              · have ha1' : ((x.ar.length : Int) != (na : Int)) = false := by simp; omega
                have ht1 : ((x.to.length : Int) != 0) = true := by
                  simp [hd1, ha1] at hc
                  simp; omega
                clear hc
                go_quiet (fail)
                go_wp2_with fail
                go_ret
                exact ⟨by rw [HEE.out]; rfl, HB0.out.trans ((below_drewN HBW2.out nq).mono HB0.out.size)⟩
              · have ha1' : ((x.ar.length : Int) != (na : Int)) = true := by simp; omega
                clear hc
                go_quiet (fail)
                go_wp2_with fail
                go_ret
                exact ⟨by rw [HEE.out]; rfl, HB0.out.trans ((below_drewN HBW2.out nq).mono HB0.out.size)⟩
            · have hd1' : ((x.ds.length : Int) != 1) = true := by simp; omega
              clear hc
              go_quiet (fail)
              go_wp2_with fail
              go_ret
              exact ⟨by rw [HEE.out]; rfl, HB0.out.trans ((below_drewN HBW2.out nq).mono HB0.out.size)⟩
          · have hd1 : x.ds.length = 1 := by
              by_cases h : x.ds.length = 1
              · exact h
              · exact absurd (by simp [h]) hc
            have ha1 : x.ar.length = na := by
              by_cases h : x.ar.length = na
              · exact h
              · exact absurd (by simp [h]) hc
            have ht1 : x.to.length = 0 := by
              by_cases h : x.to.length = 0
              · exact h
              · exact absurd (by simp [h]) hc
            have hd1' : ((x.ds.length : Int) != 1) = false := by rw [hd1]; rfl
            have ha1' : ((x.ar.length : Int) != (na : Int)) = false := by rw [ha1]; simp
            have ht1' : ((x.to.length : Int) != 0) = false := by rw [ht1]; rfl
            obtain ⟨y, hy⟩ : ∃ y, x.ds = [y] := List.length_eq_one_iff.1 hd1
            have HY : Hid (x.ds = [y]) := hy
            have HF : Hid (phiE c.vars na b x = if (!belowB c.vars x.ds || !belowB c.vars x.ar) = true then 2 else if b == 0 then 4 else 0) := by
              unfold Hid phiE; rw [if_neg hc]
            clear hc hy
            go_quiet (fail)
            obtain ⟨W2, hW2⟩ : ∃ W2, W2 = W.drewN nq := ⟨_, rfl⟩
            rw [← hW2]
            have hB2w : Below w0.heap.size w0 W2 := by rw [hW2]; exact below_drewN HBW2.out nq
            have hBwW : Below W.heap.size W W2 := by rw [hW2]; exact below_drewN (Below.refl _ _) nq
            have hxx : W2.heap[gx]? = _ := (hBwW.block gx (lt_of_block HX.out)).trans HX.out
            have HBF : Hid (Below w.heap.size w W2) := HB0.out.trans (hB2w.mono HB0.out.size)
            have HBV : Hid (Below w0.heap.size w0 W2) := hB2w
            have HDS3 : Hid (Nums B W2 _ x.ds) := Nums.below HDS2.out (hBwW.mono HBSW.out)
            have HAS3 : Hid (Nums B W2 _ x.ar) := Nums.below HAS2.out (hBwW.mono HBSW.out)
            obtain ⟨gd, od, cs, rfl, _, _, ⟨rfl, _⟩, hcl⟩ := Lies.at HDS3.out (i := 0) (x := y) (by rw [HY.out]; rfl)
            have y0 := hcl 0 (by decide)
            simp at y0
            obtain ⟨hbx2, hkk2⟩ := HKX.out W2 hB2w
            have HV3 : Hid (W2.cell? ⟨K, 3, none⟩ = some (.int .i64 c.vars)) := (cells14 hkk2).2.2.2.1
            have HBX2 : Hid (_) := hbx2
            obtain ⟨_, z1, z2, _, _, z5⟩ := cells6 hxx
            have hl1 : (0 : Int) < (x.ds.length : Int) := by omega
            clear hW2 hB2w hBwW hcl hkk2 hxx x1 x2 x5 k3 k6 k9c hbx
            go_wp2_with fail
            refine (wrong_any y c.vars kb K _ HBX2.out HV3.out).mono ?_
            rintro e w3 ⟨rfl, hw3⟩
            have hw3' := hw3.symm
            subst hw3'
            have HYB : Hid (belowB c.vars x.ds = (decide (0 ≤ y) && decide (y < c.vars))) := by unfold Hid; rw [HY.out]; simp [belowB]
            rcases hb : (decide (0 ≤ y) && decide (y < c.vars)) with _ | _
            · have HEE : Hid (r = 2) := by
                have h1 : phiE c.vars na b x = 2 := by rw [HF.out, HYB.out, hb]; rfl
                have h2 : EB b = 2 := by rw [HKE.out, firstNZ_hit EK j g2 (by rw [HE.out, h1]; rfl), HE.out, h1]
                exact HRB.out.trans ((firstNZ_hit EB b g (by rw [h2]; rfl)).trans h2)
              go_wp2_with fail
              go_ret
              exact ⟨by rw [HEE.out]; rfl, HBF.out⟩
            · go_wp2_with fail
              refine (hasWrong_any c.vars kb K B (.slice aa na ca) x.ar _ HBX2.out HV3.out (by have h := HAS3.out; rw [ha1] at h; exact h)).mono ?_
              rintro e w3 ⟨rfl, hw3⟩
              have hw3' := hw3.symm
              subst hw3'
              rcases ha : belowB c.vars x.ar with _ | _
              · have HEE : Hid (r = 2) := by
                  have h1 : phiE c.vars na b x = 2 := by rw [HF.out, ha]; simp
                  have h2 : EB b = 2 := by rw [HKE.out, firstNZ_hit EK j g2 (by rw [HE.out, h1]; rfl), HE.out, h1]
                  exact HRB.out.trans ((firstNZ_hit EB b g (by rw [h2]; rfl)).trans h2)
                go_wp2_with fail
                go_ret
                exact ⟨by rw [HEE.out]; rfl, HBF.out⟩
              · have HFF : Hid (phiE c.vars na b x = if b == 0 then 4 else 0) := by unfold Hid; rw [HF.out, HYB.out, hb, ha]; rfl
                by_cases hb0 : b = 0
                · have hbz : ((b : Int) == 0) = true := by simp [hb0]
                  have HEE : Hid (r = 4) := by
                    have h1 : phiE c.vars na b x = 4 := by rw [HFF.out, hb0]; rfl
                    have h2 : EB b = 4 := by rw [HKE.out, firstNZ_hit EK j g2 (by rw [HE.out, h1]; rfl), HE.out, h1]
                    exact HRB.out.trans ((firstNZ_hit EB b g (by rw [h2]; rfl)).trans h2)
                  clear hb0
                  go_wp2_with fail
                  go_ret
                  exact ⟨by rw [HEE.out]; rfl, HBF.out⟩
                · have hbz : ((b : Int) == 0) = false := by simp [hb0]
                  have HKE2 : Hid (EB b = firstNZ EK (j + 1) g2) := by
                    have h1 : phiE c.vars na b x = 0 := by rw [HFF.out]; simp [hb0]
                    exact HKE.out.trans (firstNZ_step EK j g2 (by rw [HE.out, h1]; rfl))
                  go_wp2_with fail
                  go_roundg g2
                  case measure => omega
                  case rel => exact ⟨j + 1, by go_num, by omega, HKE2, HBV⟩

end Go.Proofs.YthlngmknifpbjaaDoor
