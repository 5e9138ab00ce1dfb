/-
  Package posternref: OnceFault. (gen_SsN.py writes this text out of SsN.src.)
-/
import Derived.Test.YthlngmknifpbjaaDoorJSsNb
namespace Go.Proofs.YthlngmknifpbjaaDoor
open Go.RowKit
set_option linter.unusedSimpArgs false
set_option linter.unusedVariables false

set_option maxHeartbeats 4000000 in
set_option maxRecDepth 20000 in
theorem onceR_any (c : Cod) (fs : List Cod) (vf vd vb : Value) (B : Nat) (w : World) (hB : B ≤ w.heap.size) (hfs : Cods B w vf fs) (hvd : ∃ a n k, vd = .slice a n k) (hb : Blks B w vb c.blocks) (hcp : BCap w vb c.blocks) (hsz : c.blocks.length * 24 ≤ 140737488351232) :
    Calls Tryd.prog 5 #[prgV vf vd, codV c vb] w fun e w' => e = .returned (.int .i64 (checkS fs c)) ∧ Below w.heap.size w w' := by
  obtain ⟨a1, k1, rfl⟩ := Lies.slice hfs
  obtain ⟨a2, n2, k2, rfl⟩ := hvd
  obtain ⟨a3, k3, rfl⟩ := Lies.slice hb
  obtain ⟨n, hn⟩ : ∃ n, n = c.blocks.length := ⟨_, rfl⟩
  rw [← hn] at hb hcp hsz ⊢
  have HN : Hid (n = c.blocks.length) := hn
  have HFS : Hid (Cods B w (.slice a1 fs.length k1) fs) := hfs
  have HBK : Hid (Blks B w (.slice a3 n k3) c.blocks) := hb
  have HCP : Hid (BCap w (.slice a3 n k3) c.blocks) := hcp
  have HBW : Hid (B ≤ w.heap.size) := hB
  obtain ⟨RR, hRR⟩ : ∃ RR, RR = checkS fs c := ⟨_, rfl⟩
  rw [← hRR]
  have HRR : Hid (RR = checkS fs c) := hRR
  obtain ⟨P, hP⟩ : ∃ P, P = w.heap.size := ⟨_, rfl⟩
  have HPE : Hid (P = w.heap.size) := hP
  obtain ⟨po, hpo⟩ : ∃ po, po = (.cells #[.slice a1 fs.length k1, .slice a2 n2 k2] 25 : Obj) := ⟨_, rfl⟩
  obtain ⟨co, hco⟩ : ∃ co, co = (.cells #[.string ⟨c.name.toArray⟩, .int .i64 c.params, .int .i64 c.results, .int .i64 c.vars, .int .i64 c.slots, .slice a3 n k3] 28 : Obj) := ⟨_, rfl⟩
  have HPO : Hid (po = _) := hpo
  have HCO : Hid (co = _) := hco
  obtain ⟨W, hW⟩ : ∃ W, W = ((w.alloc (.cells #[.slice a1 fs.length k1, .slice a2 n2 k2] 25)).alloc (.cells #[.string ⟨c.name.toArray⟩, .int .i64 c.params, .int .i64 c.results, .int .i64 c.vars, .int .i64 c.slots, .slice a3 n k3] 28)).alloc (.cells #[.string ⟨c.name.toArray⟩, .int .i64 c.params, .int .i64 c.results, .int .i64 c.vars, .int .i64 c.slots, .slice none 0 0] 28) := ⟨_, rfl⟩
  have HWE : Hid (W = _) := hW
  have HQ0 : Hid (QN w W P 0 c po co (.slice none 0 0) []) := by
    have hs : W.heap.size = P + 3 := by rw [hW, hP]; simp
    have h2 := heap_alloc2 w po co
    have hb3 : Below ((w.alloc po).alloc co).heap.size ((w.alloc po).alloc co) W := by rw [hW, hpo, hco]; exact below_alloc _ _
    have hs2 : ((w.alloc po).alloc co).heap.size = P + 2 := by rw [hP]; simp
    refine ⟨by rw [hW]; exact below_after (below_after (below_alloc _ _) (below_alloc _ _)) (below_alloc _ _), ?_, ?_, ?_, ⟨by simp, .inl ⟨rfl, rfl⟩⟩, fun j u b hj => by simp at hj, by omega⟩
    · exact (hb3.block P (by omega)).trans (by rw [hP]; exact h2.1)
    · exact (hb3.block (P + 1) (by omega)).trans (by rw [hP]; exact h2.2)
    · have h3 := heap_alloc_new ((w.alloc po).alloc co) (.cells #[.string ⟨c.name.toArray⟩, .int .i64 c.params, .int .i64 c.results, .int .i64 c.vars, .int .i64 c.slots, .slice none 0 0] 28)
      rw [hs2, hpo, hco, ← hW] at h3
      exact h3
  have HC6 : Hid (∀ wx : World, wx.heap[P + 1]? = some co → wx.cell? ⟨P + 1, 0, none⟩ = some (.string ⟨c.name.toArray⟩) ∧ wx.cell? ⟨P + 1, 1, none⟩ = some (.int .i64 c.params) ∧ wx.cell? ⟨P + 1, 2, none⟩ = some (.int .i64 c.results) ∧ wx.cell? ⟨P + 1, 3, none⟩ = some (.int .i64 c.vars) ∧ wx.cell? ⟨P + 1, 4, none⟩ = some (.int .i64 c.slots) ∧ wx.cell? ⟨P + 1, 5, none⟩ = some (.slice a3 n k3)) := fun wx h => by
    rw [hco] at h
    exact cells6 h
  obtain ⟨i0, hi, hz0, hz1, hzb⟩ := infoParts infoBlk
  clear hfs hb hcp hB hn hRR hP hpo hco hW
  unfold prgV codV
  go_enter Tryd.func5, Tryd.ntmps5
  go_upto_region 3 with fail
  rw [← HWE.out, ← HPE.out]
  clear HWE
  go_wp2_with fail
  go_loopg [6] n (fun g s6 wr => ∃ (b : Nat) (v : Value) (vs : List Value), s6 = .int .i64 (b : Nat) ∧ b + g = n ∧ Hid (QN w wr P b c po co v vs))
  case atStart => exact ⟨0, _, _, rfl, by omega, HQ0⟩
  case round =>
    clear HQ0
    obtain ⟨b, v, vs, rfl, hb', HQ⟩ := hrel
    obtain ⟨y0, y1, y2, y3, y4, y5⟩ := HC6.out wr HQ.out.hc
    cases gk with
    | zero =>
      have hlt : ¬ (b : Int) < (n : Int) := by omega
      have hbn : b = n := by omega
      obtain ⟨S1, hS1⟩ : ∃ S1, S1 = wr.heap.size := ⟨_, rfl⟩
      have HB1 : Hid (Below w.heap.size w wr) := HQ.out.bel
      have hS1P : P + 3 ≤ S1 := by rw [hS1]; exact HQ.out.sz
      have HS1P : Hid (P + 3 ≤ S1) := hS1P
      have HS1E : Hid (S1 = wr.heap.size) := hS1
      have HCO1 : Hid (∀ wx : World, Below S1 wr wx → wx.heap[P + 1]? = some co) := fun wx h => (h.block (P + 1) (by omega)).trans HQ.out.hc
      obtain ⟨r1, hr1⟩ : ∃ r1, r1 = codeF fs (noPhi c) := ⟨_, rfl⟩
      have HR1 : Hid (r1 = _) := hr1
      have HCF : Hid (Calls Tryd.prog 8 #[.agg #[.slice a1 fs.length k1, .slice a2 n2 k2], .agg #[.string ⟨c.name.toArray⟩, .int .i64 c.params, .int .i64 c.results, .int .i64 c.vars, .int .i64 c.slots, v]] wr fun e w' => e = .returned (.int .i64 r1) ∧ Below wr.heap.size wr w') := by
        rw [hr1]
        exact codeR_any (noPhi c) fs _ _ v wr.heap.size wr (Nat.le_refl _) ((HFS.out.below (HB1.out.mono HBW.out)).up (Nat.le_trans HBW.out HB1.out.size)) ⟨_, _, _, rfl⟩ (HQ.out.blks (by rw [hbn]; exact HN.out))
      have hpp : wr.cell? ⟨P, 0, none⟩ = some (.slice a1 fs.length k1) ∧ wr.cell? ⟨P, 1, none⟩ = some (.slice a2 n2 k2) := by
        have h := HQ.out.hp
        rw [HPO.out] at h
        exact cells2 h
      have hqq : wr.cell? ⟨P + 1 + 1, 0, none⟩ = some (.string ⟨c.name.toArray⟩) ∧ wr.cell? ⟨P + 1 + 1, 1, none⟩ = some (.int .i64 c.params) ∧ wr.cell? ⟨P + 1 + 1, 2, none⟩ = some (.int .i64 c.results) ∧ wr.cell? ⟨P + 1 + 1, 3, none⟩ = some (.int .i64 c.vars) ∧ wr.cell? ⟨P + 1 + 1, 4, none⟩ = some (.int .i64 c.slots) ∧ wr.cell? ⟨P + 1 + 1, 5, none⟩ = some v := cells6 HQ.out.hq
      obtain ⟨p0, p1⟩ := hpp
      obtain ⟨z0, z1, z2, z3, z4, z5⟩ := hqq
      clear hbn hr1 hS1P hb'
      go_wp2_with fail
      refine Calls.mono HCF.out ?_
      rintro e w2 ⟨rfl, hb2⟩
      rw [← hS1] at hb2
      have HB2 : Hid (Below S1 wr w2) := hb2
      clear hb2 p0 p1 z0 z1 z2 z3 z4 z5 y0 y1 y2 y3 y4 y5
      have HB12 : Hid (Below w.heap.size w w2) := by have h1 := HB1.out.size; exact HB1.out.trans (HB2.out.mono (by omega))
      rcases hr : (r1 != 0) with _ | _
      · have HRZ : Hid (r1 = 0) := by unfold Hid; simpa using hr
        have HFN : Hid (FineP c) := fine_of (fs := fs) (HR1.out.symm.trans HRZ.out)
        have HPS : Hid (0 < n) := by unfold Hid; rw [HN.out]; exact HFN.out.pos
        have HNB : Hid (n ≤ 1048576) := by unfold Hid; rw [HN.out]; have := HFN.out.few; omega
        obtain ⟨L, hL⟩ : ∃ L, L = c.blocks.map leadsL := ⟨_, rfl⟩
        have HLE : Hid (L = c.blocks.map leadsL) := hL
        obtain ⟨AH, hAH⟩ : ∃ AH, AH = (List.range n).map (fun t => rowL L t n) := ⟨_, rfl⟩
        have HAE : Hid (AH = _) := hAH
        have HAL : Hid (AH.length = n) := by unfold Hid; rw [hAH]; simp
        have HAI : Hid (∀ (b : Nat) (l : List Int) (y : Int), AH[b]? = some l → y ∈ l → 0 ≤ y ∧ y < (n : Int)) := fun b l y hb hy => by
          rw [hAH, List.getElem?_map] at hb
          rcases hq : (List.range n)[b]? with _ | b'
          · rw [hq] at hb; cases hb
          · rw [hq] at hb; cases hb; exact rowL_mem hy
        have HRS : Hid (RR = if phiA c.vars AH c.blocks != 0 then phiA c.vars AH c.blocks else if (rowL L 0 n).length != 0 then 4 else match setAll c with | none => 7 | some S => if usesY L AH c.blocks S then 0 else 12) := by
          unfold Hid
          rw [HRR.out]
          unfold checkS
          rw [← HR1.out, HRZ.out, ← HLE.out, ← HN.out, ← hAH]
          rfl
        have HAC : Hid (Calls Tryd.prog 9 #[.agg #[.string ⟨c.name.toArray⟩, .int .i64 c.params, .int .i64 c.results, .int .i64 c.vars, .int .i64 c.slots, .slice a3 n k3]] w2 fun e w' => ∃ v, e = .returned v ∧ Rws w'.heap.size w' v AH ∧ Below w2.heap.size w2 w') := by
          have h := aheadOfR_any c (.slice a3 n k3) B w2 (Nat.le_trans HBW.out HB12.out.size) (HBK.out.below (HB12.out.mono HBW.out)) (by rw [← HN.out]; omega)
          rw [aheadL_rows, ← HN.out, ← hL, ← hAH] at h
          exact h
        obtain ⟨y0, y1, y2, y3, y4, y5⟩ := HC6.out w2 (HCO1.out w2 HB2.out)
        clear hL hAH hS1
        go_wp2_with fail
        refine Calls.mono HAC.out ?_
        rintro e w3 ⟨v8, rfl, hr8, hb3⟩
        obtain ⟨a8, k8, e8⟩ := Lies.slice hr8
        rw [HAL.out] at e8
        subst e8
        have HB13 : Hid (Below w.heap.size w w3) := below_after HB12.out hb3
        obtain ⟨S, hS⟩ : ∃ S, S = w3.heap.size := ⟨_, rfl⟩
        have HSE : Hid (S = w3.heap.size) := hS
        have HR8 : Hid (Rws S w3 (.slice a8 n k8) AH) := by unfold Hid; rw [hS]; exact hr8
        have HSP : Hid (P + 3 ≤ S) := by have h1 := HB2.out.size; have h2 := hb3.size; have h3 := HS1P.out; have h4 := HS1E.out; unfold Hid; omega
        have HCX : Hid (∀ wx : World, Below S w3 wx → wx.heap[P + 1]? = some co) := fun wx h => by
          have h1 := HB2.out.size
          have h2 := HS1P.out
          have h3 := hb3.size
          have h4 := HS1E.out
          exact (h.block (P + 1) (by omega)).trans ((hb3.block (P + 1) (by omega)).trans (HCO1.out w2 HB2.out))
        have HWS : Hid (w.heap.size ≤ S) := by unfold Hid; rw [hS]; exact HB13.out.size
        have HBX : Hid (∀ wx : World, Below S w3 wx → Below w.heap.size w wx) := fun wx h => HB13.out.trans (h.mono HWS.out)
        clear hr8 hb3 hS y0 y1 y2 y3 y4 y5 HB1 HCF HQ HB2 HB12
        obtain ⟨r, hr'⟩ : ∃ r, r = phiA c.vars AH c.blocks := ⟨_, rfl⟩
        have HR : Hid (r = phiA c.vars AH c.blocks) := hr'
        obtain ⟨EB, hEB⟩ : ∃ EB : Nat → Int, EB = fun b => match c.blocks[b]? with | some bl => phiB c.vars (AH.getD b []).length b bl | none => 0 := ⟨_, rfl⟩
        have HEB : Hid (EB = _) := hEB
        have HRB : Hid (r = firstNZ EB 0 n) := by unfold Hid; rw [hr', hEB, HN.out]; rfl
        have HRT : Hid (∀ x : Int, r = x → (x != 0) = true → RR = x) := fun x h1 h2 => by
          rw [HRS.out, ← HR.out, h1, h2]; rfl
        have hvr := HFN.out.vars
        have hv0 := HFN.out.par0
        have hv1 := HFN.out.par
        have hwv : wrap64 (c.vars - 1) = c.vars - 1 := by unfold wrap64; omega
        have HWV : Hid (wrap64 (c.vars - 1) = c.vars - 1) := hwv
        clear hEB hr' hvr hv0 hv1 hwv
        go_wp2_with fail
        go_loopg [9] n (fun g s9 wr => ∃ b : Nat, s9 = .int .i64 (b : Nat) ∧ b + g = n ∧ Hid (r = firstNZ EB b g) ∧ Hid (Below S w3 wr))
        case atStart => exact ⟨0, rfl, by omega, HRB, Below.refl _ _⟩
        case round =>
          clear HRB
          obtain ⟨b, rfl, hb', HRB, HBL⟩ := hrel
          obtain ⟨y0, y1, y2, y3, y4, y5⟩ := HC6.out wr (HCX.out wr HBL.out)
          cases gk with
          | zero =>
            have hlt : ¬ (b : Int) < (n : Int) := by omega
            have HR0' : Hid (r = 0) := HRB.out
            have HRU : Hid (RR = if (rowL L 0 n).length != 0 then 4 else match setAll c with | none => 7 | some S => if usesY L AH c.blocks S then 0 else 12) := by unfold Hid; rw [HRS.out, ← HR.out, HR0'.out]; rfl
            obtain ⟨l0, hl0⟩ : ∃ l0, l0 = rowL L 0 n := ⟨_, rfl⟩
            have hat : AH[0]? = some l0 := by rw [HAE.out, List.getElem?_map, List.getElem?_range HPS.out, hl0]; rfl
            obtain ⟨g8, o8, cs, e8, _, _, ⟨vr, rfl, hvr⟩, hcl⟩ := Lies.at (Rws.below HR8.out HBL.out) hat
            have r0 := hcl 0 (by decide)
            obtain ⟨al, kl, rfl⟩ := Lies.slice hvr
            simp at r0
            cases e8
            have HL0 : Hid (l0 = rowL L 0 n) := hl0
            have hl0m := hvr.len
            unfold maxLen at hl0m
            have hpos : (0 : Int) < (n : Int) := by have := HPS.out; omega
            clear hcl hvr hat hl0
            by_cases hz : l0.length = 0
            · have hz' : ¬ (0 : Int) < (l0.length : Int) := by omega
              have HRV : Hid (RR = match setAll c with | none => 7 | some S => if usesY L AH c.blocks S then 0 else 12) := by unfold Hid; rw [HRU.out, ← HL0.out, hz]; rfl
              obtain ⟨nv, hnv⟩ : ∃ nv : Nat, c.vars = (nv : Int) := ⟨c.vars.toNat, by have h1 := HFN.out.par0; have h2 := HFN.out.par; omega⟩
              have HNV : Hid (c.vars = (nv : Int)) := hnv
              have hn3 : nv ≤ 3000 := by have h1 := HFN.out.vars; omega
              have hmk := make_run nv (by omega)
              rw [hnv] at y3
              obtain ⟨R0, hR0⟩ : ∃ R0, R0 = (.cells (numsL (fnL nv (fun _ => 0))).toArray 3 : Obj) := ⟨_, rfl⟩
              rw [← hR0] at hmk
              have L3 : ((wr.alloc R0).alloc (.cells #[.slice (some ⟨wr.heap.size, 0, none⟩) nv nv] 23)).cell? ⟨P + 1, 3, none⟩ = some (.int .i64 (nv : Nat)) := (below_after (below_alloc wr R0) (below_alloc _ _)).cell (p := ⟨P + 1, 3, none⟩) (World.block_lt_of_cell? wr _ y3) |>.trans y3
              have HR0 : Hid (R0 = _) := hR0
              clear hz hnv hR0
              go_upto_region 28 with fail
              obtain ⟨G, hG⟩ : ∃ G, G = wr.heap.size := ⟨_, rfl⟩
              obtain ⟨W6, hW6⟩ : ∃ W6, W6 = ((((wr.alloc R0).alloc (.cells #[.slice (some ⟨G, 0, none⟩) nv nv] 23)).alloc R0).alloc (.cells #[.slice (some ⟨G + 1 + 1, 0, none⟩) nv nv] 23)) := ⟨_, rfl⟩
              rw [← hG, ← hW6]
              have hAR0 : AR G wr W6 nv (fun _ => 0) (fun _ => 0) := by
                rw [hW6, HR0.out, hG]
                exact AR.make hn3 rfl rfl rfl rfl
              obtain ⟨oP, hoP⟩ : ∃ oP, oP = G + 1 + 1 + 1 := ⟨_, rfl⟩
              obtain ⟨gp, hgp⟩ : ∃ gp, gp = G + 2 := ⟨_, rfl⟩
              obtain ⟨oB, hoB⟩ : ∃ oB, oB = G + 1 := ⟨_, rfl⟩
              rw [← hoP, ← hoB]
              have HPP : Hid (oB = G + 1 ∧ gp = G + 2 ∧ oP = G + 3) := ⟨hoB, hgp, hoP⟩
              have hSG : S ≤ G := by have h1 := HBL.out.size; have h2 := HSE.out; omega
              have HSG : Hid (S ≤ G) := hSG
              obtain ⟨w5, hw5⟩ : ∃ w5, w5 = wr := ⟨_, rfl⟩
              rw [← hw5] at hAR0
              have HL5 : Hid (Below S w3 w5) := by rw [hw5]; exact HBL.out
              have HGE : Hid (G = w5.heap.size) := by rw [hw5]; exact hG
              have HBY : Hid (∀ (wx : World) (bk pl : Nat → Int), AR G w5 wx nv bk pl → Below S w3 wx) := fun wx bk pl h => HL5.out.trans (h.bel.mono hSG)
              have HAB : Hid (∀ (wx : World) (bk pl : Nat → Int), AR G w5 wx nv bk pl → wx.cell? ⟨oB, 0, none⟩ = some (.slice (some ⟨G, 0, none⟩) nv nv) ∧ wx.cell? ⟨oP, 0, none⟩ = some (.slice (some ⟨gp, 0, none⟩) nv nv)) := fun wx bk pl h => by
                rw [hoB, hoP, hgp]; exact h.box
              have HAP : Hid (∀ (wx : World) (bk pl : Nat → Int) (i : Nat) (x : Int), AR G w5 wx nv bk pl → i < nv → AR G w5 (wx.setCell ⟨gp, i, none⟩ (.int .i64 x)) nv bk (fset pl i x)) := fun wx bk pl i x h hi => by
                rw [hgp]; exact h.setP hi x
              have HAQ : Hid (∀ (wx : World) (bk pl : Nat → Int), AR G w5 wx nv bk pl → RowI wx G gp nv pl) := fun wx bk pl h => by rw [hgp]; exact h.rp
              have HA0 : Hid (AR G w5 W6 nv (bkV (setP ((0 : Nat) : Int))) (plV (setP ((0 : Nat) : Int)))) := by unfold Hid; rw [bkV_zero, plV_setP]; exact hAR0
              obtain ⟨R6, hR6⟩ : ∃ R6, R6 = setAll c := ⟨_, rfl⟩
              have HR6 : Hid (R6 = setAll c) := hR6
              have HRW : Hid (RR = endS L AH c.blocks R6) := by
                unfold Hid
                rw [HRV.out, hR6]
                unfold endS
                rcases setAll c <;> rfl
              have hp0 := HFN.out.par0
              have hpv := HFN.out.par
              have hpnv : c.params ≤ (nv : Int) := by rw [← HNV.out]; exact hpv
              have HPAR : Hid (0 ≤ c.params ∧ c.params ≤ (nv : Int)) := ⟨hp0, hpnv⟩
              have HN3 : Hid (nv ≤ 3000) := hn3
              have HPH0 : Hid (phiA c.vars AH c.blocks = 0) := by unfold Hid; rw [← HR.out]; exact HR0'.out
              clear hG hW6 hAR0 hoP hgp hoB hSG hw5 hR6 hp0 hpv L3 hmk y0 y1 y2 y3 y4 y5 r0 hn3 hpos hl0m HRB HRU HRV hz'
              go_wp2_with fail
              go_loopg [14] c.params.toNat (fun g s14 wr => ∃ i : Nat, s14 = .int .i64 (i : Nat) ∧ i + g = c.params.toNat ∧ Hid (AR G w5 wr nv (bkV (setP ((i : Nat) : Int))) (plV (setP ((i : Nat) : Int)))))
              case atStart => exact ⟨0, rfl, by omega, HA0⟩
              case round =>
                clear HA0
                obtain ⟨i, rfl, hi', HA⟩ := hrel
                obtain ⟨y0, y1, y2, y3, y4, y5⟩ := HC6.out wr (HCX.out wr (HBY.out wr _ _ HA.out))
                have hpar := HPAR.out
                cases gk with
                | zero =>
                  have hlt : ¬ (i : Int) < c.params := by omega
                  have HA1 : Hid (AR G w5 wr nv (bkV (setP c.params)) (plV (setP c.params))) := by
                    have h := HA.out
                    rw [setP_nat hpar.1 (by omega)] at h
                    exact h
                  have HRB : Hid (R6 = setB 0 (c.blocks.drop 0) (setP c.params)) := HR6.out
                  have HS0 : Hid (SpP n (setP c.params)) := SpP.setP _ HPS.out
                  clear HA
                  go_wp2_with fail
                  go_loopg [15] n (fun g s15 wr => ∃ (b : Nat) (S6 : SetM), s15 = .int .i64 (b : Nat) ∧ b + g = n ∧ Hid (R6 = setB b (c.blocks.drop b) S6) ∧ Hid (SpP n S6) ∧ Hid (AR G w5 wr nv (bkV S6) (plV S6)))
                  case atStart => exact ⟨0, _, rfl, by omega, HRB, HS0, HA1⟩
                  case round =>
                    clear HRB HS0 HA1 y0 y1 y2 y3 y4 y5
                    obtain ⟨b, S6, rfl, hb', HRB, HS6, HA⟩ := hrel
                    obtain ⟨y0, y1, y2, y3, y4, y5⟩ := HC6.out wr (HCX.out wr (HBY.out wr _ _ HA.out))
                    cases gk with
                    | zero =>
                      have hltb : ¬ (b : Int) < (n : Int) := by omega
                      have HR7 : Hid (R6 = some S6) := by
                        have h := HRB.out
                        rw [drop_end (by have := HN.out; omega)] at h
                        exact h
                      obtain ⟨u, hu⟩ : ∃ u, u = usesY L AH c.blocks S6 := ⟨_, rfl⟩
                      have HU : Hid (u = (List.range n).all (okB L AH c.blocks S6)) := by unfold Hid; rw [hu, usesY_all, ← HN.out]
                      have HRX : Hid (RR = if u then 0 else 12) := by unfold Hid; rw [HRW.out, HR7.out, hu]; rfl
                      have HVC : Hid (Calls Tryd.prog 11 #[.agg #[.string ⟨c.name.toArray⟩, .int .i64 c.params, .int .i64 c.results, .int .i64 c.vars, .int .i64 c.slots, .slice a3 n k3]] wr fun e w' => ∃ v, e = .returned v ∧ Rws w'.heap.size w' v (abR L n) ∧ Below wr.heap.size wr w') := by
                        have hbw := HBX.out wr (HBY.out wr _ _ HA.out)
                        have h := aboveOf_any c (.slice a3 n k3) B wr (Nat.le_trans HBW.out hbw.size) (HBK.out.below (hbw.mono HBW.out)) (by rw [← HN.out]; have := HNB.out; omega) (abD L) (fun k i => by rw [← HLE.out]; exact abD_iff L k i)
                        rw [← HN.out] at h
                        exact h
                      clear hu
                      go_wp2_with fail
                      refine Calls.mono HVC.out ?_
                      rintro e w8 ⟨va, rfl, hva, hb8⟩
                      obtain ⟨aA, kA, eA⟩ := Lies.slice hva
                      rw [abR_len] at eA
                      subst eA
                      have hGw : G ≤ wr.heap.size := by have h1 := HA.out.bel.size; have h2 := HGE.out; omega
                      have HA8 : Hid (AR G w5 w8 nv (bkV S6) (plV S6)) := HA.out.keep hb8 hGw
                      have HVA : Hid (Rws w8.heap.size w8 (.slice aA n kA) (abR L n)) := hva
                      clear hva hb8 hGw HA HVC y0 y1 y2 y3 y4 y5
                      have n0 : ((w8.alloc (.cells #[.slice aA n kA] 34)).alloc (.cells #[.nilFunc] 39)).cell? ⟨w8.heap.size + 1, 0, none⟩ = some .nilFunc := by
                        have h := new_cell (w8.alloc (.cells #[.slice aA n kA] 34)) 39 .nilFunc
                        rw [alloc_sz4] at h
                        exact h
                      have n1 : ((w8.alloc (.cells #[.slice aA n kA] 34)).alloc (.cells #[.nilFunc] 39)).frozen? ⟨w8.heap.size + 1, 0, none⟩ = false := by
                        have h := heap_alloc_new (w8.alloc (.cells #[.slice aA n kA] 34)) (.cells #[.nilFunc] 39)
                        rw [alloc_sz4] at h
                        exact thawA h 0
                      have hst := run_store (P := Tryd.prog) ((w8.alloc (.cells #[.slice aA n kA] 34)).alloc (.cells #[.nilFunc] 39)) ⟨w8.heap.size + 1, 0, none⟩ (.func (.func 12) #[] #[.pointer (some ⟨w8.heap.size, 0, none⟩)]) .plain rfl
                      go_upto_region 49 with fail
                      clear hst
                      obtain ⟨oA, hoA⟩ : ∃ oA, oA = w8.heap.size := ⟨_, rfl⟩
                      obtain ⟨oI, hoI⟩ : ∃ oI, oI = w8.heap.size + 1 := ⟨_, rfl⟩
                      obtain ⟨w9, hw9⟩ : ∃ w9, w9 = ((w8.alloc (.cells #[.slice aA n kA] 34)).alloc (.cells #[(.func (.func 12) #[] #[.pointer (some ⟨w8.heap.size, 0, none⟩)])] 39)) := ⟨_, rfl⟩
                      rw [← hw9, ← hoI, ← hoA]
                      have hb89 : Below w8.heap.size w8 w9 := by rw [hw9]; exact below_after (below_alloc _ _) (below_alloc _ _)
                      have hgA : w9.heap[oA]? = some (.cells #[.slice aA n kA] 34) := by
                        rw [hw9, hoA]
                        exact ((below_alloc _ _).block _ (by rw [alloc_sz4]; omega)).trans (heap_alloc_new _ _)
                      have hgI : w9.heap[oI]? = some (.cells #[.func (.func 12) #[] #[.pointer (some ⟨oA, 0, none⟩)]] 39) := by
                        have h := heap_alloc_new (w8.alloc (.cells #[.slice aA n kA] 34)) (.cells #[(.func (.func 12) #[] #[.pointer (some ⟨w8.heap.size, 0, none⟩)])] 39)
                        rw [alloc_sz4, ← hw9] at h
                        rw [hoI, hoA]; exact h
                      have HKC : Hid (KC w9 oB oP oI oA G gp nv (bkV S6) (plV S6) (.slice aA n kA) w9.heap.size (abR L n)) := by
                        obtain ⟨b0, p0⟩ := HAB.out w8 _ _ HA8.out
                        refine ⟨(hb89.cell (World.block_lt_of_cell? w8 _ b0)).trans b0, (hb89.cell (World.block_lt_of_cell? w8 _ p0)).trans p0, ?_, ?_, (HA8.out.rb.base (Nat.zero_le _)).keep (hb89.block G HA8.out.rb.lt.2), ?_, (Rws.below HVA.out hb89).up hb89.size⟩
                        · simp [World.cell?, hgI]
                        · simp [World.cell?, hgA]
                        · have h := HAQ.out w8 _ _ HA8.out
                          exact (h.base (Nat.zero_le _)).keep (hb89.block gp h.lt.2)
                      have HL9 : Hid (Below S w3 w9) := by
                        have h1 := HBY.out w8 _ _ HA8.out
                        have h2 := h1.size
                        have h3 := HSE.out
                        exact h1.trans (hb89.mono (by omega))
                      obtain ⟨T, hT⟩ : ∃ T, T = w9.heap.size := ⟨_, rfl⟩
                      have HTE : Hid (T = w9.heap.size) := hT
                      rw [← hT] at HKC
                      have HKX : Hid (∀ wx : World, Below T w9 wx → KC wx oB oP oI oA G gp nv (bkV S6) (plV S6) (.slice aA n kA) T (abR L n)) := fun wx h => HKC.out.keep (by rw [← hT]; exact h) (by rw [hT]; exact Nat.le_refl _)
                      have HBZ : Hid (∀ wx : World, Below T w9 wx → Below S w3 wx) := fun wx h => by
                        have h1 := HL9.out.size
                        have h2 := HSE.out
                        exact HL9.out.trans (h.mono (by rw [hT]; omega))
                      have hn2 : n ≤ 2000 := by have := HFN.out.few; have := HN.out; omega
                      have HN2 : Hid (n ≤ 2000) := hn2
                      have HKN : Hid (∀ (wx : World) (a fb : Nat) (fa : Int), Below T w9 wx → a < nv → fb < n → Rch (preL L) fb → 0 ≤ fa → Calls Tryd.prog 13 #[.int .i64 (a : Nat), .int .i64 (fb : Nat), .int .i64 fa, .pointer (some ⟨oB, 0, none⟩), .pointer (some ⟨oP, 0, none⟩), .pointer (some ⟨oI, 0, none⟩)] wx fun e w' => e = .returned (.bool (hasY L S6 (a : Int) fb fa)) ∧ w' = wx) := fun wx a fb fa h ha hfb hr hfa => by
                        have hk := HS6.out.bk a
                        have h0 := knownR_any oB oP oI oA G gp nv (bkV S6) (plV S6) _ T (abR L n) a fb fa wx (HKX.out wx h) ha (by rw [abR_len]; exact hfb) ⟨hk.1, by omega⟩
                        rw [kn_has HS6.out hfb hr hfa] at h0
                        exact h0
                      clear hb89 hgA hgI hw9 hoA hoI n0 n1 hT HA8 HVA hn2 HKC
                      go_wp2_with fail
                      go_loopg [22] n (fun g s22 wr => ∃ b : Nat, s22 = .int .i64 (b : Nat) ∧ b + g = n ∧ Hid (∀ b', b' < b → okB L AH c.blocks S6 b' = true) ∧ Hid (Below T w9 wr))
                      case atStart => exact ⟨0, rfl, by omega, fun b' h => absurd h (by omega), (by rw [HTE.out]; exact Below.refl _ _)⟩
                      case round =>
                        obtain ⟨b, rfl, hb', HOK, HBL⟩ := hrel
                        obtain ⟨y0, y1, y2, y3, y4, y5⟩ := HC6.out wr (HCX.out wr (HBZ.out wr HBL.out))
                        cases gk with
                        | zero =>
                          have hltb : ¬ (b : Int) < (n : Int) := by omega
                          have HRY : Hid (RR = 0) := by
                            have h : u = true := by
                              rw [HU.out, List.all_eq_true]
                              intro b' hb2
                              exact HOK.out b' (by have := List.mem_range.1 hb2; omega)
                            unfold Hid
                            rw [HRX.out, h]; rfl
                          go_wp2_with fail
                          go_ret
                          exact ⟨by rw [HRY.out]; rfl, HBX.out _ (HBZ.out _ HBL.out)⟩
                        | succ g =>
                          have hltb : (b : Int) < (n : Int) := by omega
                          have hbn : b < n := by omega
                          have HBN : Hid (b < n) := hbn
                          have c4 := (HKX.out wr HBL.out).ca
                          obtain ⟨la, hla⟩ : ∃ la, la = (rowD (abD L) b n).length := ⟨_, rfl⟩
                          have HLA : Hid (la = 0 ↔ ¬ Rch (preL L) b) := by unfold Hid; rw [hla]; exact rowD_none hbn
                          obtain ⟨gA, pA, cs, rfl, _, _, ⟨vr, rfl, hvr⟩, hcl⟩ := Lies.at (HKX.out wr HBL.out).rA (abR_at hbn)
                          obtain ⟨al, kl, rfl⟩ := Lies.slice hvr
                          have r0 := hcl 0 (by decide)
                          simp at r0
                          rw [← hla] at r0
                          have hlm := hvr.len
                          unfold maxLen at hlm
                          rw [← hla] at hlm
                          clear hcl hvr hla
                          by_cases hz : la = 0
                          · have hz' : ((la : Int) == 0) = true := by simp [hz]
                            have HOK2 : Hid (∀ b', b' < b + 1 → okB L AH c.blocks S6 b' = true) := fun b' h => by
                              rcases Nat.lt_or_ge b' b with h1 | h1
                              · exact HOK.out b' h1
                              · have : b' = b := by omega
                                rw [this]; exact okB_dead (HLA.out.1 hz)
                            clear hz
                            go_wp2_with fail
                            go_roundg g
                            case measure => omega
                            case rel => exact ⟨b + 1, by go_num, by omega, HOK2, HBL⟩
                          · have hz' : ((la : Int) == 0) = false := by simp [hz]
                            have HRB : Hid (Rch (preL L) b) := Classical.byContradiction fun h => hz (HLA.out.2 h)
                            have hget : c.blocks[b]? = some c.blocks[b] := List.getElem?_eq_getElem (by have := HN.out; omega)
                            generalize c.blocks[b] = bl at hget
                            have HG : Hid (c.blocks[b]? = some bl) := hget
                            obtain ⟨gb, ob, cs, rfl, hgb, _, ⟨vk, rfl, hvk⟩, hcl⟩ := Lies.at HBK.out hget
                            obtain ⟨ak, ck, rfl⟩ := Lies.slice hvk
                            have qw := hcl 0 (by decide)
                            simp at qw
                            have hbl := hvk.len
                            unfold maxLen at hbl
                            obtain ⟨M, hM⟩ : ∃ M, M = bl.length := ⟨_, rfl⟩
                            have HM : Hid (M = bl.length) := hM
                            rw [← hM] at hbl hvk qw
                            have HVK : Hid (Blk B w (.slice ak M ck) bl) := hvk
                            have HQW : Hid (∀ wx : World, Below S w3 wx → wx.cell? ⟨gb, ob + b, none⟩ = some (.slice ak M ck)) := fun wx h => (((HBX.out wx h).mono HBW.out).cell (p := ⟨gb, ob + b, none⟩) hgb).trans qw
                            have q0 := HQW.out wr (HBZ.out wr HBL.out)
                            clear hcl hget hvk qw hM hz
                            go_wp2_with fail
                            go_loopg [23] M (fun g2 s23 wr => ∃ j : Nat, s23 = .int .i64 (j : Nat) ∧ j + g2 = M ∧ Hid (∀ (k : Nat) (x : Ins), k < j → bl[k]? = some x → ∀ i, i < x.ar.length → askY L AH c.blocks S6 x b (k : Int) i = true) ∧ Hid (Below T w9 wr))
                            case atStart => exact ⟨0, rfl, by omega, fun k x h => absurd h (by omega), HBL⟩
                            case round =>
                              clear HBL y0 y1 y2 y3 y4 y5 q0 c4 r0
                              obtain ⟨j, rfl, hj', HOI, HBL⟩ := hrel
                              obtain ⟨y0, y1, y2, y3, y4, y5⟩ := HC6.out wr (HCX.out wr (HBZ.out wr HBL.out))
                              have q0 := HQW.out wr (HBZ.out wr HBL.out)
                              cases gk with
                              | zero =>
                                have hltj : ¬ (j : Int) < (M : Int) := by omega
                                have HOK2 : Hid (∀ b', b' < b + 1 → okB L AH c.blocks S6 b' = true) := fun b' h => by
                                  rcases Nat.lt_or_ge b' b with h1 | h1
                                  · exact HOK.out b' h1
                                  · have : b' = b := by omega
                                    rw [this]
                                    exact okB_live HG.out fun k x hx => HOI.out k x (by have := (List.getElem?_eq_some_iff.1 hx).1; have := HM.out; omega) hx
                                go_wp2_with fail
                                go_roundg g
                                case measure => omega
                                case rel => exact ⟨b + 1, by go_num, by omega, HOK2, HBL⟩
                              | succ g2 =>
                                have hltj : (j : Int) < (M : Int) := by omega
                                have hjN : j < bl.length := by have := HM.out; omega
                                have hgx : bl[j]? = some bl[j] := List.getElem?_eq_getElem hjN
                                generalize bl[j] = x at hgx
                                have HGX : Hid (bl[j]? = some x) := hgx
                                obtain ⟨gi, oi, cs, rfl, hgi, hcs, ⟨vd, va, vt, rfl, hds, has, hts, _⟩, hcl⟩ := Lies.at (Blk.below HVK.out ((HBX.out wr (HBZ.out wr HBL.out)).mono HBW.out)) hgx
                                have i0 := hcl 0 (by decide)
                                have i1 := hcl 1 (by decide)
                                have i2 := hcl 2 (by decide)
                                have i3 := hcl 3 (by decide)
                                have i4 := hcl 4 (by decide)
                                have i5 := hcl 5 (by decide)
                                simp at i0 i1 i2 i3 i4 i5
                                obtain ⟨ad, cd, rfl⟩ := Lies.slice hds
                                obtain ⟨aa, ca, rfl⟩ := Lies.slice has
                                obtain ⟨at_, ct, rfl⟩ := Lies.slice hts
                                have hal := has.len
                                unfold maxLen at hal
                                obtain ⟨nA, hnA⟩ : ∃ nA, nA = x.ar.length := ⟨_, rfl⟩
                                have HNA : Hid (nA = x.ar.length) := hnA
                                rw [← hnA] at has hal i2
                                have HAW : Hid (Nums B wr (.slice aa nA ca) x.ar) := has
                                have HAR : Hid (∀ d ∈ x.ar, 0 ≤ d ∧ d < (nv : Int)) := fun d hd => by
                                  rw [← HNV.out]
                                  exact ar_of HFN.out HPH0.out bl (List.mem_of_getElem? HG.out) x (List.mem_of_getElem? HGX.out) d hd
                                clear hcl hcs hgx hds has hts hnA
                                go_upto_region 57 with fail
                                obtain ⟨O, hO⟩ : ∃ O, O = (.cells #[.int .i64 x.op, .slice ad x.ds.length cd, .slice aa nA ca, .int .i64 x.n, .string ⟨x.s.toArray⟩, .slice at_ x.to.length ct] 37 : Obj) := ⟨_, rfl⟩
                                rw [← hO]
                                obtain ⟨gx, hgx⟩ : ∃ gx, gx = wr.heap.size := ⟨_, rfl⟩
                                obtain ⟨W7, hW7⟩ : ∃ W7, W7 = wr.alloc O := ⟨_, rfl⟩
                                rw [← hgx, ← hW7]
                                have hTw : T ≤ wr.heap.size := by have h1 := HBL.out.size; have h2 := HTE.out; omega
                                have HB7 : Hid (Below T w9 W7) := by rw [hW7]; exact HBL.out.trans ((below_alloc wr O).mono hTw)
                                have HX7 : Hid (W7.heap[gx]? = some O) := by rw [hW7, hgx]; exact heap_alloc_new wr O
                                have HXE : Hid (∀ wx : World, wx.heap[gx]? = some O → wx.cell? ⟨gx, 0, none⟩ = some (.int .i64 x.op) ∧ wx.cell? ⟨gx, 1, none⟩ = some (.slice ad x.ds.length cd) ∧ wx.cell? ⟨gx, 2, none⟩ = some (.slice aa nA ca)) := fun wx h => by
                                  rw [hO] at h
                                  obtain ⟨h0, h1, h2, _⟩ := cells6 h
                                  exact ⟨h0, h1, h2⟩
                                have HAG : Hid (∀ (t : Nat) (d : Int), x.ar[t]? = some d → ∃ ga oa, aa = some ⟨ga, oa, none⟩ ∧ ∀ wx : World, Below T wr wx → wx.cell? ⟨ga, oa + t, none⟩ = some (.int .i64 d)) := fun t d hd => by
                                  obtain ⟨ga, oa, cs, e, hga, _, ⟨rfl, _⟩, hcl⟩ := Lies.at HAW.out hd
                                  cases e
                                  have h0 := hcl 0 (by decide)
                                  simp at h0
                                  have h1 := HBW.out
                                  have h2 := HWS.out
                                  have h3 := HL9.out.size
                                  have h4 := HSE.out
                                  have h5 := HTE.out
                                  exact ⟨ga, oa, rfl, fun wx h => (h.cell (p := ⟨ga, oa + t, none⟩) (by show ga < T; omega)).trans h0⟩
                                obtain ⟨wj, hwj⟩ : ∃ wj, wj = wr := ⟨_, rfl⟩
                                rw [← hwj] at HAG
                                have HJ7 : Hid (Below T wj W7) := by rw [hwj, hW7]; exact (below_alloc wr O).mono hTw
                                clear hO hgx hW7 hTw HBL i0 i1 i2 i3 i4 i5 y0 y1 y2 y3 y4 y5 q0 HAW hwj
                                go_wp2_with fail
                                go_loopg [25] nA (fun g3 s25 wr => ∃ t : Nat, s25 = .int .i64 (t : Nat) ∧ t + g3 = nA ∧ Hid (∀ i, i < t → askY L AH c.blocks S6 x b (j : Int) i = true) ∧ Hid (wr.heap[gx]? = some O) ∧ Hid (Below T wj wr) ∧ Hid (Below T w9 wr))
                                case atStart => exact ⟨0, rfl, by omega, fun i h => absurd h (by omega), HX7, HJ7, HB7⟩
                                case round =>
                                  clear HX7 HJ7 HB7
                                  obtain ⟨t, rfl, ht', HOT, HX, HJ, HBL⟩ := hrel
                                  obtain ⟨x0, x1, x2⟩ := HXE.out wr HX.out
                                  cases gk with
                                  | zero =>
                                    have hltt : ¬ (t : Int) < (nA : Int) := by omega
                                    have HOI2 : Hid (∀ (k : Nat) (z : Ins), k < j + 1 → bl[k]? = some z → ∀ i, i < z.ar.length → askY L AH c.blocks S6 z b (k : Int) i = true) := fun k z hk hz i hi => by
                                      rcases Nat.lt_or_ge k j with h1 | h1
                                      · exact HOI.out k z h1 hz i hi
                                      · have e : k = j := by omega
                                        subst e
                                        rw [HGX.out] at hz
                                        cases hz
                                        exact HOT.out i (by have := HNA.out; omega)
                                    go_wp2_with fail
                                    go_roundg g2
                                    case measure => omega
                                    case rel => exact ⟨j + 1, by go_num, by omega, HOI2, HBL⟩
                                  | succ g3 =>
                                    have hltt : (t : Int) < (nA : Int) := by omega
                                    have htN : t < x.ar.length := by have := HNA.out; omega
                                    have HTN : Hid (t < x.ar.length) := htN
                                    have hga' : x.ar[t]? = some x.ar[t] := List.getElem?_eq_getElem htN
                                    generalize x.ar[t] = a' at hga'
                                    obtain ⟨ha0, ha1⟩ := HAR.out a' (List.mem_of_getElem? hga')
                                    obtain ⟨a, rfl⟩ : ∃ a : Nat, a' = (a : Int) := ⟨a'.toNat, by omega⟩
                                    have han : a < nv := by omega
                                    have HAN : Hid (a < nv) := han
                                    have HGA : Hid (x.ar[t]? = some (a : Int)) := hga'
                                    obtain ⟨ga, oa, rfl, hac⟩ := HAG.out t _ hga'
                                    have d0 := hac wr HJ.out
                                    obtain ⟨y0, y1, y2, y3, y4, y5⟩ := HC6.out wr (HCX.out wr (HBZ.out wr HBL.out))
                                    clear hga' hac ha0 ha1 han
                                    rcases hop : (x.op == 14) with _ | _
                                    · have HAK : Hid (askY L AH c.blocks S6 x b (j : Int) t = hasY L S6 (a : Int) b (j : Int)) := by
                                        have hf : fromM AH c.blocks x b (j : Int) t = (b, (j : Int)) := by unfold fromM; rw [hop]; rfl
                                        unfold Hid
                                        rw [askY_eq HGA.out hf]
                                        simp [HRB.out]
                                      have HCK := HKN.out wr a b (j : Int) HBL.out HAN.out HBN.out HRB.out (by omega)
                                      have HCKH : Hid (_) := HCK
                                      clear HCK
                                      go_wp2_with fail
                                      refine Calls.mono HCKH.out ?_
                                      rintro e w5' ⟨rfl, hw5'⟩
                                      have hw6 := hw5'.symm
                                      subst hw6
                                      rcases hh : hasY L S6 (a : Int) b (j : Int) with _ | _
                                      · have HRY : Hid (RR = 12) := by
                                          have h : u = false := by
                                            rw [HU.out, List.all_eq_false]
                                            exact ⟨b, List.mem_range.2 HBN.out, by rw [okB_bad HRB.out HG.out HGX.out HTN.out (by rw [HAK.out, hh])]; simp⟩
                                          unfold Hid
                                          rw [HRX.out, h]; rfl
                                        go_wp2_with fail
                                        go_ret
                                        exact ⟨by rw [HRY.out]; rfl, HBX.out _ (HBZ.out _ HBL.out)⟩
                                      · have HOT2 : Hid (∀ i, i < t + 1 → askY L AH c.blocks S6 x b (j : Int) i = true) := fun i hi => by
                                          rcases Nat.lt_or_ge i t with h1 | h1
                                          · exact HOT.out i h1
                                          · have : i = t := by omega
                                            rw [this, HAK.out, hh]
                                        go_wp2_with fail
                                        go_roundg g3
                                        case measure => omega
                                        case rel => exact ⟨t + 1, by go_num, by omega, HOT2, HX, HJ, HBL⟩
                                    · have hop14 : x.op = 14 := by simpa using hop
                                      obtain ⟨lp, hlp⟩ : ∃ lp, AH[b]? = some lp := ⟨_, List.getElem?_eq_getElem (by rw [HAL.out]; exact HBN.out)⟩
                                      have hll : x.ar.length = lp.length := by
                                        rw [phis_of HFN.out HPH0.out b bl j x HG.out HGX.out hop14, List.getD_eq_getElem?_getD, hlp]; rfl
                                      obtain ⟨y', hy'⟩ : ∃ y', lp[t]? = some y' := ⟨_, List.getElem?_eq_getElem (by rw [← hll]; exact HTN.out)⟩
                                      obtain ⟨hy0, hy1⟩ := HAI.out b lp y' hlp (List.mem_of_getElem? hy')
                                      obtain ⟨yn, rfl⟩ : ∃ yn : Nat, y' = (yn : Int) := ⟨y'.toNat, by omega⟩
                                      have hyn : yn < n := by omega
                                      have HYN : Hid (yn < n) := hyn
                                      obtain ⟨g8', o8', cs, e8, _, _, ⟨vr8, rfl, hvr8⟩, hcl8⟩ := Lies.at (Rws.below HR8.out (HBZ.out wr HBL.out)) hlp
                                      have k8c := hcl8 0 (by decide)
                                      obtain ⟨au, ku, rfl⟩ := Lies.slice hvr8
                                      obtain ⟨gu, ou, csu, eu, _, _, ⟨rfl, _⟩, hclu⟩ := Lies.at hvr8 hy'
                                      have u0 := hclu 0 (by decide)
                                      subst eu
                                      simp at k8c u0
                                      cases e8
                                      obtain ⟨bY, hbY⟩ : ∃ bY, c.blocks[yn]? = some bY := ⟨_, List.getElem?_eq_getElem (by have := HN.out; omega)⟩
                                      obtain ⟨gb', ob', csb, eb, hgb', _, ⟨vY, rfl, hvY⟩, hclY⟩ := Lies.at HBK.out hbY
                                      cases eb
                                      obtain ⟨aY, cY, rfl⟩ := Lies.slice hvY
                                      have qY := hclY 0 (by decide)
                                      simp at qY
                                      have hlY := hvY.len
                                      unfold maxLen at hlY
                                      obtain ⟨lY, hlYe⟩ : ∃ lY, lY = bY.length := ⟨_, rfl⟩
                                      rw [← hlYe] at hlY qY
                                      have q2 : wr.cell? ⟨gb, ob + yn, none⟩ = some (.slice aY lY cY) := (((HBX.out wr (HBZ.out wr HBL.out)).mono HBW.out).cell (p := ⟨gb, ob + yn, none⟩) hgb').trans qY
                                      have c4 := (HKX.out wr HBL.out).ca
                                      obtain ⟨lz, hlz⟩ : ∃ lz, lz = (rowD (abD L) yn n).length := ⟨_, rfl⟩
                                      have HLZ : Hid (lz = 0 ↔ ¬ Rch (preL L) yn) := by unfold Hid; rw [hlz]; exact rowD_none hyn
                                      obtain ⟨gA', pA', csA, eA, _, _, ⟨vz, rfl, hvz⟩, hclz⟩ := Lies.at (HKX.out wr HBL.out).rA (abR_at hyn)
                                      cases eA
                                      obtain ⟨az, kz, rfl⟩ := Lies.slice hvz
                                      have z0 := hclz 0 (by decide)
                                      simp at z0
                                      rw [← hlz] at z0
                                      have hlzm := hvz.len
                                      unfold maxLen at hlzm
                                      rw [← hlz] at hlzm
                                      have HAF : Hid (fromM AH c.blocks x b (j : Int) t = (yn, (lY : Int))) := by
                                        have e1 : AH.getD b [] = lp := by rw [List.getD_eq_getElem?_getD, hlp]; rfl
                                        have e2 : lp.getD t 0 = (yn : Int) := by rw [List.getD_eq_getElem?_getD, hy']; rfl
                                        have e3 : c.blocks.getD yn [] = bY := by rw [List.getD_eq_getElem?_getD, hbY]; rfl
                                        unfold Hid fromM
                                        rw [hop, if_pos rfl, e1, e2, Int.toNat_natCast, e3, hlYe]
                                      have hnl : lp.length = nA := by rw [← hll]; exact HNA.out.symm
                                      rw [hnl] at k8c
                                      have hbI : (b : Int) < (n : Int) := by have := HBN.out; omega
                                      have hynI : (yn : Int) < (n : Int) := by omega
                                      clear hlp hll hy' hy0 hy1 hyn hvr8 hcl8 hclu hbY hvY hclY qY hlYe hlz hvz hclz hop14 hnl
                                      by_cases hzz : lz = 0
                                      · have hzz' : ((lz : Int) == 0) = true := by simp [hzz]
                                        have HOT2 : Hid (∀ i, i < t + 1 → askY L AH c.blocks S6 x b (j : Int) i = true) := fun i hi => by
                                          rcases Nat.lt_or_ge i t with h1 | h1
                                          · exact HOT.out i h1
                                          · have : i = t := by omega
                                            rw [this]; exact askY_dead HGA.out HAF.out (HLZ.out.1 hzz)
                                        clear hzz
                                        go_wp2_with fail
                                        go_roundg g3
                                        case measure => omega
                                        case rel => exact ⟨t + 1, by go_num, by omega, HOT2, HX, HJ, HBL⟩
                                      · have hzz' : ((lz : Int) == 0) = false := by simp [hzz]
                                        have HRY : Hid (Rch (preL L) yn) := Classical.byContradiction fun h => hzz (HLZ.out.2 h)
                                        have HCKH : Hid (_) := HKN.out wr a yn (lY : Int) HBL.out HAN.out HYN.out HRY.out (by omega)
                                        clear hzz
                                        go_wp2_with fail
                                        refine Calls.mono HCKH.out ?_
                                        rintro e w5' ⟨rfl, hw5'⟩
                                        have hw6 := hw5'.symm
                                        subst hw6
                                        rcases hh : hasY L S6 (a : Int) yn (lY : Int) with _ | _
                                        · have HRZ2 : Hid (RR = 12) := by
                                            have h : u = false := by
                                              rw [HU.out, List.all_eq_false]
                                              exact ⟨b, List.mem_range.2 HBN.out, by rw [okB_bad HRB.out HG.out HGX.out HTN.out (by rw [askY_live HGA.out HAF.out HRY.out, hh])]; simp⟩
                                            unfold Hid
                                            rw [HRX.out, h]; rfl
                                          go_wp2_with fail
                                          go_ret
                                          exact ⟨by rw [HRZ2.out]; rfl, HBX.out _ (HBZ.out _ HBL.out)⟩
                                        · have HOT2 : Hid (∀ i, i < t + 1 → askY L AH c.blocks S6 x b (j : Int) i = true) := fun i hi => by
                                            rcases Nat.lt_or_ge i t with h1 | h1
                                            · exact HOT.out i h1
                                            · have : i = t := by omega
                                              rw [this, askY_live HGA.out HAF.out HRY.out, hh]
                                          go_wp2_with fail
                                          go_roundg g3
                                          case measure => omega
                                          case rel => exact ⟨t + 1, by go_num, by omega, HOT2, HX, HJ, HBL⟩
                    | succ g =>
                      have hltb : (b : Int) < (n : Int) := by omega
                      have hbn : b < n := by omega
                      have HBN : Hid (b < n) := hbn
                      have hget : c.blocks[b]? = some c.blocks[b] := List.getElem?_eq_getElem (by have := HN.out; omega)
                      generalize c.blocks[b] = bl at hget
                      have HG : Hid (c.blocks[b]? = some bl) := hget
                      obtain ⟨gb, ob, cs, rfl, hgb, _, ⟨vk, rfl, hvk⟩, hcl⟩ := Lies.at HBK.out hget
                      obtain ⟨ak, ck, rfl⟩ := Lies.slice hvk
                      have qw := hcl 0 (by decide)
                      simp at qw
                      have hbl := hvk.len
                      unfold maxLen at hbl
                      obtain ⟨M, hM⟩ : ∃ M, M = bl.length := ⟨_, rfl⟩
                      have HM : Hid (M = bl.length) := hM
                      rw [← hM] at hbl hvk qw
                      have HVK : Hid (Blk B w (.slice ak M ck) bl) := hvk
                      have HQW : Hid (∀ wx : World, Below S w3 wx → wx.cell? ⟨gb, ob + b, none⟩ = some (.slice ak M ck)) := fun wx h => (((HBX.out wx h).mono HBW.out).cell (p := ⟨gb, ob + b, none⟩) hgb).trans qw
                      have q0 := HQW.out wr (HBY.out wr _ _ HA.out)
                      have HRI : Hid (R6 = (setI (b : Int) 0 (bl.drop 0) S6).bind (setB (b + 1) (c.blocks.drop (b + 1)))) := by
                        have h := HRB.out
                        rw [drop_at hget] at h
                        exact h
                      clear hcl hget hvk qw hM
                      go_wp2_with fail
                      go_loopg [16] M (fun g2 s16 wr => ∃ (k : Nat) (S6 : SetM), s16 = .int .i64 (k : Nat) ∧ k + g2 = M ∧ Hid (R6 = (setI (b : Int) k (bl.drop k) S6).bind (setB (b + 1) (c.blocks.drop (b + 1)))) ∧ Hid (SpP n S6) ∧ Hid (AR G w5 wr nv (bkV S6) (plV S6)))
                      case atStart => exact ⟨0, S6, rfl, by omega, HRI, HS6, HA⟩
                      case round =>
                        clear HRI HRB HS6 HA S6 q0 y0 y1 y2 y3 y4 y5
                        obtain ⟨j, S6, rfl, hj', HRI, HS6, HA⟩ := hrel
                        obtain ⟨y0, y1, y2, y3, y4, y5⟩ := HC6.out wr (HCX.out wr (HBY.out wr _ _ HA.out))
                        have q0 := HQW.out wr (HBY.out wr _ _ HA.out)
                        cases gk with
                        | zero =>
                          have hltj : ¬ (j : Int) < (M : Int) := by omega
                          have HRB : Hid (R6 = setB (b + 1) (c.blocks.drop (b + 1)) S6) := by
                            have h := HRI.out
                            rw [drop_end (by have := HM.out; omega)] at h
                            exact h
                          go_wp2_with fail
                          go_roundg g
                          case measure => omega
                          case rel => exact ⟨b + 1, S6, by go_num, by omega, HRB, HS6, HA⟩
                        | succ g2 =>
                          have hltj : (j : Int) < (M : Int) := by omega
                          have hjN : j < bl.length := by have := HM.out; omega
                          have hgx : bl[j]? = some bl[j] := List.getElem?_eq_getElem hjN
                          generalize bl[j] = x at hgx
                          have HGX : Hid (bl[j]? = some x) := hgx
                          obtain ⟨gi, oi, cs, rfl, hgi, hcs, ⟨vd, va, vt, rfl, hds, has, hts, _⟩, hcl⟩ := Lies.at (Blk.below HVK.out ((HBX.out wr (HBY.out wr _ _ HA.out)).mono HBW.out)) hgx
                          have i0 := hcl 0 (by decide)
                          have i1 := hcl 1 (by decide)
                          have i2 := hcl 2 (by decide)
                          have i3 := hcl 3 (by decide)
                          have i4 := hcl 4 (by decide)
                          have i5 := hcl 5 (by decide)
                          simp at i0 i1 i2 i3 i4 i5
                          obtain ⟨ad, cd, rfl⟩ := Lies.slice hds
                          obtain ⟨aa, ca, rfl⟩ := Lies.slice has
                          obtain ⟨at_, ct, rfl⟩ := Lies.slice hts
                          have hdl := hds.len
                          unfold maxLen at hdl
                          obtain ⟨nd, hnd⟩ : ∃ nd, nd = x.ds.length := ⟨_, rfl⟩
                          have HND : Hid (nd = x.ds.length) := hnd
                          rw [← hnd] at hds hdl i1
                          have HDW : Hid (Nums B wr (.slice ad nd cd) x.ds) := hds
                          have HDR : Hid (∀ d ∈ x.ds, 0 ≤ d ∧ d < (nv : Int)) := fun d hd => by
                            rw [← HNV.out]
                            exact ds_of HFN.out HPH0.out bl (List.mem_of_getElem? HG.out) x (List.mem_of_getElem? HGX.out) d hd
                          have HRJ : Hid (R6 = ((setD (b : Int) (j : Int) (x.ds.drop 0) S6).bind (setI (b : Int) (j + 1) (bl.drop (j + 1)))).bind (setB (b + 1) (c.blocks.drop (b + 1)))) := by
                            have h := HRI.out
                            rw [drop_at hgx] at h
                            exact h
                          clear hcl hcs hgx hds has hts hnd
                          go_upto_region 39 with fail
                          obtain ⟨O, hO⟩ : ∃ O, O = (.cells #[.int .i64 x.op, .slice ad nd cd, .slice aa x.ar.length ca, .int .i64 x.n, .string ⟨x.s.toArray⟩, .slice at_ x.to.length ct] 37 : Obj) := ⟨_, rfl⟩
                          rw [← hO]
                          obtain ⟨gx, hgx⟩ : ∃ gx, gx = wr.heap.size := ⟨_, rfl⟩
                          obtain ⟨W7, hW7⟩ : ∃ W7, W7 = wr.alloc O := ⟨_, rfl⟩
                          rw [← hgx, ← hW7]
                          have hGw : G ≤ wr.heap.size := by have h1 := HA.out.bel.size; have h2 := HGE.out; omega
                          have HA7 : Hid (AR G w5 W7 nv (bkV S6) (plV S6)) := by rw [hW7]; exact HA.out.keep (below_alloc wr O) hGw
                          have HX7 : Hid (W7.heap[gx]? = some O) := by rw [hW7, hgx]; exact heap_alloc_new wr O
                          have HGX4 : Hid (G + 4 ≤ gx) := by unfold Hid; rw [hgx]; have := lt_of_block HA.out.bp; omega
                          have HXE : Hid (∀ wx : World, wx.heap[gx]? = some O → wx.cell? ⟨gx, 0, none⟩ = some (.int .i64 x.op) ∧ wx.cell? ⟨gx, 1, none⟩ = some (.slice ad nd cd) ∧ wx.cell? ⟨gx, 2, none⟩ = some (.slice aa x.ar.length ca)) := fun wx h => by
                            rw [hO] at h
                            obtain ⟨h0, h1, h2, _⟩ := cells6 h
                            exact ⟨h0, h1, h2⟩
                          have HDG : Hid (∀ (t : Nat) (d : Int), x.ds[t]? = some d → ∃ gd od, ad = some ⟨gd, od, none⟩ ∧ gd < S ∧ ∀ wx : World, Below S wr wx → wx.cell? ⟨gd, od + t, none⟩ = some (.int .i64 d)) := fun t d hd => by
                            obtain ⟨gd, od, cs, e, hgd, _, ⟨rfl, _⟩, hcl⟩ := Lies.at HDW.out hd
                            cases e
                            have h0 := hcl 0 (by decide)
                            simp at h0
                            have h1 := HBW.out
                            have h2 := HWS.out
                            exact ⟨gd, od, rfl, by omega, fun wx h => (h.cell (p := ⟨gd, od + t, none⟩) (by show gd < S; omega)).trans h0⟩
                          obtain ⟨wj, hwj⟩ : ∃ wj, wj = wr := ⟨_, rfl⟩
                          rw [← hwj] at HDG
                          have HJB : Hid (Below G w5 wj) := by rw [hwj]; exact HA.out.bel
                          have HBJ : Hid (∀ wx : World, Below G wj wx → Below S wj wx) := fun wx h => h.mono HSG.out
                          have HK7 : Hid (Below G wj W7) := by rw [hwj, hW7]; exact (below_alloc wr O).mono hGw
                          clear hO hgx hW7 hGw HA HRI i0 i1 i2 i3 i4 i5 y0 y1 y2 y3 y4 y5 q0 HDW hwj
                          go_wp2_with fail
                          go_loopg [18] nd (fun g3 s18 wr => ∃ (t : Nat) (S6 : SetM), s18 = .int .i64 (t : Nat) ∧ t + g3 = nd ∧ Hid (R6 = ((setD (b : Int) (j : Int) (x.ds.drop t) S6).bind (setI (b : Int) (j + 1) (bl.drop (j + 1)))).bind (setB (b + 1) (c.blocks.drop (b + 1)))) ∧ Hid (SpP n S6) ∧ Hid (AR G w5 wr nv (bkV S6) (plV S6)) ∧ Hid (wr.heap[gx]? = some O) ∧ Hid (Below G wj wr))
                          case atStart => exact ⟨0, S6, rfl, by omega, HRJ, HS6, HA7, HX7, HK7⟩
                          case round =>
                            clear HRJ HS6 HA7 HX7 HK7 S6
                            obtain ⟨t, S6, rfl, ht', HRJ, HS6, HA, HX, HJ⟩ := hrel
                            obtain ⟨x0, x1, x2⟩ := HXE.out wr HX.out
                            cases gk with
                            | zero =>
                              have hltt : ¬ (t : Int) < (nd : Int) := by omega
                              have HRI : Hid (R6 = (setI (b : Int) (j + 1) (bl.drop (j + 1)) S6).bind (setB (b + 1) (c.blocks.drop (b + 1)))) := by
                                have h := HRJ.out
                                rw [drop_end (by have := HND.out; omega)] at h
                                exact h
                              go_wp2_with fail
                              go_roundg g2
                              case measure => omega
                              case rel => exact ⟨j + 1, S6, by go_num, by omega, HRI, HS6, HA⟩
                            | succ g3 =>
                              have hltt : (t : Int) < (nd : Int) := by omega
                              have htN : t < x.ds.length := by have := HND.out; omega
                              have hgd' : x.ds[t]? = some x.ds[t] := List.getElem?_eq_getElem htN
                              generalize x.ds[t] = d' at hgd'
                              obtain ⟨hd0, hd1⟩ := HDR.out d' (List.mem_of_getElem? hgd')
                              obtain ⟨d, rfl⟩ : ∃ d : Nat, d' = (d : Int) := ⟨d'.toNat, by omega⟩
                              have hdn : d < nv := by omega
                              obtain ⟨gd, od, rfl, hgdS, hdc⟩ := HDG.out t _ hgd'
                              have HDC : Hid (∀ wx : World, Below S wj wx → wx.cell? ⟨gd, od + t, none⟩ = some (.int .i64 (d : Nat))) := hdc
                              have d0 := hdc wr (HBJ.out wr HJ.out)
                              obtain ⟨b0, p0⟩ := HAB.out wr _ _ HA.out
                              have g0 := (HA.out.rb.get hdn).1
                              have g0f := (HA.out.rb.get hdn).2
                              obtain ⟨s1, s2, s3⟩ := HS6.out.bk d
                              obtain ⟨y, hy⟩ : ∃ y, y = bkV S6 d := ⟨_, rfl⟩
                              rw [← hy] at g0 s3
                              have HRD : Hid (R6 = ((if (S6 (d : Int)).isSome then none else setD (b : Int) (j : Int) (x.ds.drop (t + 1)) (ins S6 (d : Int) ((b : Int), (j : Int)))).bind (setI (b : Int) (j + 1) (bl.drop (j + 1)))).bind (setB (b + 1) (c.blocks.drop (b + 1)))) := by
                                have h := HRJ.out
                                rw [drop_at hgd'] at h
                                exact h
                              have HYS : Hid ((y != 0) = (S6 (d : Int)).isSome) := s3
                              clear hgd' hdc s1 s2 s3 hy hd0
                              rcases hyz : (y != 0) with _ | _
                              · have HRN : Hid (R6 = ((setD (b : Int) (j : Int) (x.ds.drop (t + 1)) (ins S6 (d : Int) ((b : Int), (j : Int)))).bind (setI (b : Int) (j + 1) (bl.drop (j + 1)))).bind (setB (b + 1) (c.blocks.drop (b + 1)))) := by
                                  have h := HRD.out
                                  rw [← HYS.out, hyz] at h
                                  exact h
                                go_upto_region 42 with fail
                                go_quiet (fail)
                                have HAq : Hid (AR G w5 (wr.drewN nq) nv (bkV S6) (plV S6)) := HA.out.drewN nq
                                have HXq : Hid ((wr.drewN nq).heap[gx]? = some O) := HX.out
                                have HJq : Hid (Below G wj (wr.drewN nq)) := below_drewN HJ.out nq
                                obtain ⟨wq, hwq⟩ : ∃ wq, wq = wr.drewN nq := ⟨_, rfl⟩
                                rw [← hwq] at HAq HXq HJq ⊢
                                clear hwq d0 b0 p0 g0 g0f x0 x1 x2 HA HX HJ
                                obtain ⟨b0, p0⟩ := HAB.out wq _ _ HAq.out
                                obtain ⟨x0, x1, x2⟩ := HXE.out wq HXq.out
                                have d0 := HDC.out wq (HBJ.out wq HJq.out)
                                have hneB : G ≠ oB := by have := HPP.out; omega
                                have hneX : G ≠ gx := by have := HGX4.out; omega
                                have hneD : G ≠ gd := by have := HSG.out; omega
                                have hwb : wrap64 ((b : Int) + 1) = ((b + 1 : Nat) : Int) := by have := HNB.out; have := HBN.out; unfold wrap64; omega
                                have HS0 : Hid (wq.drew.cell? ⟨oB, 0, none⟩ = some (.slice (some ⟨G, 0, none⟩) nv nv) ∧ wq.drew.cell? ⟨gx, 1, none⟩ = some (.slice (some ⟨gd, od, none⟩) nd cd) ∧ wq.drew.cell? ⟨gd, od + t, none⟩ = some (.int .i64 (d : Nat))) := ⟨b0, x1, d0⟩
                                have g0 := (HAq.out.drew.rb.get hdn).1
                                have g0f := (HAq.out.drew.rb.get hdn).2
                                have hdI : (d : Int) < (nv : Int) := by omega
                                go_upto_region 44 with fail
                                refine wp_region_noPanic ?_
                                refine wp_region_held_drew (S := (fun w' => w'.cell? ⟨oB, 0, none⟩ = some (.slice (some ⟨G, 0, none⟩) nv nv) ∧ w'.cell? ⟨gx, 1, none⟩ = some (.slice (some ⟨gd, od, none⟩) nd cd) ∧ w'.cell? ⟨gd, od + t, none⟩ = some (.int .i64 (d : Nat)))) (by kernel_rfl) HS0.out ?_
                                intro HS
                                refine wpAnyH_take (i := 0) (v := ?_) (by simp only [List.getElem?_toArray, List.getElem?_cons_succ, List.getElem?_cons_zero]; rfl) (by kernel_rfl) (by kernel_rfl) (by kernel_rfl) (fun _ _ _ h => h) (Or.inl ⟨by rfl, ?_⟩) HS ?_
                                rotate_left
                                · intro wz hSw
                                  try dsimp only at hSw
                                  obtain ⟨e0, e1, e2⟩ := hSw
                                  go_simp
                                  try with_reducible rfl
                                try simp only [Act.put, List.setIfInBounds_toArray, List.set_cons_zero, List.set_cons_succ]
                                refine wpAnyH_take (i := 1) (v := ?_) (by simp only [List.getElem?_toArray, List.getElem?_cons_succ, List.getElem?_cons_zero]; rfl) (by kernel_rfl) (by kernel_rfl) (by kernel_rfl) (fun _ _ _ h => h) (Or.inl ⟨by rfl, ?_⟩) HS ?_
                                rotate_left
                                · intro wz hSw
                                  try dsimp only at hSw
                                  obtain ⟨e0, e1, e2⟩ := hSw
                                  go_simp
                                  try with_reducible rfl
                                try simp only [Act.put, List.setIfInBounds_toArray, List.set_cons_zero, List.set_cons_succ]
                                refine wpAnyH_take (i := 2) (v := ?_) (by simp only [List.getElem?_toArray, List.getElem?_cons_succ, List.getElem?_cons_zero]; rfl) (by kernel_rfl) (by kernel_rfl) (by kernel_rfl) (fun _ _ _ h => h) (Or.inl ⟨by rfl, ?_⟩) HS ?_
                                rotate_left
                                · intro wz hSw
                                  try dsimp only at hSw
                                  obtain ⟨e0, e1, e2⟩ := hSw
                                  go_simp
                                  try with_reducible rfl
                                try simp only [Act.put, List.setIfInBounds_toArray, List.set_cons_zero, List.set_cons_succ]
                                refine wpAnyH_take (i := 3) (v := ?_) (by simp only [List.getElem?_toArray, List.getElem?_cons_succ, List.getElem?_cons_zero]; rfl) (by kernel_rfl) (by kernel_rfl) (by kernel_rfl) (fun _ _ _ h => h) (Or.inl ⟨by rfl, ?_⟩) HS ?_
                                rotate_left
                                · intro wz hSw
                                  try dsimp only at hSw
                                  obtain ⟨e0, e1, e2⟩ := hSw
                                  go_simp
                                  try with_reducible rfl
                                try simp only [Act.put, List.setIfInBounds_toArray, List.set_cons_zero, List.set_cons_succ]
                                refine wpAnyH_take (i := 4) (v := ?_) (by simp only [List.getElem?_toArray, List.getElem?_cons_succ, List.getElem?_cons_zero]; rfl) (by kernel_rfl) (by kernel_rfl) (by kernel_rfl) (fun _ _ _ h => h) (Or.inl ⟨by rfl, ?_⟩) HS ?_
                                rotate_left
                                · intro wz hSw
                                  try dsimp only at hSw
                                  obtain ⟨e0, e1, e2⟩ := hSw
                                  go_simp
                                  try with_reducible rfl
                                try simp only [Act.put, List.setIfInBounds_toArray, List.set_cons_zero, List.set_cons_succ]
                                refine wpAnyH_take (i := 5) (v := ?_) (by simp only [List.getElem?_toArray, List.getElem?_cons_succ, List.getElem?_cons_zero]; rfl) (by kernel_rfl) (by kernel_rfl) (by kernel_rfl) (fun _ _ _ h => h) (Or.inl ⟨by rfl, ?_⟩) HS ?_
                                rotate_left
                                · intro wz hSw
                                  try dsimp only at hSw
                                  obtain ⟨e0, e1, e2⟩ := hSw
                                  go_simp
                                  try with_reducible rfl
                                try simp only [Act.put, List.setIfInBounds_toArray, List.set_cons_zero, List.set_cons_succ]
                                refine wpAnyH_take (i := 6) (v := ?_) (by simp only [List.getElem?_toArray, List.getElem?_cons_succ, List.getElem?_cons_zero]; rfl) (by kernel_rfl) (by kernel_rfl) (by kernel_rfl) (fun _ _ _ h => h) (Or.inl ⟨by rfl, ?_⟩) HS ?_
                                rotate_left
                                · intro wz hSw
                                  try dsimp only at hSw
                                  obtain ⟨e0, e1, e2⟩ := hSw
                                  go_simp
                                  try with_reducible rfl
                                try simp only [Act.put, List.setIfInBounds_toArray, List.set_cons_zero, List.set_cons_succ]
                                refine wpAnyH_take (i := 7) (v := ?_) (by simp only [List.getElem?_toArray, List.getElem?_cons_succ, List.getElem?_cons_zero]; rfl) (by kernel_rfl) (by kernel_rfl) (by kernel_rfl) (fun _ _ _ h => h) (Or.inl ⟨by rfl, ?_⟩) HS ?_
                                rotate_left
                                · intro wz hSw
                                  try dsimp only at hSw
                                  obtain ⟨e0, e1, e2⟩ := hSw
                                  go_simp
                                  try with_reducible rfl
                                try simp only [Act.put, List.setIfInBounds_toArray, List.set_cons_zero, List.set_cons_succ]
                                refine wpAnyH_take (i := 8) (v := ?_) (by simp only [List.getElem?_toArray, List.getElem?_cons_succ, List.getElem?_cons_zero]; rfl) (by kernel_rfl) (by kernel_rfl) (by kernel_rfl) (fun _ _ _ h => h) (Or.inl ⟨by rfl, ?_⟩) HS ?_
                                rotate_left
                                · intro wz hSw
                                  try dsimp only at hSw
                                  obtain ⟨e0, e1, e2⟩ := hSw
                                  go_simp
                                  try with_reducible rfl
                                try simp only [Act.put, List.setIfInBounds_toArray, List.set_cons_zero, List.set_cons_succ]
                                refine wpAnyH_ready (rs := [9]) (by kernel_rfl) (by simp) (AllReadyH.cons (by simp only [List.getElem?_toArray, List.getElem?_cons_succ, List.getElem?_cons_zero]; rfl) (fun K' HK => ?_) AllReadyH.nil)
                                go_simp
                                refine HK.out _ _ ?_ (fun HS => ?_)
                                · obtain ⟨e0, e1, e2⟩ := HS
                                  exact ⟨(World.cell?_setCell_far _ _ _ _ (by show G ≠ oB; omega)).trans e0, (World.cell?_setCell_far _ _ _ _ (by show G ≠ gx; omega)).trans e1, (World.cell?_setCell_far _ _ _ _ (by show G ≠ gd; omega)).trans e2⟩
                                clear HK K'
                                refine wpAnyH_done (by kernel_rfl) ?_ _
                                refine NoPanic.normal ?_
                                obtain ⟨W8, hW8⟩ : ∃ W8, W8 = (wq.setCell ⟨G, d, none⟩ (.int .i64 (IntKind.i64.wrap ((b : Int) + 1)))).drew := ⟨_, rfl⟩
                                rw [← hW8]
                                have HA8 : Hid (AR G w5 W8 nv (bkV (ins S6 (d : Int) ((b : Int), (j : Int)))) (plV S6)) := by
                                  have h := HAq.out.setB hdn (IntKind.i64.wrap ((b : Int) + 1))
                                  have h1 := h.drew
                                  rw [← hW8, wrap_64, hwb, bkV_ins S6 d b j] at h1
                                  exact h1
                                have HX8 : Hid (W8.heap[gx]? = some O) := by rw [hW8]; exact (Below.heap_setCell _ _ _ _ (by show gx ≠ G; omega)).trans HXq.out
                                have HJ8 : Hid (Below G wj W8) := by rw [hW8]; exact (below_set HJq.out (Nat.le_refl _) _).drew
                                clear hW8 d0 b0 p0 g0 g0f x0 x1 x2 HAq HXq HJq HS0 hneB hneX hneD hwb
                                obtain ⟨b0, p0⟩ := HAB.out W8 _ _ HA8.out
                                obtain ⟨x0, x1, x2⟩ := HXE.out W8 HX8.out
                                have d0 := HDC.out W8 (HBJ.out W8 HJ8.out)
                                have hneB : gp ≠ oP := by have := HPP.out; omega
                                have hneX : gp ≠ gx := by have := HPP.out; have := HGX4.out; omega
                                have hneD : gp ≠ gd := by have := HPP.out; have := HSG.out; omega
                                have HS0 : Hid (W8.drew.cell? ⟨oP, 0, none⟩ = some (.slice (some ⟨gp, 0, none⟩) nv nv) ∧ W8.drew.cell? ⟨gx, 1, none⟩ = some (.slice (some ⟨gd, od, none⟩) nd cd) ∧ W8.drew.cell? ⟨gd, od + t, none⟩ = some (.int .i64 (d : Nat))) := ⟨p0, x1, d0⟩
                                have g0 := ((HAQ.out W8 _ _ HA8.out).get hdn).1
                                have g0f := ((HAQ.out W8 _ _ HA8.out).get hdn).2
                                have g1 : W8.drew.cell? ⟨gp, d, none⟩ = _ := g0
                                have g1f : W8.drew.frozen? ⟨gp, d, none⟩ = false := g0f
                                go_upto_region 45 with fail
                                refine wp_region_noPanic ?_
                                refine wp_region_held_drew (S := (fun w' => w'.cell? ⟨oP, 0, none⟩ = some (.slice (some ⟨gp, 0, none⟩) nv nv) ∧ w'.cell? ⟨gx, 1, none⟩ = some (.slice (some ⟨gd, od, none⟩) nd cd) ∧ w'.cell? ⟨gd, od + t, none⟩ = some (.int .i64 (d : Nat)))) (by kernel_rfl) HS0.out ?_
                                intro HS
                                refine wpAnyH_take (i := 0) (v := ?_) (by simp only [List.getElem?_toArray, List.getElem?_cons_succ, List.getElem?_cons_zero]; rfl) (by kernel_rfl) (by kernel_rfl) (by kernel_rfl) (fun _ _ _ h => h) (Or.inl ⟨by rfl, ?_⟩) HS ?_
                                rotate_left
                                · intro wz hSw
                                  try dsimp only at hSw
                                  obtain ⟨e0, e1, e2⟩ := hSw
                                  go_simp
                                  try with_reducible rfl
                                try simp only [Act.put, List.setIfInBounds_toArray, List.set_cons_zero, List.set_cons_succ]
                                refine wpAnyH_take (i := 1) (v := ?_) (by simp only [List.getElem?_toArray, List.getElem?_cons_succ, List.getElem?_cons_zero]; rfl) (by kernel_rfl) (by kernel_rfl) (by kernel_rfl) (fun _ _ _ h => h) (Or.inl ⟨by rfl, ?_⟩) HS ?_
                                rotate_left
                                · intro wz hSw
                                  try dsimp only at hSw
                                  obtain ⟨e0, e1, e2⟩ := hSw
                                  go_simp
                                  try with_reducible rfl
                                try simp only [Act.put, List.setIfInBounds_toArray, List.set_cons_zero, List.set_cons_succ]
                                refine wpAnyH_take (i := 2) (v := ?_) (by simp only [List.getElem?_toArray, List.getElem?_cons_succ, List.getElem?_cons_zero]; rfl) (by kernel_rfl) (by kernel_rfl) (by kernel_rfl) (fun _ _ _ h => h) (Or.inl ⟨by rfl, ?_⟩) HS ?_
                                rotate_left
                                · intro wz hSw
                                  try dsimp only at hSw
                                  obtain ⟨e0, e1, e2⟩ := hSw
                                  go_simp
                                  try with_reducible rfl
                                try simp only [Act.put, List.setIfInBounds_toArray, List.set_cons_zero, List.set_cons_succ]
                                refine wpAnyH_take (i := 3) (v := ?_) (by simp only [List.getElem?_toArray, List.getElem?_cons_succ, List.getElem?_cons_zero]; rfl) (by kernel_rfl) (by kernel_rfl) (by kernel_rfl) (fun _ _ _ h => h) (Or.inl ⟨by rfl, ?_⟩) HS ?_
                                rotate_left
                                · intro wz hSw
                                  try dsimp only at hSw
                                  obtain ⟨e0, e1, e2⟩ := hSw
                                  go_simp
                                  try with_reducible rfl
                                try simp only [Act.put, List.setIfInBounds_toArray, List.set_cons_zero, List.set_cons_succ]
                                refine wpAnyH_take (i := 4) (v := ?_) (by simp only [List.getElem?_toArray, List.getElem?_cons_succ, List.getElem?_cons_zero]; rfl) (by kernel_rfl) (by kernel_rfl) (by kernel_rfl) (fun _ _ _ h => h) (Or.inl ⟨by rfl, ?_⟩) HS ?_
                                rotate_left
                                · intro wz hSw
                                  try dsimp only at hSw
                                  obtain ⟨e0, e1, e2⟩ := hSw
                                  go_simp
                                  try with_reducible rfl
                                try simp only [Act.put, List.setIfInBounds_toArray, List.set_cons_zero, List.set_cons_succ]
                                refine wpAnyH_take (i := 5) (v := ?_) (by simp only [List.getElem?_toArray, List.getElem?_cons_succ, List.getElem?_cons_zero]; rfl) (by kernel_rfl) (by kernel_rfl) (by kernel_rfl) (fun _ _ _ h => h) (Or.inl ⟨by rfl, ?_⟩) HS ?_
                                rotate_left
                                · intro wz hSw
                                  try dsimp only at hSw
                                  obtain ⟨e0, e1, e2⟩ := hSw
                                  go_simp
                                  try with_reducible rfl
                                try simp only [Act.put, List.setIfInBounds_toArray, List.set_cons_zero, List.set_cons_succ]
                                refine wpAnyH_take (i := 6) (v := ?_) (by simp only [List.getElem?_toArray, List.getElem?_cons_succ, List.getElem?_cons_zero]; rfl) (by kernel_rfl) (by kernel_rfl) (by kernel_rfl) (fun _ _ _ h => h) (Or.inl ⟨by rfl, ?_⟩) HS ?_
                                rotate_left
                                · intro wz hSw
                                  try dsimp only at hSw
                                  obtain ⟨e0, e1, e2⟩ := hSw
                                  go_simp
                                  try with_reducible rfl
                                try simp only [Act.put, List.setIfInBounds_toArray, List.set_cons_zero, List.set_cons_succ]
                                refine wpAnyH_take (i := 7) (v := ?_) (by simp only [List.getElem?_toArray, List.getElem?_cons_succ, List.getElem?_cons_zero]; rfl) (by kernel_rfl) (by kernel_rfl) (by kernel_rfl) (fun _ _ _ h => h) (Or.inl ⟨by rfl, ?_⟩) HS ?_
                                rotate_left
                                · intro wz hSw
                                  try dsimp only at hSw
                                  obtain ⟨e0, e1, e2⟩ := hSw
                                  go_simp
                                  try with_reducible rfl
                                try simp only [Act.put, List.setIfInBounds_toArray, List.set_cons_zero, List.set_cons_succ]
                                refine wpAnyH_ready (rs := [8]) (by kernel_rfl) (by simp) (AllReadyH.cons (by simp only [List.getElem?_toArray, List.getElem?_cons_succ, List.getElem?_cons_zero]; rfl) (fun K' HK => ?_) AllReadyH.nil)
                                go_simp
                                refine HK.out _ _ ?_ (fun HS => ?_)
                                · obtain ⟨e0, e1, e2⟩ := HS
                                  exact ⟨(World.cell?_setCell_far _ _ _ _ (by show gp ≠ oP; omega)).trans e0, (World.cell?_setCell_far _ _ _ _ (by show gp ≠ gx; omega)).trans e1, (World.cell?_setCell_far _ _ _ _ (by show gp ≠ gd; omega)).trans e2⟩
                                clear HK K'
                                refine wpAnyH_done (by kernel_rfl) ?_ _
                                refine NoPanic.normal ?_
                                obtain ⟨W9, hW9⟩ : ∃ W9, W9 = (W8.setCell ⟨gp, d, none⟩ (.int .i64 (j : Nat))).drew := ⟨_, rfl⟩
                                rw [← hW9]
                                have HA9 : Hid (AR G w5 W9 nv (bkV (ins S6 (d : Int) ((b : Int), (j : Int)))) (plV (ins S6 (d : Int) ((b : Int), (j : Int))))) := by
                                  have h := (HAP.out W8 _ _ d ((j : Nat) : Int) HA8.out hdn).drew
                                  rw [← hW9, plV_ins S6 d b j] at h
                                  exact h
                                have HX9 : Hid (W9.heap[gx]? = some O) := by rw [hW9]; exact (Below.heap_setCell _ _ _ _ (by show gx ≠ gp; omega)).trans HX8.out
                                have HJ9 : Hid (Below G wj W9) := by rw [hW9]; exact (below_set HJ8.out (by have := HPP.out; omega) _).drew
                                have HS9 : Hid (SpP n (ins S6 (d : Int) ((b : Int), (j : Int)))) := HS6.out.ins HBN.out _ _
                                clear hW9 d0 b0 p0 g0 g0f g1 g1f x0 x1 x2 HS0 hneB hneX hneD
                                go_wp2_with fail
                                go_roundg g3
                                case measure => omega
                                case rel => exact ⟨t + 1, _, by go_num, by omega, HRN, HS9, HA9, HX9, HJ9⟩
                              · have HR7 : Hid (R6 = none) := by
                                  have h := HRD.out
                                  rw [← HYS.out, hyz] at h
                                  exact h
                                have HRX : Hid (RR = 7) := by unfold Hid; rw [HRW.out, HR7.out]; rfl
                                go_upto_region 42 with fail
                                go_quiet (fail)
                                go_wp2_with fail
                                go_ret
                                exact ⟨by rw [HRX.out]; rfl, HBX.out _ (below_drewN (HBY.out _ _ _ HA.out) nq)⟩
                | succ g =>
                  have hlt : (i : Int) < c.params := by omega
                  have hin : i < nv := by omega
                  have HI' : Hid (i + (g + 1) = c.params.toNat) := hi'
                  have hi3 : (i : Int) < 3000 := by have := HN3.out; omega
                  obtain ⟨b0, p0⟩ := HAB.out wr _ _ HA.out
                  have g0 := (HA.out.rb.get hin).1
                  have g0f := (HA.out.rb.get hin).2
                  have hiI : (i : Int) < (nv : Int) := by omega
                  have HAN : Hid (AR G w5 (wr.setCell ⟨G, i, none⟩ (.int .i64 (-1))) nv (bkV (setP ((i + 1 : Nat) : Int))) (plV (setP ((i + 1 : Nat) : Int)))) := by
                    have h := HA.out.setB hin (-1)
                    rw [bkV_next, plV_setP] at h
                    unfold Hid
                    rw [plV_setP]
                    exact h
                  go_wp2_with fail
                  go_roundg g
                  case measure => omega
                  case rel => exact ⟨i + 1, by go_num, by have := HI'.out; omega, HAN⟩
            · have hz' : (0 : Int) < (l0.length : Int) := by omega
              have HRV : Hid (RR = 4) := by unfold Hid; rw [HRU.out, ← HL0.out]; simp [hz]
              go_wp2_with fail
              go_ret
              exact ⟨by rw [HRV.out]; rfl, HBX.out _ HBL.out⟩
          | succ g =>
            have hlt : (b : Int) < (n : Int) := by omega
            have hbn : b < n := by omega
            have HBN : Hid (b < n) := hbn
            have hget : c.blocks[b]? = some c.blocks[b] := List.getElem?_eq_getElem (by have := HN.out; omega)
            generalize c.blocks[b] = bl at hget
            have HG : Hid (c.blocks[b]? = some bl) := hget
            obtain ⟨gb, ob, cs, rfl, hgb, _, ⟨vk, rfl, hvk⟩, hcl⟩ := Lies.at HBK.out hget
            obtain ⟨ak, ck, rfl⟩ := Lies.slice hvk
            have qw := hcl 0 (by decide)
            simp at qw
            have hbl := hvk.len
            unfold maxLen at hbl
            obtain ⟨M, hM⟩ : ∃ M, M = bl.length := ⟨_, rfl⟩
            have HM : Hid (M = bl.length) := hM
            rw [← hM] at hbl hvk qw
            have HVK : Hid (Blk B w (.slice ak M ck) bl) := hvk
            have HQW : Hid (∀ wx : World, Below S w3 wx → wx.cell? ⟨gb, ob + b, none⟩ = some (.slice ak M ck)) := fun wx h => (((HBX.out wx h).mono HBW.out).cell (p := ⟨gb, ob + b, none⟩) hgb).trans qw
            obtain ⟨na, hna⟩ : ∃ na, na = (AH.getD b []).length := ⟨_, rfl⟩
            have HNA : Hid (na = _) := hna
            obtain ⟨p, hp⟩ : ∃ p, p = phiN bl := ⟨_, rfl⟩
            have HP : Hid (p = phiN bl) := hp
            have hpl : p ≤ M := by rw [hp, hM]; exact phiN_le bl
            have HPC : Hid (∀ wx : World, Below S w3 wx → Calls Tryd.prog 7 #[.slice ak M ck] wx fun e w' => e = .returned (.int .i64 (p : Nat)) ∧ w' = wx) := fun wx h => by
              rw [hp]
              exact phisRef_any bl _ _ _ (Blk.below HVK.out ((HBX.out wx h).mono HBW.out))
            obtain ⟨EK, hEK⟩ : ∃ EK : Nat → Int, EK = fun j => match bl[j]? with | some x => phiE c.vars na b x | none => 0 := ⟨_, rfl⟩
            have HEK : Hid (EK = _) := hEK
            have HKE : Hid (EB b = firstNZ EK 0 p) := by
              have h1 : EB b = phiB c.vars (AH.getD b []).length b bl := by rw [HEB.out]; simp [HG.out]
              unfold Hid
              rw [h1, ← HNA.out, hEK, HP.out]; rfl
            have q0 := HQW.out wr HBL.out
            clear hcl hget hvk hp hna qw hEK hM
            go_wp2_with fail
            go_loopg [10] p (fun g2 s10 wr => ∃ j : Nat, s10 = .int .i64 (j : Nat) ∧ j + g2 = p ∧ Hid (EB b = firstNZ EK j g2) ∧ Hid (Below S w3 wr))
            case atStart => exact ⟨0, rfl, by omega, HKE, HBL⟩
            case round =>
              clear HKE HBL y0 y1 y2 y3 y4 y5 q0
              obtain ⟨j, rfl, hj', HKE, HBL⟩ := hrel
              obtain ⟨y0, y1, y2, y3, y4, y5⟩ := HC6.out wr (HCX.out wr HBL.out)
              have q0 := HQW.out wr HBL.out
              go_wp2_with fail
              refine Calls.mono (HPC.out wr HBL.out) ?_
              rintro e w4 ⟨rfl, hw4⟩
              have hw4' := hw4.symm
              subst hw4'
              clear hw4
              cases gk with
              | zero =>
                have hltj : ¬ (j : Int) < (p : Int) := by omega
                have HE0 : Hid (EB b = 0) := HKE.out
                have HRB2 : Hid (r = firstNZ EB (b + 1) g) := HRB.out.trans (firstNZ_step EB b g (by rw [HE0.out]; rfl))
                go_wp2_with fail
                go_roundg g
                case measure => omega
                case rel => exact ⟨b + 1, by go_num, by omega, HRB2, HBL⟩
              | succ g2 =>
                have hltj : (j : Int) < (p : Int) := by omega
                have hjM : (j : Int) < (M : Int) := by omega
                have hjN : j < bl.length := by have := HM.out; omega
                have hgx : bl[j]? = some bl[j] := List.getElem?_eq_getElem hjN
                generalize bl[j] = x at hgx
                have HGX : Hid (bl[j]? = some x) := hgx
                obtain ⟨gi, oi, cs, rfl, hgi, hcs, ⟨vd, va, vt, rfl, hds, has, hts, _⟩, hcl⟩ := Lies.at (Blk.below HVK.out ((HBX.out wr HBL.out).mono HBW.out)) hgx
                have i0 := hcl 0 (by decide)
                have i1 := hcl 1 (by decide)
                have i2 := hcl 2 (by decide)
                have i3 := hcl 3 (by decide)
                have i4 := hcl 4 (by decide)
                have i5 := hcl 5 (by decide)
                simp at i0 i1 i2 i3 i4 i5
                obtain ⟨ad, cd, rfl⟩ := Lies.slice hds
                obtain ⟨aa, ca, rfl⟩ := Lies.slice has
                obtain ⟨at_, ct, rfl⟩ := Lies.slice hts
                have HDS : Hid (_) := hds
                have HAS : Hid (_) := has
                have hdl := hds.len
                have hasl := has.len
                have htl := hts.len
                unfold maxLen at hdl hasl htl
                clear hcl hcs hgx hds has hts
                go_upto_region 18 with fail
                obtain ⟨O, hO⟩ : ∃ O, O = (.cells #[.int .i64 x.op, .slice ad x.ds.length cd, .slice aa x.ar.length ca, .int .i64 x.n, .string ⟨x.s.toArray⟩, .slice at_ x.to.length ct] 37 : Obj) := ⟨_, rfl⟩
                rw [← hO]
                obtain ⟨gx, hgx⟩ : ∃ gx, gx = wr.heap.size := ⟨_, rfl⟩
                obtain ⟨W4, hW4⟩ : ∃ W4, W4 = wr.alloc O := ⟨_, rfl⟩
                have hx : W4.heap[gx]? = some O := by rw [hW4, hgx]; exact heap_alloc_new wr O
                have hSw : S ≤ wr.heap.size := by have h1 := HBL.out.size; have h2 := HSE.out; omega
                have HSW : Hid (S ≤ wr.heap.size) := hSw
                have hBxw : Below wr.heap.size wr W4 := by rw [hW4]; exact below_alloc _ _
                have hB4 : Below S w3 W4 := HBL.out.trans (hBxw.mono hSw)
                rw [← hgx, ← hW4]
                rw [hO] at hx
                obtain ⟨_, x1, x2, _, _, x5⟩ := cells6 hx
                have HX : Hid (_) := hx
                have HB4 : Hid (Below S w3 W4) := hB4
                have HBX4 : Hid (Below wr.heap.size wr W4) := hBxw
                have hBw : B ≤ wr.heap.size := Nat.le_trans HBW.out (Nat.le_trans HWS.out hSw)
                have HDS2 : Hid (Nums B W4 _ x.ds) := Nums.below HDS.out (hBxw.mono hBw)
                have HAS2 : Hid (Nums B W4 _ x.ar) := Nums.below HAS.out (hBxw.mono hBw)
                have HBSW : Hid (B ≤ W4.heap.size) := Nat.le_trans hBw hBxw.size
                obtain ⟨al, hal⟩ : ∃ al, AH[b]? = some al := ⟨_, List.getElem?_eq_getElem (by rw [HAL.out]; exact HBN.out)⟩
                have HLA : Hid (al.length = na) := by unfold Hid; rw [HNA.out, List.getD_eq_getElem?_getD, hal]; rfl
                obtain ⟨g8, o8, cs, rfl, _, _, ⟨va8, rfl, hva8⟩, hcl⟩ := Lies.at (Rws.below HR8.out hB4) hal
                obtain ⟨au, ku, rfl⟩ := Lies.slice hva8
                have k8c := hcl 0 (by decide)
                simp at k8c
                rw [HLA.out] at k8c
                have HE : Hid (EK j = phiE c.vars na b x) := by unfold Hid; rw [HEK.out]; simp [HGX.out]
                have hnal : na ≤ 9223372036854775807 := by have := hva8.len; rw [HLA.out] at this; unfold maxLen at this; omega
                clear hal hcl hva8 hO hW4 hgx hx hBxw hB4 hSw hBw i0 i1 i2 i3 i4 i5 y0 y1 y2 y3 y4 y5 q0
                by_cases hc : (x.ds.length != 1 || x.ar.length != na || x.to.length != 0) = true
                · have HEE : Hid (RR = 10) := by
                    have h1 : phiE c.vars na b x = 10 := by unfold phiE; rw [if_pos hc]
                    have h2 : EB b = 10 := by rw [HKE.out, firstNZ_hit EK j g2 (by rw [HE.out, h1]; rfl), HE.out, h1]
                    exact HRT.out 10 (HRB.out.trans ((firstNZ_hit EB b g (by rw [h2]; rfl)).trans h2)) rfl
                  by_cases hd1 : x.ds.length = 1
                  · have hd1' : ((x.ds.length : Int) != 1) = false := by simp; omega
                    by_cases ha1 : x.ar.length = na
                    · have ha1' : ((x.ar.length : Int) != (na : Int)) = false := by simp; omega
                      have ht1 : (0 : Int) < (x.to.length : Int) := by
                        simp [hd1, ha1] at hc
                        have : 0 < x.to.length := List.length_pos_iff.2 hc
                        omega
                      clear hc
                      go_quiet (fail)
                      go_wp2_with fail
                      go_ret
                      exact ⟨by rw [HEE.out]; rfl, HBX.out _ (below_drewN HB4.out nq)⟩
                    · have ha1' : ((x.ar.length : Int) != (na : Int)) = true := by simp; omega
                      clear hc
                      go_quiet (fail)
                      go_wp2_with fail
                      go_ret
                      exact ⟨by rw [HEE.out]; rfl, HBX.out _ (below_drewN HB4.out nq)⟩
                  · have hd1' : ((x.ds.length : Int) != 1) = true := by simp; omega
                    clear hc
                    go_quiet (fail)
                    go_wp2_with fail
                    go_ret
                    exact ⟨by rw [HEE.out]; rfl, HBX.out _ (below_drewN HB4.out nq)⟩
                · have hd1 : x.ds.length = 1 := by
                    by_cases h : x.ds.length = 1
                    · exact h
                    · exact absurd (by simp [h]) hc
                  have ha1 : x.ar.length = na := by
                    by_cases h : x.ar.length = na
                    · exact h
                    · exact absurd (by simp [h]) hc
                  have ht1 : x.to.length = 0 := by
                    by_cases h : x.to.length = 0
                    · exact h
                    · exact absurd (by simp [h]) hc
                  have hd1' : ((x.ds.length : Int) != 1) = false := by rw [hd1]; rfl
                  have ha1' : ((x.ar.length : Int) != (na : Int)) = false := by rw [ha1]; simp
                  have ht1' : ¬ (0 : Int) < (x.to.length : Int) := by omega
                  have HF : Hid (phiE c.vars na b x = if (!belowB c.vars x.ds || !belowB c.vars x.ar) = true then 2 else if b == 0 then 4 else 0) := by
                    unfold Hid phiE; rw [if_neg hc]
                  have HA1 : Hid (x.ar.length = na) := ha1
                  clear hc hd1 ha1 ht1
                  go_quiet (fail)
                  obtain ⟨W5, hW5⟩ : ∃ W5, W5 = W4.drewN nq := ⟨_, rfl⟩
                  rw [← hW5]
                  have hB5 : Below S w3 W5 := by rw [hW5]; exact below_drewN HB4.out nq
                  have hBwW : Below W4.heap.size W4 W5 := by rw [hW5]; exact below_drewN (Below.refl _ _) nq
                  have hxx : W5.heap[gx]? = _ := (hBwW.block gx (lt_of_block HX.out)).trans HX.out
                  have HB5 : Hid (Below S w3 W5) := hB5
                  have HBF : Hid (Below w.heap.size w W5) := HBX.out _ hB5
                  have HC1 : Hid (Calls Tryd.prog 10 #[.slice ad x.ds.length cd, .int .i64 0, .int .i64 (c.vars - 1)] W5 fun e w' => e = .returned (.bool (belowB c.vars x.ds)) ∧ w' = W5) := by
                    rw [← allB_below]; exact allIn_any _ B _ _ _ (Nums.below HDS2.out (hBwW.mono HBSW.out))
                  have HC2 : Hid (Calls Tryd.prog 10 #[.slice aa na ca, .int .i64 0, .int .i64 (c.vars - 1)] W5 fun e w' => e = .returned (.bool (belowB c.vars x.ar)) ∧ w' = W5) := by
                    have h := HAS2.out
                    rw [HA1.out] at h
                    rw [← allB_below]; exact allIn_any _ B _ _ _ (Nums.below h (hBwW.mono HBSW.out))
                  obtain ⟨_, z1, z2, _, _, z5⟩ := cells6 hxx
                  rw [HA1.out] at z2
                  obtain ⟨y0, y1, y2, y3, y4, y5⟩ := HC6.out W5 (HCX.out W5 hB5)
                  have hwv := HWV.out
                  clear hW5 hB5 hBwW hxx x1 x2 x5 k8c
                  go_wp2_with fail
                  refine Calls.mono HC1.out ?_
                  rintro e w6 ⟨rfl, hw6⟩
                  have hw6' := hw6.symm
                  subst hw6'
                  rcases hq1 : belowB c.vars x.ds with _ | _
                  · have HEE : Hid (RR = 2) := by
                      have h1 : phiE c.vars na b x = 2 := by rw [HF.out, hq1]; rfl
                      have h2 : EB b = 2 := by rw [HKE.out, firstNZ_hit EK j g2 (by rw [HE.out, h1]; rfl), HE.out, h1]
                      exact HRT.out 2 (HRB.out.trans ((firstNZ_hit EB b g (by rw [h2]; rfl)).trans h2)) rfl
                    go_wp2_with fail
                    go_ret
                    exact ⟨by rw [HEE.out]; rfl, HBF.out⟩
                  · go_wp2_with fail
                    refine Calls.mono HC2.out ?_
                    rintro e w6 ⟨rfl, hw6⟩
                    have hw6' := hw6.symm
                    subst hw6'
                    rcases hq2 : belowB c.vars x.ar with _ | _
                    · have HEE : Hid (RR = 2) := by
                        have h1 : phiE c.vars na b x = 2 := by rw [HF.out, hq2]; simp
                        have h2 : EB b = 2 := by rw [HKE.out, firstNZ_hit EK j g2 (by rw [HE.out, h1]; rfl), HE.out, h1]
                        exact HRT.out 2 (HRB.out.trans ((firstNZ_hit EB b g (by rw [h2]; rfl)).trans h2)) rfl
                      go_wp2_with fail
                      go_ret
                      exact ⟨by rw [HEE.out]; rfl, HBF.out⟩
                    · have HFF : Hid (phiE c.vars na b x = if b == 0 then 4 else 0) := by unfold Hid; rw [HF.out, hq1, hq2]; rfl
                      by_cases hb0 : b = 0
                      · have hbz : ((b : Int) == 0) = true := by simp [hb0]
                        have HEE : Hid (RR = 4) := by
                          have h1 : phiE c.vars na b x = 4 := by rw [HFF.out, hb0]; rfl
                          have h2 : EB b = 4 := by rw [HKE.out, firstNZ_hit EK j g2 (by rw [HE.out, h1]; rfl), HE.out, h1]
                          exact HRT.out 4 (HRB.out.trans ((firstNZ_hit EB b g (by rw [h2]; rfl)).trans h2)) rfl
                        clear hb0
                        go_wp2_with fail
                        go_ret
                        exact ⟨by rw [HEE.out]; rfl, HBF.out⟩
                      · have hbz : ((b : Int) == 0) = false := by simp [hb0]
                        have HKE2 : Hid (EB b = firstNZ EK (j + 1) g2) := by
                          have h1 : phiE c.vars na b x = 0 := by rw [HFF.out]; simp [hb0]
                          exact HKE.out.trans (firstNZ_step EK j g2 (by rw [HE.out, h1]; rfl))
                        go_wp2_with fail
                        go_roundg g2
                        case measure => omega
                        case rel => exact ⟨j + 1, by go_num, by omega, HKE2, HB5⟩
      · have HRE : Hid (RR = r1) := by unfold Hid; rw [HRR.out]; unfold checkS; rw [← HR1.out, hr]; rfl
        go_wp2_with fail
        go_ret
        exact ⟨by rw [HRE.out]; rfl, HB12.out⟩
    | succ g =>
      have hlt : (b : Int) < (n : Int) := by omega
      have hbn : b < n := by omega
      have hget : c.blocks[b]? = some c.blocks[b] := List.getElem?_eq_getElem (by have := HN.out; omega)
      generalize c.blocks[b] = bl at hget
      have HG : Hid (c.blocks[b]? = some bl) := hget
      obtain ⟨gb, ob, cs, rfl, hgb, _, ⟨vk, rfl, hvk⟩, hcl⟩ := Lies.at HBK.out hget
      obtain ⟨ak, ck, rfl⟩ := Lies.slice hvk
      have qw := hcl 0 (by decide)
      simp at qw
      have hbl := hvk.len
      unfold maxLen at hbl
      obtain ⟨L, hL⟩ : ∃ L, L = bl.length := ⟨_, rfl⟩
      have HL : Hid (L = bl.length) := hL
      rw [← hL] at hbl hvk qw
      have hck : L ≤ ck := by
        obtain ⟨a4, l4, k4, h1, h2⟩ := HCP.out gb ob n k3 b rfl (by have := HN.out; omega)
        rw [qw] at h1; cases h1; exact h2
      have HVK : Hid (Blk B w (.slice ak L ck) bl) := hvk
      obtain ⟨p, hp⟩ : ∃ p, p = phiN bl := ⟨_, rfl⟩
      have HP : Hid (p = phiN bl) := hp
      have hpl : p ≤ L := by rw [hp, hL]; exact phiN_le bl
      have hpI : (p : Int) ≤ (L : Int) := by omega
      have HPC : Hid (Calls Tryd.prog 7 #[.slice ak L ck] wr.drew fun e w' => e = .returned (.int .i64 (p : Nat)) ∧ w' = wr.drew) := by
        rw [hp]
        exact phisRef_any bl _ _ _ (Blk.below HVK.out (HQ.out.bel.drew.mono HBW.out))
      have hgbP : gb < P := by have := HBW.out; have := HPE.out; omega
      have q1 : wr.cell? ⟨gb, ob + b, none⟩ = some (.slice ak L ck) := (HQ.out.bel.cell (p := ⟨gb, ob + b, none⟩) (by show gb < _; have := HPE.out; omega)).trans qw
      have HS0 : Hid (wr.drew.cell? ⟨P + 1, 5, none⟩ = some (.slice (some ⟨gb, ob, none⟩) n k3) ∧ wr.drew.cell? ⟨gb, ob + b, none⟩ = some (.slice ak L ck)) := ⟨y5, q1⟩
      have x5 : wr.drew.cell? ⟨P + 1 + 1, 5, none⟩ = some v := (cells6 HQ.out.hq).2.2.2.2.2
      have hXP : P + 3 ≤ wr.heap.size := HQ.out.sz
      have HALL : Hid (∀ uS : Value, uS.oneCell' = true → Blk w.heap.size w uS (dropP bl) → ∃ W2 : World, Hid (W2 = (wr.alloc (.cells #[uS] 32)).drew) ∧ W2.cell? ⟨P + 1 + 1, 5, none⟩ = some v ∧ Hid (W2.cell? ⟨P + 1, 5, none⟩ = some (.slice (some ⟨gb, ob, none⟩) n k3) ∧ W2.cell? ⟨gb, ob + b, none⟩ = some (.slice ak L ck)) ∧ Hid (W2.ownsRow (P + 3) 32 1 v b vs) ∧ Hid (∀ (j : Nat) (u : Value), [uS][j]? = some u → W2.cell? ((⟨wr.heap.size, 0, none⟩ : Addr).add j) = some u) ∧ Hid (∀ u ∈ [uS], u.oneCell' = true) ∧ Hid (P + 3 ≤ W2.heap.size) ∧ Hid (W2.heap.size = wr.heap.size + 1) ∧
          Hid (∀ w1 : World, W2.grownBy w1 v.ownBlock → w1.cell? ⟨P + 1, 5, none⟩ = some (.slice (some ⟨gb, ob, none⟩) n k3) ∧ w1.cell? ⟨gb, ob + b, none⟩ = some (.slice ak L ck)) ∧
          Hid (∀ w1 : World, W2.grownBy w1 v.ownBlock → w1.cell? ⟨P + 1 + 1, 5, none⟩ = some v ∧ w1.frozen? ⟨P + 1 + 1, 5, none⟩ = false) ∧
          Hid (∀ (g cap : Nat) (w1 : World), w1.ownsRow (P + 3) 32 1 (.slice (some ⟨g, 0, none⟩) (b + 1) cap) (b + 1) (vs ++ [uS]) → W2.grownBy w1 v.ownBlock → QN w (w1.setCell ⟨P + 1 + 1, 5, none⟩ (.slice (some ⟨g, 0, none⟩) (b + 1) cap)) P (b + 1) c po co (.slice (some ⟨g, 0, none⟩) (b + 1) cap) (vs ++ [uS]))) := fun uS hone hu => by
        have ha : Below wr.heap.size wr (wr.alloc (.cells #[uS] 32)).drew := (below_alloc wr _).drew
        have hv : ∀ k, v.ownBlock = some k → P + 3 ≤ k := fun k e => (own_lt HQ.out.own e).1
        have hsz1 : (wr.alloc (.cells #[uS] 32)).heap.size = wr.heap.size + 1 := by simp
        have hsz2 : (wr.alloc (.cells #[uS] 32)).drew.heap.size = wr.heap.size + 1 := hsz1
        refine ⟨_, rfl, ?_, ⟨?_, ?_⟩, ?_, ?_, ?_, ?_, hsz2, fun w1 hg => ?_, fun w1 hg => ?_, fun g cap w1 hown hg => ?_⟩
        · exact (ha.cell (p := ⟨P + 1 + 1, 5, none⟩) (by show P + 1 + 1 < _; omega)).trans x5
        · exact (ha.cell (p := ⟨P + 1, 5, none⟩) (by show P + 1 < _; omega)).trans y5
        · exact (ha.cell (p := ⟨gb, ob + b, none⟩) (by show gb < _; omega)).trans q1
        · exact own_same HQ.out.own fun g hg => ha.block g (own_lt HQ.out.own hg).2
        · intro j u hj
          have hj0 : j = 0 := by
            rcases Nat.eq_zero_or_pos j with h | h
            · exact h
            · rw [List.getElem?_eq_none (by simp; omega)] at hj; cases hj
          subst hj0
          simp at hj
          subst hj
          exact new_cell wr _ _
        · intro u hu2
          have : u = uS := by simpa using hu2
          rw [this]; exact hone
        · exact (by rw [hsz2]; omega : P + 3 ≤ (wr.alloc (.cells #[uS] 32)).drew.heap.size)
        · have hk : ∀ k, k < P + 3 → w1.heap[k]? = wr.heap[k]? := fun k h2 => (hg.block k (by omega) (fun e => by have := hv k e.symm; omega)).trans (ha.block k (by omega))
          exact ⟨(World.cell?_of_block (hk (P + 1) (by omega))).trans y5, (World.cell?_of_block (hk gb (by omega))).trans q1⟩
        · have hk : ∀ k, k < P + 3 → w1.heap[k]? = wr.heap[k]? := fun k h2 => (hg.block k (by omega) (fun e => by have := hv k e.symm; omega)).trans (ha.block k (by omega))
          have h2 := (hk (P + 2) (by omega)).trans HQ.out.hq
          exact ⟨(cells6 h2).2.2.2.2.2, thawA h2 5⟩
        · exact HQ.out.push HPE.out HG.out hu ha hown hg
      have HU1 : Hid (Blk w.heap.size w (.slice (Option.map (fun x => x.add (p * 6)) ak) (L - p) (ck - p)) (dropP bl)) := by
        have h := Lies.tail' (k := p) HVK.out hpl (ck - p)
        unfold dropP
        rw [← HP.out]
        exact Blk.up h HBW.out
      have HU2 : Hid (ck = p → Blk w.heap.size w (.slice ak (L - p) 0) (dropP bl)) := fun e => by
        have h1 : L - p = 0 := by omega
        have h2 : dropP bl = [] := by unfold dropP; rw [← HP.out]; exact List.drop_eq_nil_of_le (by have := HL.out; omega)
        rw [h1, h2]; exact lies_nil _ _
      clear hcl hget hvk hp hL qw
      by_cases hcp0 : ck = p
      · have HU3 : Hid (Blk w.heap.size w (.slice ak 0 0) (dropP bl)) := by have h := HU2.out hcp0; rw [show L - p = 0 by omega] at h; exact h
        subst hcp0
        obtain ⟨uS, huS⟩ : ∃ uS, uS = (.slice ak 0 0 : Value) := ⟨_, rfl⟩
        obtain ⟨W2, HW2E, x6, HSW, HOW, HNX, HONE, HBX, HSX, HSG, HQX, HQN⟩ := HALL.out uS (by rw [huS]; rfl) (by rw [huS]; exact HU3.out)
        go_upto_region 6 with fail
        refine wp_region_noPanic ?_
        refine wp_region_held_drew (S := (fun w' => w'.cell? ⟨P + 1, 5, none⟩ = some (.slice (some ⟨gb, ob, none⟩) n k3) ∧ w'.cell? ⟨gb, ob + b, none⟩ = some (.slice ak L ck))) (by kernel_rfl) HS0.out ?_
        intro HS
        refine wpAnyH_take (i := 0) (v := ?_) (by simp only [List.getElem?_toArray, List.getElem?_cons_succ, List.getElem?_cons_zero]; rfl) (by kernel_rfl) (by kernel_rfl) (by kernel_rfl) (fun _ _ _ h => h) (Or.inl ⟨by rfl, ?_⟩) HS ?_
        rotate_left
        · intro wz hSw
          try dsimp only at hSw
          obtain ⟨e0, e1⟩ := hSw
          go_simp
          try with_reducible rfl
        try simp only [Act.put, List.setIfInBounds_toArray, List.set_cons_zero, List.set_cons_succ]
        refine wpAnyH_take (i := 2) (v := ?_) (by simp only [List.getElem?_toArray, List.getElem?_cons_succ, List.getElem?_cons_zero]; rfl) (by kernel_rfl) (by kernel_rfl) (by kernel_rfl) (fun _ _ _ h => h) (Or.inl ⟨by rfl, ?_⟩) HS ?_
        rotate_left
        · intro wz hSw
          try dsimp only at hSw
          obtain ⟨e0, e1⟩ := hSw
          go_simp
          try with_reducible rfl
        try simp only [Act.put, List.setIfInBounds_toArray, List.set_cons_zero, List.set_cons_succ]
        refine wpAnyH_take (i := 3) (v := ?_) (by simp only [List.getElem?_toArray, List.getElem?_cons_succ, List.getElem?_cons_zero]; rfl) (by kernel_rfl) (by kernel_rfl) (by kernel_rfl) (fun _ _ _ h => h) (Or.inl ⟨by rfl, ?_⟩) HS ?_
        rotate_left
        · intro wz hSw
          try dsimp only at hSw
          obtain ⟨e0, e1⟩ := hSw
          go_simp
          try with_reducible rfl
        try simp only [Act.put, List.setIfInBounds_toArray, List.set_cons_zero, List.set_cons_succ]
        refine wpAnyH_take (i := 4) (v := ?_) (by simp only [List.getElem?_toArray, List.getElem?_cons_succ, List.getElem?_cons_zero]; rfl) (by kernel_rfl) (by kernel_rfl) (by kernel_rfl) (fun _ _ _ h => h) (Or.inl ⟨by rfl, ?_⟩) HS ?_
        rotate_left
        · intro wz hSw
          try dsimp only at hSw
          obtain ⟨e0, e1⟩ := hSw
          go_simp
          try with_reducible rfl
        try simp only [Act.put, List.setIfInBounds_toArray, List.set_cons_zero, List.set_cons_succ]
        refine wpAnyH_take (i := 5) (v := ?_) (by simp only [List.getElem?_toArray, List.getElem?_cons_succ, List.getElem?_cons_zero]; rfl) (by kernel_rfl) (by kernel_rfl) (by kernel_rfl) (fun _ _ _ h => h) (Or.inl ⟨by rfl, ?_⟩) HS ?_
        rotate_left
        · intro wz hSw
          try dsimp only at hSw
          obtain ⟨e0, e1⟩ := hSw
          go_simp
          try with_reducible rfl
        try simp only [Act.put, List.setIfInBounds_toArray, List.set_cons_zero, List.set_cons_succ]
        refine wpAnyH_take (i := 6) (v := ?_) (by simp only [List.getElem?_toArray, List.getElem?_cons_succ, List.getElem?_cons_zero]; rfl) (by kernel_rfl) (by kernel_rfl) (by kernel_rfl) (fun _ _ _ h => h) (Or.inl ⟨by rfl, ?_⟩) HS ?_
        rotate_left
        · intro wz hSw
          try dsimp only at hSw
          obtain ⟨e0, e1⟩ := hSw
          go_simp
          try with_reducible rfl
        try simp only [Act.put, List.setIfInBounds_toArray, List.set_cons_zero, List.set_cons_succ]
        refine wpAnyH_take (i := 7) (v := ?_) (by simp only [List.getElem?_toArray, List.getElem?_cons_succ, List.getElem?_cons_zero]; rfl) (by kernel_rfl) (by kernel_rfl) (by kernel_rfl) (fun _ _ _ h => h) (Or.inl ⟨by rfl, ?_⟩) HS ?_
        rotate_left
        · intro wz hSw
          try dsimp only at hSw
          obtain ⟨e0, e1⟩ := hSw
          go_simp
          try with_reducible rfl
        try simp only [Act.put, List.setIfInBounds_toArray, List.set_cons_zero, List.set_cons_succ]
        refine wpAnyH_take (i := 8) (v := ?_) (by simp only [List.getElem?_toArray, List.getElem?_cons_succ, List.getElem?_cons_zero]; rfl) (by kernel_rfl) (by kernel_rfl) (by kernel_rfl) (fun _ _ _ h => h) (Or.inl ⟨by rfl, ?_⟩) HS ?_
        rotate_left
        · intro wz hSw
          try dsimp only at hSw
          obtain ⟨e0, e1⟩ := hSw
          go_simp
          try with_reducible rfl
        try simp only [Act.put, List.setIfInBounds_toArray, List.set_cons_zero, List.set_cons_succ]
        refine wpAnyH_take (i := 9) (v := ?_) (by simp only [List.getElem?_toArray, List.getElem?_cons_succ, List.getElem?_cons_zero]; rfl) (by kernel_rfl) (by kernel_rfl) (by kernel_rfl) (fun _ _ _ h => h) (Or.inl ⟨by rfl, ?_⟩) HS ?_
        rotate_left
        · intro wz hSw
          try dsimp only at hSw
          obtain ⟨e0, e1⟩ := hSw
          go_simp
          try with_reducible rfl
        try simp only [Act.put, List.setIfInBounds_toArray, List.set_cons_zero, List.set_cons_succ]
        refine wpAnyH_take (i := 10) (v := ?_) (by simp only [List.getElem?_toArray, List.getElem?_cons_succ, List.getElem?_cons_zero]; rfl) (by kernel_rfl) (by kernel_rfl) (by kernel_rfl) (fun _ _ _ h => h) (Or.inl ⟨by rfl, ?_⟩) HS ?_
        rotate_left
        · intro wz hSw
          try dsimp only at hSw
          obtain ⟨e0, e1⟩ := hSw
          go_simp
          try with_reducible rfl
        try simp only [Act.put, List.setIfInBounds_toArray, List.set_cons_zero, List.set_cons_succ]
        refine wpAnyH_take (i := 11) (v := ?_) (by simp only [List.getElem?_toArray, List.getElem?_cons_succ, List.getElem?_cons_zero]; rfl) (by kernel_rfl) (by kernel_rfl) (by kernel_rfl) (fun _ _ _ h => h) (Or.inl ⟨by rfl, ?_⟩) HS ?_
        rotate_left
        · intro wz hSw
          try dsimp only at hSw
          obtain ⟨e0, e1⟩ := hSw
          go_simp
          try with_reducible rfl
        try simp only [Act.put, List.setIfInBounds_toArray, List.set_cons_zero, List.set_cons_succ]
        refine wpAnyH_ready (rs := [1, 12]) (by kernel_rfl) (by simp) ?_
        refine AllReadyH.cons (by simp only [List.getElem?_toArray, List.getElem?_cons_succ, List.getElem?_cons_zero]; rfl) (fun K' HK => ?_) (AllReadyH.cons (by simp only [List.getElem?_toArray, List.getElem?_cons_succ, List.getElem?_cons_zero]; rfl) (fun K' HK => ?_) AllReadyH.nil)
        · go_simp
          refine HK.out _ _ HS (fun HS => ?_)
          clear HK K'
          try simp only [Act.put, List.setIfInBounds_toArray, List.set_cons_zero, List.set_cons_succ]
          refine wpAnyH_ready (rs := [12]) (by kernel_rfl) (by simp) (AllReadyH.cons (by simp only [List.getElem?_toArray, List.getElem?_cons_succ, List.getElem?_cons_zero]; rfl) (fun K' HK => ?_) AllReadyH.nil)
          go_simp
          refine Calls.mono HPC.out ?_
          rintro e w3 ⟨rfl, rfl⟩
          dsimp only
          refine HK.out _ _ HS (fun HS => ?_)
          clear HK K'
          try simp only [Act.put, List.setIfInBounds_toArray, List.set_cons_zero, List.set_cons_succ]
          refine wpAnyH_take (i := 13) (v := ?_) (by simp only [List.getElem?_toArray, List.getElem?_cons_succ, List.getElem?_cons_zero]; rfl) (by kernel_rfl) (by kernel_rfl) (by kernel_rfl) (fun _ _ _ h => h) (Or.inl ⟨by rfl, ?_⟩) HS ?_
          rotate_left
          · intro wz hSw
            try dsimp only at hSw
            obtain ⟨e0, e1⟩ := hSw
            go_simp
            try with_reducible rfl
          try simp only [Act.put, List.setIfInBounds_toArray, List.set_cons_zero, List.set_cons_succ]
          refine wpAnyH_ready (rs := [14]) (by kernel_rfl) (by simp) (AllReadyH.cons (by simp only [List.getElem?_toArray, List.getElem?_cons_succ, List.getElem?_cons_zero]; rfl) (fun K' HK => ?_) AllReadyH.nil)
          go_simp
          rw [← huS, ← HW2E.out]
          refine HK.out _ _ HSW.out (fun HS => ?_)
          clear HK K'
          try simp only [Act.put, List.setIfInBounds_toArray, List.set_cons_zero, List.set_cons_succ]
          refine wpAnyH_ready (rs := [15]) (by kernel_rfl) (by simp) (AllReadyH.cons (by simp only [List.getElem?_toArray, List.getElem?_cons_succ, List.getElem?_cons_zero]; rfl) (fun K' HK => ?_) AllReadyH.nil)
          refine step_append_lies W2 rfl (.tmp 38) (.tmp 51) 26 rfl (P + 3) 32 i0 _ 1 24 Tryd.underlying26 hi hz0 hz1 hzb rfl (by decide) v b vs (by rfl) HOW.out ⟨wr.heap.size, 0, none⟩ 1 1 [uS] (by rfl) rfl HNX.out HONE.out (by decide) (by unfold maxLen; omega) (by omega) HBX.out (wr.heap.size + 1) HSX.out ?_
          intro g' cp w1 hown hgrow hat hlt1
          have HS1 := HSG.out w1 hgrow
          have HQ : Hid (_) := HQN.out g' cp w1 hown hgrow
          obtain ⟨r0, r1⟩ := HQX.out w1 hgrow
          clear hown hgrow hat
          refine HK.out _ _ HS1 (fun HS => ?_)
          clear HK K'
          try simp only [Act.put, List.setIfInBounds_toArray, List.set_cons_zero, List.set_cons_succ]
          refine wpAnyH_take (i := 16) (v := ?_) (by simp only [List.getElem?_toArray, List.getElem?_cons_succ, List.getElem?_cons_zero]; rfl) (by kernel_rfl) (by kernel_rfl) (by kernel_rfl) (fun _ _ _ h => h) (Or.inl ⟨by rfl, ?_⟩) HS ?_
          rotate_left
          · intro wz hSw
            try dsimp only at hSw
            obtain ⟨e0, e1⟩ := hSw
            go_simp
            try with_reducible rfl
          try simp only [Act.put, List.setIfInBounds_toArray, List.set_cons_zero, List.set_cons_succ]
          refine wpAnyH_ready (rs := [17]) (by kernel_rfl) (by simp) (AllReadyH.cons (by simp only [List.getElem?_toArray, List.getElem?_cons_succ, List.getElem?_cons_zero]; rfl) (fun K' HK => ?_) AllReadyH.nil)
          go_simp
          refine HK.out _ _ ?_ (fun HS => ?_)
          · obtain ⟨e0, e1⟩ := HS
            exact ⟨by rw [World.cell?_setCell_far _ _ _ _ (by show P + 1 + 1 ≠ P + 1; omega)]; exact e0, by rw [World.cell?_setCell_far _ _ _ _ (by show P + 1 + 1 ≠ gb; omega)]; exact e1⟩
          clear HK K'
          refine wpAnyH_done (by kernel_rfl) ?_ _
          refine NoPanic.normal ?_
          go_wp2_with fail
          go_roundg g
          case measure => omega
          case rel => exact ⟨b + 1, _, _, by go_num, by omega, HQ⟩
        · go_simp
          refine Calls.mono HPC.out ?_
          rintro e w3 ⟨rfl, rfl⟩
          dsimp only
          refine HK.out _ _ HS (fun HS => ?_)
          clear HK K'
          try simp only [Act.put, List.setIfInBounds_toArray, List.set_cons_zero, List.set_cons_succ]
          refine wpAnyH_take (i := 13) (v := ?_) (by simp only [List.getElem?_toArray, List.getElem?_cons_succ, List.getElem?_cons_zero]; rfl) (by kernel_rfl) (by kernel_rfl) (by kernel_rfl) (fun _ _ _ h => h) (Or.inl ⟨by rfl, ?_⟩) HS ?_
          rotate_left
          · intro wz hSw
            try dsimp only at hSw
            obtain ⟨e0, e1⟩ := hSw
            go_simp
            try with_reducible rfl
          try simp only [Act.put, List.setIfInBounds_toArray, List.set_cons_zero, List.set_cons_succ]
          refine wpAnyH_ready (rs := [1, 14]) (by kernel_rfl) (by simp) ?_
          refine AllReadyH.cons (by simp only [List.getElem?_toArray, List.getElem?_cons_succ, List.getElem?_cons_zero]; rfl) (fun K' HK => ?_) (AllReadyH.cons (by simp only [List.getElem?_toArray, List.getElem?_cons_succ, List.getElem?_cons_zero]; rfl) (fun K' HK => ?_) AllReadyH.nil)
          · go_simp
            refine HK.out _ _ HS (fun HS => ?_)
            clear HK K'
            try simp only [Act.put, List.setIfInBounds_toArray, List.set_cons_zero, List.set_cons_succ]
            refine wpAnyH_ready (rs := [14]) (by kernel_rfl) (by simp) (AllReadyH.cons (by simp only [List.getElem?_toArray, List.getElem?_cons_succ, List.getElem?_cons_zero]; rfl) (fun K' HK => ?_) AllReadyH.nil)
            go_simp
            rw [← huS, ← HW2E.out]
            refine HK.out _ _ HSW.out (fun HS => ?_)
            clear HK K'
            try simp only [Act.put, List.setIfInBounds_toArray, List.set_cons_zero, List.set_cons_succ]
            refine wpAnyH_ready (rs := [15]) (by kernel_rfl) (by simp) (AllReadyH.cons (by simp only [List.getElem?_toArray, List.getElem?_cons_succ, List.getElem?_cons_zero]; rfl) (fun K' HK => ?_) AllReadyH.nil)
            refine step_append_lies W2 rfl (.tmp 38) (.tmp 51) 26 rfl (P + 3) 32 i0 _ 1 24 Tryd.underlying26 hi hz0 hz1 hzb rfl (by decide) v b vs (by rfl) HOW.out ⟨wr.heap.size, 0, none⟩ 1 1 [uS] (by rfl) rfl HNX.out HONE.out (by decide) (by unfold maxLen; omega) (by omega) HBX.out (wr.heap.size + 1) HSX.out ?_
            intro g' cp w1 hown hgrow hat hlt1
            have HS1 := HSG.out w1 hgrow
            have HQ : Hid (_) := HQN.out g' cp w1 hown hgrow
            obtain ⟨r0, r1⟩ := HQX.out w1 hgrow
            clear hown hgrow hat
            refine HK.out _ _ HS1 (fun HS => ?_)
            clear HK K'
            try simp only [Act.put, List.setIfInBounds_toArray, List.set_cons_zero, List.set_cons_succ]
            refine wpAnyH_take (i := 16) (v := ?_) (by simp only [List.getElem?_toArray, List.getElem?_cons_succ, List.getElem?_cons_zero]; rfl) (by kernel_rfl) (by kernel_rfl) (by kernel_rfl) (fun _ _ _ h => h) (Or.inl ⟨by rfl, ?_⟩) HS ?_
            rotate_left
            · intro wz hSw
              try dsimp only at hSw
              obtain ⟨e0, e1⟩ := hSw
              go_simp
              try with_reducible rfl
            try simp only [Act.put, List.setIfInBounds_toArray, List.set_cons_zero, List.set_cons_succ]
            refine wpAnyH_ready (rs := [17]) (by kernel_rfl) (by simp) (AllReadyH.cons (by simp only [List.getElem?_toArray, List.getElem?_cons_succ, List.getElem?_cons_zero]; rfl) (fun K' HK => ?_) AllReadyH.nil)
            go_simp
            refine HK.out _ _ ?_ (fun HS => ?_)
            · obtain ⟨e0, e1⟩ := HS
              exact ⟨by rw [World.cell?_setCell_far _ _ _ _ (by show P + 1 + 1 ≠ P + 1; omega)]; exact e0, by rw [World.cell?_setCell_far _ _ _ _ (by show P + 1 + 1 ≠ gb; omega)]; exact e1⟩
            clear HK K'
            refine wpAnyH_done (by kernel_rfl) ?_ _
            refine NoPanic.normal ?_
            go_wp2_with fail
            go_roundg g
            case measure => omega
            case rel => exact ⟨b + 1, _, _, by go_num, by omega, HQ⟩
          · go_simp
            rw [← huS, ← HW2E.out]
            refine HK.out _ _ HSW.out (fun HS => ?_)
            clear HK K'
            try simp only [Act.put, List.setIfInBounds_toArray, List.set_cons_zero, List.set_cons_succ]
            refine wpAnyH_ready (rs := [1]) (by kernel_rfl) (by simp) (AllReadyH.cons (by simp only [List.getElem?_toArray, List.getElem?_cons_succ, List.getElem?_cons_zero]; rfl) (fun K' HK => ?_) AllReadyH.nil)
            go_simp
            refine HK.out _ _ HS (fun HS => ?_)
            clear HK K'
            try simp only [Act.put, List.setIfInBounds_toArray, List.set_cons_zero, List.set_cons_succ]
            refine wpAnyH_ready (rs := [15]) (by kernel_rfl) (by simp) (AllReadyH.cons (by simp only [List.getElem?_toArray, List.getElem?_cons_succ, List.getElem?_cons_zero]; rfl) (fun K' HK => ?_) AllReadyH.nil)
            refine step_append_lies W2 rfl (.tmp 38) (.tmp 51) 26 rfl (P + 3) 32 i0 _ 1 24 Tryd.underlying26 hi hz0 hz1 hzb rfl (by decide) v b vs (by rfl) HOW.out ⟨wr.heap.size, 0, none⟩ 1 1 [uS] (by rfl) rfl HNX.out HONE.out (by decide) (by unfold maxLen; omega) (by omega) HBX.out (wr.heap.size + 1) HSX.out ?_
            intro g' cp w1 hown hgrow hat hlt1
            have HS1 := HSG.out w1 hgrow
            have HQ : Hid (_) := HQN.out g' cp w1 hown hgrow
            obtain ⟨r0, r1⟩ := HQX.out w1 hgrow
            clear hown hgrow hat
            refine HK.out _ _ HS1 (fun HS => ?_)
            clear HK K'
            try simp only [Act.put, List.setIfInBounds_toArray, List.set_cons_zero, List.set_cons_succ]
            refine wpAnyH_take (i := 16) (v := ?_) (by simp only [List.getElem?_toArray, List.getElem?_cons_succ, List.getElem?_cons_zero]; rfl) (by kernel_rfl) (by kernel_rfl) (by kernel_rfl) (fun _ _ _ h => h) (Or.inl ⟨by rfl, ?_⟩) HS ?_
            rotate_left
            · intro wz hSw
              try dsimp only at hSw
              obtain ⟨e0, e1⟩ := hSw
              go_simp
              try with_reducible rfl
            try simp only [Act.put, List.setIfInBounds_toArray, List.set_cons_zero, List.set_cons_succ]
            refine wpAnyH_ready (rs := [17]) (by kernel_rfl) (by simp) (AllReadyH.cons (by simp only [List.getElem?_toArray, List.getElem?_cons_succ, List.getElem?_cons_zero]; rfl) (fun K' HK => ?_) AllReadyH.nil)
            go_simp
            refine HK.out _ _ ?_ (fun HS => ?_)
            · obtain ⟨e0, e1⟩ := HS
              exact ⟨by rw [World.cell?_setCell_far _ _ _ _ (by show P + 1 + 1 ≠ P + 1; omega)]; exact e0, by rw [World.cell?_setCell_far _ _ _ _ (by show P + 1 + 1 ≠ gb; omega)]; exact e1⟩
            clear HK K'
            refine wpAnyH_done (by kernel_rfl) ?_ _
            refine NoPanic.normal ?_
            go_wp2_with fail
            go_roundg g
            case measure => omega
            case rel => exact ⟨b + 1, _, _, by go_num, by omega, HQ⟩
      · obtain ⟨uS, huS⟩ : ∃ uS, uS = (.slice (Option.map (fun x => x.add (p * 6)) ak) (L - p) (ck - p) : Value) := ⟨_, rfl⟩
        obtain ⟨W2, HW2E, x6, HSW, HOW, HNX, HONE, HBX, HSX, HSG, HQX, HQN⟩ := HALL.out uS (by rw [huS]; rfl) (by rw [huS]; exact HU1.out)
        go_upto_region 6 with fail
        refine wp_region_noPanic ?_
        refine wp_region_held_drew (S := (fun w' => w'.cell? ⟨P + 1, 5, none⟩ = some (.slice (some ⟨gb, ob, none⟩) n k3) ∧ w'.cell? ⟨gb, ob + b, none⟩ = some (.slice ak L ck))) (by kernel_rfl) HS0.out ?_
        intro HS
        refine wpAnyH_take (i := 0) (v := ?_) (by simp only [List.getElem?_toArray, List.getElem?_cons_succ, List.getElem?_cons_zero]; rfl) (by kernel_rfl) (by kernel_rfl) (by kernel_rfl) (fun _ _ _ h => h) (Or.inl ⟨by rfl, ?_⟩) HS ?_
        rotate_left
        · intro wz hSw
          try dsimp only at hSw
          obtain ⟨e0, e1⟩ := hSw
          go_simp
          try with_reducible rfl
        try simp only [Act.put, List.setIfInBounds_toArray, List.set_cons_zero, List.set_cons_succ]
        refine wpAnyH_take (i := 2) (v := ?_) (by simp only [List.getElem?_toArray, List.getElem?_cons_succ, List.getElem?_cons_zero]; rfl) (by kernel_rfl) (by kernel_rfl) (by kernel_rfl) (fun _ _ _ h => h) (Or.inl ⟨by rfl, ?_⟩) HS ?_
        rotate_left
        · intro wz hSw
          try dsimp only at hSw
          obtain ⟨e0, e1⟩ := hSw
          go_simp
          try with_reducible rfl
        try simp only [Act.put, List.setIfInBounds_toArray, List.set_cons_zero, List.set_cons_succ]
        refine wpAnyH_take (i := 3) (v := ?_) (by simp only [List.getElem?_toArray, List.getElem?_cons_succ, List.getElem?_cons_zero]; rfl) (by kernel_rfl) (by kernel_rfl) (by kernel_rfl) (fun _ _ _ h => h) (Or.inl ⟨by rfl, ?_⟩) HS ?_
        rotate_left
        · intro wz hSw
          try dsimp only at hSw
          obtain ⟨e0, e1⟩ := hSw
          go_simp
          try with_reducible rfl
        try simp only [Act.put, List.setIfInBounds_toArray, List.set_cons_zero, List.set_cons_succ]
        refine wpAnyH_take (i := 4) (v := ?_) (by simp only [List.getElem?_toArray, List.getElem?_cons_succ, List.getElem?_cons_zero]; rfl) (by kernel_rfl) (by kernel_rfl) (by kernel_rfl) (fun _ _ _ h => h) (Or.inl ⟨by rfl, ?_⟩) HS ?_
        rotate_left
        · intro wz hSw
          try dsimp only at hSw
          obtain ⟨e0, e1⟩ := hSw
          go_simp
          try with_reducible rfl
        try simp only [Act.put, List.setIfInBounds_toArray, List.set_cons_zero, List.set_cons_succ]
        refine wpAnyH_take (i := 5) (v := ?_) (by simp only [List.getElem?_toArray, List.getElem?_cons_succ, List.getElem?_cons_zero]; rfl) (by kernel_rfl) (by kernel_rfl) (by kernel_rfl) (fun _ _ _ h => h) (Or.inl ⟨by rfl, ?_⟩) HS ?_
        rotate_left
        · intro wz hSw
          try dsimp only at hSw
          obtain ⟨e0, e1⟩ := hSw
          go_simp
          try with_reducible rfl
        try simp only [Act.put, List.setIfInBounds_toArray, List.set_cons_zero, List.set_cons_succ]
        refine wpAnyH_take (i := 6) (v := ?_) (by simp only [List.getElem?_toArray, List.getElem?_cons_succ, List.getElem?_cons_zero]; rfl) (by kernel_rfl) (by kernel_rfl) (by kernel_rfl) (fun _ _ _ h => h) (Or.inl ⟨by rfl, ?_⟩) HS ?_
        rotate_left
        · intro wz hSw
          try dsimp only at hSw
          obtain ⟨e0, e1⟩ := hSw
          go_simp
          try with_reducible rfl
        try simp only [Act.put, List.setIfInBounds_toArray, List.set_cons_zero, List.set_cons_succ]
        refine wpAnyH_take (i := 7) (v := ?_) (by simp only [List.getElem?_toArray, List.getElem?_cons_succ, List.getElem?_cons_zero]; rfl) (by kernel_rfl) (by kernel_rfl) (by kernel_rfl) (fun _ _ _ h => h) (Or.inl ⟨by rfl, ?_⟩) HS ?_
        rotate_left
        · intro wz hSw
          try dsimp only at hSw
          obtain ⟨e0, e1⟩ := hSw
          go_simp
          try with_reducible rfl
        try simp only [Act.put, List.setIfInBounds_toArray, List.set_cons_zero, List.set_cons_succ]
        refine wpAnyH_take (i := 8) (v := ?_) (by simp only [List.getElem?_toArray, List.getElem?_cons_succ, List.getElem?_cons_zero]; rfl) (by kernel_rfl) (by kernel_rfl) (by kernel_rfl) (fun _ _ _ h => h) (Or.inl ⟨by rfl, ?_⟩) HS ?_
        rotate_left
        · intro wz hSw
          try dsimp only at hSw
          obtain ⟨e0, e1⟩ := hSw
          go_simp
          try with_reducible rfl
        try simp only [Act.put, List.setIfInBounds_toArray, List.set_cons_zero, List.set_cons_succ]
        refine wpAnyH_take (i := 9) (v := ?_) (by simp only [List.getElem?_toArray, List.getElem?_cons_succ, List.getElem?_cons_zero]; rfl) (by kernel_rfl) (by kernel_rfl) (by kernel_rfl) (fun _ _ _ h => h) (Or.inl ⟨by rfl, ?_⟩) HS ?_
        rotate_left
        · intro wz hSw
          try dsimp only at hSw
          obtain ⟨e0, e1⟩ := hSw
          go_simp
          try with_reducible rfl
        try simp only [Act.put, List.setIfInBounds_toArray, List.set_cons_zero, List.set_cons_succ]
        refine wpAnyH_take (i := 10) (v := ?_) (by simp only [List.getElem?_toArray, List.getElem?_cons_succ, List.getElem?_cons_zero]; rfl) (by kernel_rfl) (by kernel_rfl) (by kernel_rfl) (fun _ _ _ h => h) (Or.inl ⟨by rfl, ?_⟩) HS ?_
        rotate_left
        · intro wz hSw
          try dsimp only at hSw
          obtain ⟨e0, e1⟩ := hSw
          go_simp
          try with_reducible rfl
        try simp only [Act.put, List.setIfInBounds_toArray, List.set_cons_zero, List.set_cons_succ]
        refine wpAnyH_take (i := 11) (v := ?_) (by simp only [List.getElem?_toArray, List.getElem?_cons_succ, List.getElem?_cons_zero]; rfl) (by kernel_rfl) (by kernel_rfl) (by kernel_rfl) (fun _ _ _ h => h) (Or.inl ⟨by rfl, ?_⟩) HS ?_
        rotate_left
        · intro wz hSw
          try dsimp only at hSw
          obtain ⟨e0, e1⟩ := hSw
          go_simp
          try with_reducible rfl
        try simp only [Act.put, List.setIfInBounds_toArray, List.set_cons_zero, List.set_cons_succ]
        refine wpAnyH_ready (rs := [1, 12]) (by kernel_rfl) (by simp) ?_
        refine AllReadyH.cons (by simp only [List.getElem?_toArray, List.getElem?_cons_succ, List.getElem?_cons_zero]; rfl) (fun K' HK => ?_) (AllReadyH.cons (by simp only [List.getElem?_toArray, List.getElem?_cons_succ, List.getElem?_cons_zero]; rfl) (fun K' HK => ?_) AllReadyH.nil)
        · go_simp
          refine HK.out _ _ HS (fun HS => ?_)
          clear HK K'
          try simp only [Act.put, List.setIfInBounds_toArray, List.set_cons_zero, List.set_cons_succ]
          refine wpAnyH_ready (rs := [12]) (by kernel_rfl) (by simp) (AllReadyH.cons (by simp only [List.getElem?_toArray, List.getElem?_cons_succ, List.getElem?_cons_zero]; rfl) (fun K' HK => ?_) AllReadyH.nil)
          go_simp
          refine Calls.mono HPC.out ?_
          rintro e w3 ⟨rfl, rfl⟩
          dsimp only
          refine HK.out _ _ HS (fun HS => ?_)
          clear HK K'
          try simp only [Act.put, List.setIfInBounds_toArray, List.set_cons_zero, List.set_cons_succ]
          refine wpAnyH_take (i := 13) (v := ?_) (by simp only [List.getElem?_toArray, List.getElem?_cons_succ, List.getElem?_cons_zero]; rfl) (by kernel_rfl) (by kernel_rfl) (by kernel_rfl) (fun _ _ _ h => h) (Or.inl ⟨by rfl, ?_⟩) HS ?_
          rotate_left
          · intro wz hSw
            try dsimp only at hSw
            obtain ⟨e0, e1⟩ := hSw
            go_simp
            try with_reducible rfl
          try simp only [Act.put, List.setIfInBounds_toArray, List.set_cons_zero, List.set_cons_succ]
          refine wpAnyH_ready (rs := [14]) (by kernel_rfl) (by simp) (AllReadyH.cons (by simp only [List.getElem?_toArray, List.getElem?_cons_succ, List.getElem?_cons_zero]; rfl) (fun K' HK => ?_) AllReadyH.nil)
          go_simp
          rw [← huS, ← HW2E.out]
          refine HK.out _ _ HSW.out (fun HS => ?_)
          clear HK K'
          try simp only [Act.put, List.setIfInBounds_toArray, List.set_cons_zero, List.set_cons_succ]
          refine wpAnyH_ready (rs := [15]) (by kernel_rfl) (by simp) (AllReadyH.cons (by simp only [List.getElem?_toArray, List.getElem?_cons_succ, List.getElem?_cons_zero]; rfl) (fun K' HK => ?_) AllReadyH.nil)
          refine step_append_lies W2 rfl (.tmp 38) (.tmp 51) 26 rfl (P + 3) 32 i0 _ 1 24 Tryd.underlying26 hi hz0 hz1 hzb rfl (by decide) v b vs (by rfl) HOW.out ⟨wr.heap.size, 0, none⟩ 1 1 [uS] (by rfl) rfl HNX.out HONE.out (by decide) (by unfold maxLen; omega) (by omega) HBX.out (wr.heap.size + 1) HSX.out ?_
          intro g' cp w1 hown hgrow hat hlt1
          have HS1 := HSG.out w1 hgrow
          have HQ : Hid (_) := HQN.out g' cp w1 hown hgrow
          obtain ⟨r0, r1⟩ := HQX.out w1 hgrow
          clear hown hgrow hat
          refine HK.out _ _ HS1 (fun HS => ?_)
          clear HK K'
          try simp only [Act.put, List.setIfInBounds_toArray, List.set_cons_zero, List.set_cons_succ]
          refine wpAnyH_take (i := 16) (v := ?_) (by simp only [List.getElem?_toArray, List.getElem?_cons_succ, List.getElem?_cons_zero]; rfl) (by kernel_rfl) (by kernel_rfl) (by kernel_rfl) (fun _ _ _ h => h) (Or.inl ⟨by rfl, ?_⟩) HS ?_
          rotate_left
          · intro wz hSw
            try dsimp only at hSw
            obtain ⟨e0, e1⟩ := hSw
            go_simp
            try with_reducible rfl
          try simp only [Act.put, List.setIfInBounds_toArray, List.set_cons_zero, List.set_cons_succ]
          refine wpAnyH_ready (rs := [17]) (by kernel_rfl) (by simp) (AllReadyH.cons (by simp only [List.getElem?_toArray, List.getElem?_cons_succ, List.getElem?_cons_zero]; rfl) (fun K' HK => ?_) AllReadyH.nil)
          go_simp
          refine HK.out _ _ ?_ (fun HS => ?_)
          · obtain ⟨e0, e1⟩ := HS
            exact ⟨by rw [World.cell?_setCell_far _ _ _ _ (by show P + 1 + 1 ≠ P + 1; omega)]; exact e0, by rw [World.cell?_setCell_far _ _ _ _ (by show P + 1 + 1 ≠ gb; omega)]; exact e1⟩
          clear HK K'
          refine wpAnyH_done (by kernel_rfl) ?_ _
          refine NoPanic.normal ?_
          go_wp2_with fail
          go_roundg g
          case measure => omega
          case rel => exact ⟨b + 1, _, _, by go_num, by omega, HQ⟩
        · go_simp
          refine Calls.mono HPC.out ?_
          rintro e w3 ⟨rfl, rfl⟩
          dsimp only
          refine HK.out _ _ HS (fun HS => ?_)
          clear HK K'
          try simp only [Act.put, List.setIfInBounds_toArray, List.set_cons_zero, List.set_cons_succ]
          refine wpAnyH_take (i := 13) (v := ?_) (by simp only [List.getElem?_toArray, List.getElem?_cons_succ, List.getElem?_cons_zero]; rfl) (by kernel_rfl) (by kernel_rfl) (by kernel_rfl) (fun _ _ _ h => h) (Or.inl ⟨by rfl, ?_⟩) HS ?_
          rotate_left
          · intro wz hSw
            try dsimp only at hSw
            obtain ⟨e0, e1⟩ := hSw
            go_simp
            try with_reducible rfl
          try simp only [Act.put, List.setIfInBounds_toArray, List.set_cons_zero, List.set_cons_succ]
          refine wpAnyH_ready (rs := [1, 14]) (by kernel_rfl) (by simp) ?_
          refine AllReadyH.cons (by simp only [List.getElem?_toArray, List.getElem?_cons_succ, List.getElem?_cons_zero]; rfl) (fun K' HK => ?_) (AllReadyH.cons (by simp only [List.getElem?_toArray, List.getElem?_cons_succ, List.getElem?_cons_zero]; rfl) (fun K' HK => ?_) AllReadyH.nil)
          · go_simp
            refine HK.out _ _ HS (fun HS => ?_)
            clear HK K'
            try simp only [Act.put, List.setIfInBounds_toArray, List.set_cons_zero, List.set_cons_succ]
            refine wpAnyH_ready (rs := [14]) (by kernel_rfl) (by simp) (AllReadyH.cons (by simp only [List.getElem?_toArray, List.getElem?_cons_succ, List.getElem?_cons_zero]; rfl) (fun K' HK => ?_) AllReadyH.nil)
            go_simp
            rw [← huS, ← HW2E.out]
            refine HK.out _ _ HSW.out (fun HS => ?_)
            clear HK K'
            try simp only [Act.put, List.setIfInBounds_toArray, List.set_cons_zero, List.set_cons_succ]
            refine wpAnyH_ready (rs := [15]) (by kernel_rfl) (by simp) (AllReadyH.cons (by simp only [List.getElem?_toArray, List.getElem?_cons_succ, List.getElem?_cons_zero]; rfl) (fun K' HK => ?_) AllReadyH.nil)
            refine step_append_lies W2 rfl (.tmp 38) (.tmp 51) 26 rfl (P + 3) 32 i0 _ 1 24 Tryd.underlying26 hi hz0 hz1 hzb rfl (by decide) v b vs (by rfl) HOW.out ⟨wr.heap.size, 0, none⟩ 1 1 [uS] (by rfl) rfl HNX.out HONE.out (by decide) (by unfold maxLen; omega) (by omega) HBX.out (wr.heap.size + 1) HSX.out ?_
            intro g' cp w1 hown hgrow hat hlt1
            have HS1 := HSG.out w1 hgrow
            have HQ : Hid (_) := HQN.out g' cp w1 hown hgrow
            obtain ⟨r0, r1⟩ := HQX.out w1 hgrow
            clear hown hgrow hat
            refine HK.out _ _ HS1 (fun HS => ?_)
            clear HK K'
            try simp only [Act.put, List.setIfInBounds_toArray, List.set_cons_zero, List.set_cons_succ]
            refine wpAnyH_take (i := 16) (v := ?_) (by simp only [List.getElem?_toArray, List.getElem?_cons_succ, List.getElem?_cons_zero]; rfl) (by kernel_rfl) (by kernel_rfl) (by kernel_rfl) (fun _ _ _ h => h) (Or.inl ⟨by rfl, ?_⟩) HS ?_
            rotate_left
            · intro wz hSw
              try dsimp only at hSw
              obtain ⟨e0, e1⟩ := hSw
              go_simp
              try with_reducible rfl
            try simp only [Act.put, List.setIfInBounds_toArray, List.set_cons_zero, List.set_cons_succ]
            refine wpAnyH_ready (rs := [17]) (by kernel_rfl) (by simp) (AllReadyH.cons (by simp only [List.getElem?_toArray, List.getElem?_cons_succ, List.getElem?_cons_zero]; rfl) (fun K' HK => ?_) AllReadyH.nil)
            go_simp
            refine HK.out _ _ ?_ (fun HS => ?_)
            · obtain ⟨e0, e1⟩ := HS
              exact ⟨by rw [World.cell?_setCell_far _ _ _ _ (by show P + 1 + 1 ≠ P + 1; omega)]; exact e0, by rw [World.cell?_setCell_far _ _ _ _ (by show P + 1 + 1 ≠ gb; omega)]; exact e1⟩
            clear HK K'
            refine wpAnyH_done (by kernel_rfl) ?_ _
            refine NoPanic.normal ?_
            go_wp2_with fail
            go_roundg g
            case measure => omega
            case rel => exact ⟨b + 1, _, _, by go_num, by omega, HQ⟩
          · go_simp
            rw [← huS, ← HW2E.out]
            refine HK.out _ _ HSW.out (fun HS => ?_)
            clear HK K'
            try simp only [Act.put, List.setIfInBounds_toArray, List.set_cons_zero, List.set_cons_succ]
            refine wpAnyH_ready (rs := [1]) (by kernel_rfl) (by simp) (AllReadyH.cons (by simp only [List.getElem?_toArray, List.getElem?_cons_succ, List.getElem?_cons_zero]; rfl) (fun K' HK => ?_) AllReadyH.nil)
            go_simp
            refine HK.out _ _ HS (fun HS => ?_)
            clear HK K'
            try simp only [Act.put, List.setIfInBounds_toArray, List.set_cons_zero, List.set_cons_succ]
            refine wpAnyH_ready (rs := [15]) (by kernel_rfl) (by simp) (AllReadyH.cons (by simp only [List.getElem?_toArray, List.getElem?_cons_succ, List.getElem?_cons_zero]; rfl) (fun K' HK => ?_) AllReadyH.nil)
            refine step_append_lies W2 rfl (.tmp 38) (.tmp 51) 26 rfl (P + 3) 32 i0 _ 1 24 Tryd.underlying26 hi hz0 hz1 hzb rfl (by decide) v b vs (by rfl) HOW.out ⟨wr.heap.size, 0, none⟩ 1 1 [uS] (by rfl) rfl HNX.out HONE.out (by decide) (by unfold maxLen; omega) (by omega) HBX.out (wr.heap.size + 1) HSX.out ?_
            intro g' cp w1 hown hgrow hat hlt1
            have HS1 := HSG.out w1 hgrow
            have HQ : Hid (_) := HQN.out g' cp w1 hown hgrow
            obtain ⟨r0, r1⟩ := HQX.out w1 hgrow
            clear hown hgrow hat
            refine HK.out _ _ HS1 (fun HS => ?_)
            clear HK K'
            try simp only [Act.put, List.setIfInBounds_toArray, List.set_cons_zero, List.set_cons_succ]
            refine wpAnyH_take (i := 16) (v := ?_) (by simp only [List.getElem?_toArray, List.getElem?_cons_succ, List.getElem?_cons_zero]; rfl) (by kernel_rfl) (by kernel_rfl) (by kernel_rfl) (fun _ _ _ h => h) (Or.inl ⟨by rfl, ?_⟩) HS ?_
            rotate_left
            · intro wz hSw
              try dsimp only at hSw
              obtain ⟨e0, e1⟩ := hSw
              go_simp
              try with_reducible rfl
            try simp only [Act.put, List.setIfInBounds_toArray, List.set_cons_zero, List.set_cons_succ]
            refine wpAnyH_ready (rs := [17]) (by kernel_rfl) (by simp) (AllReadyH.cons (by simp only [List.getElem?_toArray, List.getElem?_cons_succ, List.getElem?_cons_zero]; rfl) (fun K' HK => ?_) AllReadyH.nil)
            go_simp
            refine HK.out _ _ ?_ (fun HS => ?_)
            · obtain ⟨e0, e1⟩ := HS
              exact ⟨by rw [World.cell?_setCell_far _ _ _ _ (by show P + 1 + 1 ≠ P + 1; omega)]; exact e0, by rw [World.cell?_setCell_far _ _ _ _ (by show P + 1 + 1 ≠ gb; omega)]; exact e1⟩
            clear HK K'
            refine wpAnyH_done (by kernel_rfl) ?_ _
            refine NoPanic.normal ?_
            go_wp2_with fail
            go_roundg g
            case measure => omega
            case rel => exact ⟨b + 1, _, _, by go_num, by omega, HQ⟩

end Go.Proofs.YthlngmknifpbjaaDoor
