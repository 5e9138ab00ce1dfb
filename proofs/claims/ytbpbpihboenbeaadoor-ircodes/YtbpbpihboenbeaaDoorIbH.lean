/-
  The statement's own look at code.
-/
import Derived.Test.YtbpbpihboenbeaaDoorIbG
import Derived.Deep.RegionHeld3
namespace Go.Proofs.YtbpbpihboenbeaaDoor
open Go.RowKit Go.Maps
set_option linter.unusedSimpArgs false
set_option linter.unusedVariables false

theorem headF_ok {c : Cod} (h : headF c = 0) : 1 ≤ c.blocks.length ∧ c.blocks.length ≤ 2000 ∧ 0 ≤ c.vars ∧ c.vars ≤ 3000 := by
  unfold headF at h
  by_cases z0 : c.blocks.length = 0
  · rw [if_pos z0] at h; cases h
  rw [if_neg z0] at h
  by_cases z1 : (decide (2000 < c.blocks.length) || decide (3000 < c.vars) || decide (16 < c.params) || decide (16 < c.results)) = true
  · rw [if_pos z1] at h; cases h
  rw [if_neg z1] at h
  by_cases z2 : (decide (c.params < 0) || decide (c.results < 0) || decide (c.vars < c.params) || c.slots != 0) = true
  · rw [if_pos z2] at h; cases h
  simp at z1 z2
  omega

set_option maxHeartbeats 16000000 in
set_option maxRecDepth 20000 in
theorem codeR_any (c : Cod) (fs : List Cod) (vf vdt vb : Value) (B : Nat) (w : World) (hB : B ≤ w.heap.size) (hfs : Cods B w vf fs) (hvdt : ∃ a n k, vdt = .slice a n k) (hb : Blks B w vb c.blocks) :
    Calls Tryd.prog 7 #[prgV vf vdt, codV c vb] w fun e w' => e = .returned (.int .i64 (codeF fs c)) ∧ Below w.heap.size w w' := by
  have HFS : Hid (Cods B w vf fs) := hfs
  have HBK : Hid (Blks B w vb c.blocks) := hb
  have hbl := hb.len
  obtain ⟨a1, k1, rfl⟩ := Lies.slice hfs
  obtain ⟨a2, n2, k2, rfl⟩ := hvdt
  obtain ⟨a3, k3, rfl⟩ := Lies.slice hb
  obtain ⟨r, hr⟩ : ∃ r, r = codeF fs c := ⟨_, rfl⟩
  rw [← hr]
  have HR : Hid (r = codeF fs c) := hr
  obtain ⟨n, hn⟩ : ∃ n, n = c.blocks.length := ⟨_, rfl⟩
  have HN : Hid (n = c.blocks.length) := hn
  rw [← hn] at hbl HBK ⊢
  unfold maxLen at hbl
  have HHF : Hid (headF c = if n = 0 then 6 else if decide (2000 < n) || decide (3000 < c.vars) || decide (16 < c.params) || decide (16 < c.results) then 1
    else if decide (c.params < 0) || decide (c.results < 0) || decide (c.vars < c.params) || c.slots != 0 then 2 else 0) := by unfold Hid; rw [hn]; rfl
  have HRH : Hid (∀ x, headF c = x → x ≠ 0 → r = x) := fun x hx hne => by
    rw [HR.out, codeF, hx, if_pos]
    simpa using hne
  clear hfs hb hr hn
  unfold prgV codV
  obtain ⟨W, hW⟩ : ∃ W, W = (w.alloc (.cells #[.slice a1 fs.length k1, .slice a2 n2 k2] 25)).alloc (.cells #[.string ⟨c.name.toArray⟩, .int .i64 c.params, .int .i64 c.results, .int .i64 c.vars, .int .i64 c.slots, .slice a3 n k3] 28) := ⟨_, rfl⟩
  have HW : Hid (Below w.heap.size w W) := by rw [hW]; exact below_after (below_alloc _ _) (below_alloc _ _)
  have hWs : W.heap.size = w.heap.size + 2 := by rw [hW]; simp
  have HC0 : Hid (W.heap[w.heap.size]? = some (.cells #[.slice a1 fs.length k1, .slice a2 n2 k2] 25)) := by rw [hW]; exact (heap_alloc2 w _ _).1
  have HC1 : Hid (W.heap[w.heap.size + 1]? = some (.cells #[.string ⟨c.name.toArray⟩, .int .i64 c.params, .int .i64 c.results, .int .i64 c.vars, .int .i64 c.slots, .slice a3 n k3] 28)) := by rw [hW]; exact (heap_alloc2 w _ _).2
  have HWS : Hid (W = _) := hW
  clear hW
  by_cases h0 : n = 0
  · have HR2 : Hid (r = 6) := HRH.out 6 (by rw [HHF.out, if_pos h0]) (by decide)
    subst h0
    go_enter Tryd.func7, Tryd.ntmps7
    go_wp2_with fail
    go_ret
    exact ⟨by rw [HR2.out]; rfl, HWS.out ▸ HW.out⟩
  have h0b : ((n : Int) == 0) = false := beq_eq_false_iff_ne.2 (by omega)
  by_cases g1 : 2000 < n ∨ 3000 < c.vars ∨ 16 < c.params ∨ 16 < c.results
  · have HR2 : Hid (r = 1) := HRH.out 1 (by
      rw [HHF.out, if_neg h0, if_pos]
      simp
      omega) (by decide)
    by_cases g2 : 2000 < n
    · have g2I : (2000 : Int) < (n : Int) := by omega
      go_enter Tryd.func7, Tryd.ntmps7
      go_wp2_with fail
      go_ret
      exact ⟨by rw [HR2.out]; rfl, HWS.out ▸ HW.out⟩
    have g2I : ¬ (2000 : Int) < (n : Int) := by omega
    by_cases g3 : 3000 < c.vars
    · go_enter Tryd.func7, Tryd.ntmps7
      go_wp2_with fail
      go_ret
      exact ⟨by rw [HR2.out]; rfl, HWS.out ▸ HW.out⟩
    by_cases g4 : 16 < c.params
    · go_enter Tryd.func7, Tryd.ntmps7
      go_wp2_with fail
      go_ret
      exact ⟨by rw [HR2.out]; rfl, HWS.out ▸ HW.out⟩
    have g5 : 16 < c.results := by omega
    go_enter Tryd.func7, Tryd.ntmps7
    go_wp2_with fail
    go_ret
    exact ⟨by rw [HR2.out]; rfl, HWS.out ▸ HW.out⟩
  have g2I : ¬ (2000 : Int) < (n : Int) := by omega
  have g3 : ¬ 3000 < c.vars := by omega
  have g4 : ¬ 16 < c.params := by omega
  have g5 : ¬ 16 < c.results := by omega
  have HF1 : Hid ((decide (2000 < n) || decide (3000 < c.vars) || decide (16 < c.params) || decide (16 < c.results)) = false) := by unfold Hid; simp; omega
  clear g1
  by_cases k1 : c.params < 0
  · have HR2 : Hid (r = 2) := HRH.out 2 (by rw [HHF.out, if_neg h0, HF1.out, if_neg (by simp), if_pos (by simp [k1])]) (by decide)
    go_enter Tryd.func7, Tryd.ntmps7
    go_wp2_with fail
    go_ret
    exact ⟨by rw [HR2.out]; rfl, HWS.out ▸ HW.out⟩
  by_cases k2 : c.results < 0
  · have HR2 : Hid (r = 2) := HRH.out 2 (by rw [HHF.out, if_neg h0, HF1.out, if_neg (by simp), if_pos (by simp [k2])]) (by decide)
    go_enter Tryd.func7, Tryd.ntmps7
    go_wp2_with fail
    go_ret
    exact ⟨by rw [HR2.out]; rfl, HWS.out ▸ HW.out⟩
  by_cases k3 : c.vars < c.params
  · have HR2 : Hid (r = 2) := HRH.out 2 (by rw [HHF.out, if_neg h0, HF1.out, if_neg (by simp), if_pos (by simp [k3])]) (by decide)
    go_enter Tryd.func7, Tryd.ntmps7
    go_wp2_with fail
    go_ret
    exact ⟨by rw [HR2.out]; rfl, HWS.out ▸ HW.out⟩
  by_cases k4p : c.slots ≠ 0
  · have k4 : (c.slots != 0) = true := by simpa using k4p
    have HR2 : Hid (r = 2) := HRH.out 2 (by rw [HHF.out, if_neg h0, HF1.out, if_neg (by simp), if_pos (by simp [k4])]) (by decide)
    go_enter Tryd.func7, Tryd.ntmps7
    go_wp2_with fail
    go_ret
    exact ⟨by rw [HR2.out]; rfl, HWS.out ▸ HW.out⟩
  have k4 : (c.slots != 0) = false := by simpa using k4p
  have hh0 : headF c = 0 := by
    rw [HHF.out, if_neg h0, HF1.out, if_neg (by simp), if_neg]
    simp [k4]
    omega
  have hok := headF_ok hh0
  have HOK : Hid (1 ≤ c.blocks.length ∧ c.blocks.length ≤ 2000 ∧ 0 ≤ c.vars ∧ c.vars ≤ 3000) := hok
  have HR1 : Hid (r = firstNZ (blockF fs c) 0 n) := by unfold Hid; rw [HR.out, codeF, hh0, HN.out]; rfl
  have hn2 : n ≤ 2000 := by omega
  clear hh0 hok HR HHF HRH HF1
  go_enter Tryd.func7, Tryd.ntmps7
  go_wp2_with fail
  rw [← HWS.out]
  clear HWS h0b g2I g3 g4 g5 k1 k2 k3 k4 k4p
  go_loopg [5, 6] n (fun g s5 s6 wr => ∃ i : Nat, s6 = .int .i64 (i : Nat) ∧ s5 = .int .i64 (accW c.blocks i) ∧ i + g = n ∧ Hid (Below W.heap.size W wr) ∧ Hid (r = firstNZ (blockF fs c) i g))
  case atStart => exact ⟨0, rfl, rfl, by omega, Below.refl _ _, HR1⟩
  case round =>
    clear HR1
    obtain ⟨i, rfl, rfl, hig, HBL, HRI⟩ := hrel
    have hszr := HBL.out.size
    have HP0 : Hid (wr.heap[w.heap.size]? = _) := (HBL.out.block _ (by omega)).trans HC0.out
    have HP1 : Hid (wr.heap[w.heap.size + 1]? = _) := (HBL.out.block _ (by omega)).trans HC1.out
    have p1 := cells2 HP0.out
    have p2 := cells6 HP1.out
    cases gk with
    | zero =>
      have hlt : ¬ (i : Int) < (n : Int) := by omega
      have HR2 : Hid (r = 0) := HRI.out
      have HBF : Hid (Below w.heap.size w wr) := below_after HW.out HBL.out
      go_wp2_with fail
      go_ret
      exact ⟨by rw [HR2.out]; rfl, HBF.out⟩
    | succ g =>
      have hlt : (i : Int) < (n : Int) := by omega
      have hilt : i < c.blocks.length := by have := HN.out; omega
      have hgb : c.blocks[i]? = some c.blocks[i] := List.getElem?_eq_getElem hilt
      generalize c.blocks[i] = b at hgb
      have HGB : Hid (c.blocks[i]? = some b) := hgb
      have HAC : Hid (accW c.blocks (i + 1) = wrap64 (accW c.blocks i + (b.length : Int))) := accW_succ _ _ _ hgb
      obtain ⟨gb, ob, cs, rfl, hgbB, hcs, hu, hcell⟩ := Lies.at HBK.out hgb
      obtain ⟨vbi, rfl, hvbi⟩ := hu
      have HVB : Hid (Blk B w vbi b) := hvbi
      have hlb := hvbi.len
      unfold maxLen at hlb
      obtain ⟨ai, ci, rfl⟩ := Lies.slice hvbi
      have hgbl : gb < w.heap.size := by omega
      have hgbW : gb < W.heap.size := by omega
      have q0 := hcell 0 (by decide)
      simp at q0
      rw [← HW.out.cell (p := ⟨gb, ob + i, none⟩) hgbl] at q0
      have HQ0 : Hid (W.cell? ⟨gb, ob + i, none⟩ = some (.slice ai b.length ci)) := q0
      rw [← HBL.out.cell (p := ⟨gb, ob + i, none⟩) hgbW] at q0
      obtain ⟨m, hm⟩ : ∃ m, m = b.length := ⟨_, rfl⟩
      have HM : Hid (m = b.length) := hm
      rw [← hm] at q0 hlb HAC HQ0 HVB
      obtain ⟨x, hx⟩ : ∃ x, x = accW c.blocks i := ⟨_, rfl⟩
      have HX : Hid (x = accW c.blocks i) := hx
      rw [← hx] at HAC ⊢
      have HBF1 : Hid (blockF fs c i = if m = 0 then 6 else if 6000 < wrap64 (x + (m : Int)) then 1 else firstNZ (atF fs c b) 0 m) := by
        unfold Hid blockF
        rw [HGB.out]
        simp only
        rw [HAC.out, HM.out]
      have HRN : Hid (∀ y, blockF fs c i = y → y ≠ 0 → r = y) := fun y hy hne => by
        rw [HRI.out, firstNZ_hit _ _ _ (by rw [hy]; simpa using hne), hy]
      clear hgb hcell hvbi hcs hm hx
      have HBF : Hid (Below w.heap.size w wr) := below_after HW.out HBL.out
      by_cases m0 : m = 0
      · have HR2 : Hid (r = 6) := HRN.out 6 (by rw [HBF1.out, if_pos m0]) (by decide)
        have m0b : ((m : Int) == 0) = true := by simp [m0]
        go_wp2_with fail
        go_ret
        exact ⟨by rw [HR2.out]; rfl, HBF.out⟩
      have m0b : ((m : Int) == 0) = false := beq_eq_false_iff_ne.2 (by omega)
      by_cases m6 : 6000 < wrap64 (x + (m : Int))
      · have HR2 : Hid (r = 1) := HRN.out 1 (by rw [HBF1.out, if_neg m0, if_pos m6]) (by decide)
        go_wp2_with fail
        go_ret
        exact ⟨by rw [HR2.out]; rfl, HBF.out⟩
      have HBF2 : Hid (blockF fs c i = firstNZ (atF fs c b) 0 m) := by unfold Hid; rw [HBF1.out, if_neg m0, if_neg m6]
      obtain ⟨wo, hwo⟩ : ∃ wo, wo = wr := ⟨_, rfl⟩
      subst hwo
      go_wp2_with fail
      clear q0 p1 p2
      go_loopg [8] m (fun g' s8 wr => ∃ k : Nat, s8 = .int .i64 (k : Nat) ∧ k + g' = m ∧ Hid (Below W.heap.size W wr) ∧ Hid (blockF fs c i = firstNZ (atF fs c b) k g'))
      case atStart => exact ⟨0, rfl, by omega, HBL, HBF2⟩
      case round =>
        clear HBF2
        obtain ⟨k, rfl, hkg, HBI, HRK⟩ := hrel
        cases gk with
        | zero =>
          have hlt3 : ¬ (k : Int) < (m : Int) := by omega
          have HB0 : Hid (blockF fs c i = 0) := HRK.out
          have HR2 : Hid (r = firstNZ (blockF fs c) (i + 1) g) := by unfold Hid; rw [HRI.out, firstNZ_step _ _ _ (by rw [HB0.out]; rfl)]
          go_wp2_with fail
          go_roundg g
          case measure => omega
          case rel => exact ⟨i + 1, by go_num, by rw [HAC.out], by omega, HBI, HR2⟩
        | succ g' =>
          have hlt3 : (k : Int) < (m : Int) := by omega
          have hklt : k < b.length := by have := HM.out; omega
          have hgi : b[k]? = some b[k] := List.getElem?_eq_getElem hklt
          generalize b[k] = q at hgi
          have HGI : Hid (b[k]? = some q) := hgi
          obtain ⟨gi, oi, cs, rfl, hgiB, hcs, hu, hcell⟩ := Lies.at HVB.out hgi
          obtain ⟨vd, va, vt, rfl, hd, ha, ht, hsl, _⟩ := hu
          have HD : Hid (Nums B w vd q.ds) := hd
          have HA : Hid (Nums B w va q.ar) := ha
          have HT : Hid (Nums B w vt q.to) := ht
          have HSL : Hid (q.s.length ≤ maxLen) := hsl
          obtain ⟨ad, kd, rfl⟩ := Lies.slice hd
          obtain ⟨a4, k4, rfl⟩ := Lies.slice ha
          obtain ⟨a5, k5, rfl⟩ := Lies.slice ht
          have hgil : gi < w.heap.size := by omega
          have hgiW : gi < W.heap.size := by omega
          have hszi := HBI.out.size
          have HCL : Hid (∀ w', Below W.heap.size W w' → (w'.cell? ⟨gi, oi + k * 6, none⟩ = some (.int .i64 q.op) ∧ w'.cell? ⟨gi, oi + k * 6 + 1, none⟩ = some (.slice ad q.ds.length kd) ∧ w'.cell? ⟨gi, oi + k * 6 + 2, none⟩ = some (.slice a4 q.ar.length k4) ∧ w'.cell? ⟨gi, oi + k * 6 + 3, none⟩ = some (.int .i64 q.n) ∧ w'.cell? ⟨gi, oi + k * 6 + 4, none⟩ = some (.string ⟨q.s.toArray⟩) ∧ w'.cell? ⟨gi, oi + k * 6 + 5, none⟩ = some (.slice a5 q.to.length k5)) ∧ w'.cell? ⟨gb, ob + i, none⟩ = some (.slice (some ⟨gi, oi, none⟩) m ci) ∧ (w'.cell? ⟨w.heap.size, 0, none⟩ = some (.slice a1 fs.length k1) ∧ w'.cell? ⟨w.heap.size, 1, none⟩ = some (.slice a2 n2 k2)) ∧ (w'.cell? ⟨w.heap.size + 1, 0, none⟩ = some (.string ⟨c.name.toArray⟩) ∧ w'.cell? ⟨w.heap.size + 1, 1, none⟩ = some (.int .i64 c.params) ∧ w'.cell? ⟨w.heap.size + 1, 2, none⟩ = some (.int .i64 c.results) ∧ w'.cell? ⟨w.heap.size + 1, 3, none⟩ = some (.int .i64 c.vars) ∧ w'.cell? ⟨w.heap.size + 1, 4, none⟩ = some (.int .i64 c.slots) ∧ w'.cell? ⟨w.heap.size + 1, 5, none⟩ = some (.slice (some ⟨gb, ob, none⟩) n k3))) := by
            intro w' hb'
            have z0 := hcell 0 (by decide)
            have z1 := hcell 1 (by decide)
            have z2 := hcell 2 (by decide)
            have z3 := hcell 3 (by decide)
            have z4 := hcell 4 (by decide)
            have z5 := hcell 5 (by decide)
            simp at z0 z1 z2 z3 z4 z5
            have cc : ∀ o', w'.cell? ⟨gi, o', none⟩ = w.cell? ⟨gi, o', none⟩ := fun o' => (hb'.cell (p := ⟨gi, o', none⟩) hgiW).trans (HW.out.cell (p := ⟨gi, o', none⟩) hgil)
            exact ⟨⟨(cc _).trans z0, (cc _).trans z1, (cc _).trans z2, (cc _).trans z3, (cc _).trans z4, (cc _).trans z5⟩, (hb'.cell (p := ⟨gb, ob + i, none⟩) hgbW).trans HQ0.out, cells2 ((hb'.block _ (by omega)).trans HC0.out), cells6 ((hb'.block _ (by omega)).trans HC1.out)⟩
          have HAT : Hid (atF fs c b k = if (instrF fs c q != 0) = true then instrF fs c q else if (endsB q.op != ((k : Int) == (m : Int) - 1)) = true then 4 else 0) := by
            unfold Hid atF
            rw [HGI.out]
            simp only
            rw [← HM.out]
          have hcw := HCL.out wr HBI.out
          have HBD : Hid (Below W.heap.size W wr.drew) := HBI.out.drew
          have hcd := HCL.out wr.drew HBD.out
          have HDW : Hid (Below w.heap.size w wr.drew) := below_after HW.out HBD.out
          have hszd : wr.drew.heap.size = wr.heap.size := rfl
          clear hgi hcell hcs hd ha ht hsl
          have hsz1 : wr.heap.size ≥ w.heap.size + 2 := by omega
          go_wp2_with fail
          go_region_held3 (fun w' => (w'.cell? ⟨gi, oi + k * 6, none⟩ = some (.int .i64 q.op) ∧ w'.cell? ⟨gi, oi + k * 6 + 1, none⟩ = some (.slice ad q.ds.length kd) ∧ w'.cell? ⟨gi, oi + k * 6 + 2, none⟩ = some (.slice a4 q.ar.length k4) ∧ w'.cell? ⟨gi, oi + k * 6 + 3, none⟩ = some (.int .i64 q.n) ∧ w'.cell? ⟨gi, oi + k * 6 + 4, none⟩ = some (.string ⟨q.s.toArray⟩) ∧ w'.cell? ⟨gi, oi + k * 6 + 5, none⟩ = some (.slice a5 q.to.length k5)) ∧ w'.cell? ⟨gb, ob + i, none⟩ = some (.slice (some ⟨gi, oi, none⟩) m ci) ∧ (w'.cell? ⟨w.heap.size, 0, none⟩ = some (.slice a1 fs.length k1) ∧ w'.cell? ⟨w.heap.size, 1, none⟩ = some (.slice a2 n2 k2)) ∧ (w'.cell? ⟨w.heap.size + 1, 0, none⟩ = some (.string ⟨c.name.toArray⟩) ∧ w'.cell? ⟨w.heap.size + 1, 1, none⟩ = some (.int .i64 c.params) ∧ w'.cell? ⟨w.heap.size + 1, 2, none⟩ = some (.int .i64 c.results) ∧ w'.cell? ⟨w.heap.size + 1, 3, none⟩ = some (.int .i64 c.vars) ∧ w'.cell? ⟨w.heap.size + 1, 4, none⟩ = some (.int .i64 c.slots) ∧ w'.cell? ⟨w.heap.size + 1, 5, none⟩ = some (.slice (some ⟨gb, ob, none⟩) n k3))) (first | exact hcd | exact hc5)
            (first | (go_at_call 14; refine (instrR_all q.op q.ds q.ar q.n q.s q.to c fs _ _ _ _ _ _ B wr.drew (by omega) (HFS.out.below (HDW.out.mono hB)) ⟨_, _, _, rfl⟩ ⟨_, _, by rw [← HN.out]⟩ HOK.out.1 HOK.out.2.1 HOK.out.2.2.1 HOK.out.2.2.2 (HD.out.below (HDW.out.mono hB)) (HA.out.below (HDW.out.mono hB)) (HT.out.below (HDW.out.mono hB)) HSL.out).mono ?_; rintro e w5 ⟨rfl, hb5⟩; have HB5 : Hid (Below W.heap.size W w5) := HBD.out.trans (hb5.mono (by omega)); have hc5 := HCL.out w5 HB5.out; clear hb5))
          rcases h1 : (instrF fs c q == 0) with _ | _
          · have h1n : (instrF fs c q != 0) = true := by simp [bne, h1]
            have HA1 : Hid (atF fs c b k = instrF fs c q) := by unfold Hid; rw [HAT.out, if_pos h1n]
            have HR2 : Hid (r = instrF fs c q) := HRN.out _ (by rw [HRK.out, firstNZ_hit _ _ _ (by rw [HA1.out]; exact h1n), HA1.out]) (by simpa using h1n)
            have HBZ : Hid (Below w.heap.size w w5) := below_after HW.out HB5.out
            go_wp2_with fail
            go_ret
            exact ⟨by rw [HR2.out]; rfl, HBZ.out⟩
          have h1n : (instrF fs c q != 0) = false := by simp [bne, h1]
          have h1z : instrF fs c q = 0 := by simpa using h1
          have HAT2 : Hid (atF fs c b k = if (endsB q.op != ((k : Int) == (m : Int) - 1)) = true then 4 else 0) := by unfold Hid; rw [HAT.out, h1n]; rfl
          rw [h1z]
          clear h1z h1 h1n
          go_wp2_with fail
          refine (closes_any q.op _).mono ?_
          rintro e w6 ⟨rfl, hw6⟩
          have hw6' := hw6.symm
          subst hw6'
          have HBZ : Hid (Below w.heap.size w w5) := below_after HW.out HB5.out
          rcases e1 : endsB q.op with _ | _ <;> rcases e2 : ((k : Int) == (m : Int) - 1) with _ | _
          · have HA1 : Hid (atF fs c b k = 0) := by unfold Hid; rw [HAT2.out, e1, e2]; rfl
            have HR2 : Hid (blockF fs c i = firstNZ (atF fs c b) (k + 1) g') := by unfold Hid; rw [HRK.out, firstNZ_step _ _ _ (by rw [HA1.out]; rfl)]
            go_wp2_with fail
            go_roundg g'
            case measure => omega
            case rel => exact ⟨k + 1, by go_num, by omega, HB5, HR2⟩
          · have HA1 : Hid (atF fs c b k = 4) := by unfold Hid; rw [HAT2.out, e1, e2]; rfl
            have HR2 : Hid (r = 4) := HRN.out _ (by rw [HRK.out, firstNZ_hit _ _ _ (by rw [HA1.out]; rfl), HA1.out]) (by decide)
            go_wp2_with fail
            go_ret
            exact ⟨by rw [HR2.out]; rfl, HBZ.out⟩
          · have HA1 : Hid (atF fs c b k = 4) := by unfold Hid; rw [HAT2.out, e1, e2]; rfl
            have HR2 : Hid (r = 4) := HRN.out _ (by rw [HRK.out, firstNZ_hit _ _ _ (by rw [HA1.out]; rfl), HA1.out]) (by decide)
            go_wp2_with fail
            go_ret
            exact ⟨by rw [HR2.out]; rfl, HBZ.out⟩
          · have HA1 : Hid (atF fs c b k = 0) := by unfold Hid; rw [HAT2.out, e1, e2]; rfl
            have HR2 : Hid (blockF fs c i = firstNZ (atF fs c b) (k + 1) g') := by unfold Hid; rw [HRK.out, firstNZ_step _ _ _ (by rw [HA1.out]; rfl)]
            go_wp2_with fail
            go_roundg g'
            case measure => omega
            case rel => exact ⟨k + 1, by go_num, by omega, HB5, HR2⟩

end Go.Proofs.YtbpbpihboenbeaaDoor
