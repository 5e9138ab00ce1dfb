/-
  ir.Run.
-/
import Derived.Test.YtbpnfoihonehgadDoorJaO
namespace Go.Proofs.YtbpnfoihonehgadDoor
open Go.RowKit Go.Maps
set_option linter.unusedSimpArgs false
set_option linter.unusedVariables false

theorem Fit.below {w w' : World} {B nv kn : Nat} {vf vb vn : Value} {fs : List Cod} {xs : List Int} {b0 : List Ins} (h : Fit w B vf fs xs b0 nv vb vn kn) (k : Below w.heap.size w w') : Fit w' B vf fs xs b0 nv vb vn kn :=
  ⟨h.cods.below (k.mono h.bw), h.blk.below (k.mono h.bw), h.sl, h.cap, h.nv0, h.nv3, h.ix, h.lx, h.tp.below h.gB (k.mono h.bw), h.gB, h.vbs, Nat.le_trans h.bw k.size⟩

set_option maxHeartbeats 4000000 in
set_option maxRecDepth 20000 in
theorem Run_any (w : World) (B gf of_ nf kf : Nat) (vd : Value) (fs : List Cod) (xs : List Int) (room fuel : Nat) (c : Cod) (nv gb ob nb kb : Nat) (an : Option Addr) (b0 : List Ins) (kn : Nat) (r : Int) (q' : Mst)
    (hF : Fit w B (.slice (some ⟨gf, of_, none⟩) nf kf) fs xs b0 nv (.slice (some ⟨gb, ob, none⟩) nb kb) (.slice an b0.length kn) kn) (hvd : Nums B w vd xs) (hnil : vd = .slice none 0 0 ∨ 0 < xs.length) (hnf : 0 < nf)
    (hc : w.cell? ⟨gf, of_, none⟩ = some (.string ⟨c.name.toArray⟩) ∧ w.cell? ⟨gf, of_ + 1, none⟩ = some (.int .i64 c.params) ∧ w.cell? ⟨gf, of_ + 2, none⟩ = some (.int .i64 c.results) ∧ w.cell? ⟨gf, of_ + 3, none⟩ = some (.int .i64 c.vars) ∧ w.cell? ⟨gf, of_ + 4, none⟩ = some (.int .i64 c.slots) ∧ w.cell? ⟨gf, of_ + 5, none⟩ = some (.slice (some ⟨gb, ob, none⟩) nb kb))
    (hv : c.vars = (nv : Int)) (hnb : 0 < nb) (qb : w.cell? ⟨gb, ob, none⟩ = some (.slice an b0.length kn))
    (hT : TabC w) (hG : 1 < B) (hchk : programF fs xs.length = 0) (hr1 : xs.length ≤ room) (hr2 : room ≤ 20000) (hf : fuel ≤ 1000000)
    (hrun : runM fuel ⟨xs, (room : Int), [], b0, List.replicate nv 0⟩ = some (r, q')) :
    Calls Tryd.prog 6 #[prgV (.slice (some ⟨gf, of_, none⟩) nf kf) vd, .int .i64 (room : Int), .int .i64 (fuel : Int)] w fun e w' => ∃ vl, e = .returned (.tuple #[.agg #[vl, .int .i64 r], .int .i64 0]) ∧ w'.ownsRow B 9 1 vl q'.lines.length (strsL q'.lines) ∧ Below w.heap.size w w' := by
  obtain ⟨ad, kd, rfl⟩ := Lies.slice hvd
  have HF : Hid (_) := hF
  have HVD : Hid (Nums B w (.slice ad xs.length kd) xs) := hvd
  have HNIL : Hid (_) := hnil
  have HC : Hid (_) := hc
  have HV : Hid (_) := hv
  have HQB : Hid (_) := qb
  have HT : Hid (_) := hT
  have HCHK : Hid (_) := hchk
  have HRUN : Hid (_) := hrun
  have hB := hF.bw
  have hlx := hF.lx
  have hdl := hvd.len
  obtain ⟨N, hN⟩ : ∃ N, N = xs.length := ⟨_, rfl⟩
  have HN : Hid (N = xs.length) := hN
  have hr1I : (N : Int) ≤ (room : Int) := by omega
  have hr2I : (room : Int) ≤ 20000 := by omega
  have hfI : (fuel : Int) ≤ 1000000 := by omega
  have hchkI := Check_any fs (.slice (some ⟨gf, of_, none⟩) nf kf) ad xs.length kd
  rw [hchk] at hchkI
  have HCK : Hid (_) := hchkI
  have hdl2 : N ≤ maxLen := by rw [hN]; exact hdl
  rw [← hN] at HVD HNIL HCK ⊢
  clear hF hvd hnil hc hv qb hT hchk hrun hN hchkI hr1 hr2 hf hdl hlx
  obtain ⟨W, hW⟩ : ∃ W, W = (w.alloc (.cells #[.slice (some ⟨gf, of_, none⟩) nf kf, .slice ad N kd] 33)).alloc (.cells #[.slice none 0 0, .int .i64 0] 36) := ⟨_, rfl⟩
  have HWS : Hid (W = _) := hW
  have HWB : Hid (Below w.heap.size w W) := by rw [hW]; exact below_after (below_alloc _ _) (below_alloc _ _)
  have HB0 : Hid (W.heap[w.heap.size]? = some (.cells #[.slice (some ⟨gf, of_, none⟩) nf kf, .slice ad N kd] 33)) := by rw [hW]; exact (heap_alloc2 w _ _).1
  have HB1 : Hid (W.heap[w.heap.size + 1]? = some (.cells #[.slice none 0 0, .int .i64 0] 36)) := by rw [hW]; exact (heap_alloc2 w _ _).2
  have hWs : W.heap.size = w.heap.size + 2 := by rw [hW]; simp
  clear hW
  unfold prgV
  go_enter Tryd.func6, Tryd.ntmps6
  go_wp2_with fail
  rw [← HWS.out]
  unfold prgV at HCK
  refine Calls.mono (HCK.out B W (by omega) hG (TabC.below HT.out (by omega) HWB.out) (HF.out.cods.below (HWB.out.mono hB)) hdl2) ?_
  rintro e w1 ⟨rfl, hb1⟩
  have HB2 : Hid (Below W.heap.size W w1) := hb1
  have HBB : Hid (Below w.heap.size w w1) := below_after HWB.out hb1
  have s1 := hb1.size
  have p0 := cells2 ((hb1.block _ (by omega)).trans HB0.out)
  clear hb1
  go_wp2_with fail
  refine Calls.mono (newMachine_any w1 B gf of_ nf kf (.slice ad N kd) fs xs (room : Int) c nv gb ob nb kb an b0 kn (HF.out.below HBB.out) (HVD.out.below (HBB.out.mono hB)) (by rw [← HN.out]; exact HNIL.out) hnf ?_ HV.out hnb ?_) ?_
  · have hgf := World.block_lt_of_cell? w _ HC.out.1
    exact ⟨(HBB.out.cell (p := ⟨gf, of_, none⟩) hgf).trans HC.out.1, (HBB.out.cell (p := ⟨gf, of_ + 1, none⟩) hgf).trans HC.out.2.1, (HBB.out.cell (p := ⟨gf, of_ + 2, none⟩) hgf).trans HC.out.2.2.1, (HBB.out.cell (p := ⟨gf, of_ + 3, none⟩) hgf).trans HC.out.2.2.2.1, (HBB.out.cell (p := ⟨gf, of_ + 4, none⟩) hgf).trans HC.out.2.2.2.2.1, (HBB.out.cell (p := ⟨gf, of_ + 5, none⟩) hgf).trans HC.out.2.2.2.2.2⟩
  · exact (HBB.out.cell (p := ⟨gb, ob, none⟩) (World.block_lt_of_cell? w _ HQB.out)).trans HQB.out
  rintro e w2 ⟨m, rfl, col, vh, vc, vv, mp, hM, hb2, hcol⟩
  have HM : Hid (_) := hM
  have HBM : Hid (Below w1.heap.size w1 w2) := hb2
  have HCOL : Hid (_) := hcol
  have s2 := hb2.size
  clear hM hb2 hcol p0
  go_wp2_with fail
  refine Calls.mono (run_any HM.out fuel (by omega) r q' HRUN.out) ?_
  rintro e w3 ⟨rfl, hfin⟩
  obtain ⟨col', vl, hl4, hown, hfr, hm3, hB3, hcl4⟩ := hfin
  obtain ⟨al, kl, rfl⟩ := own_slice hown
  have HOWN : Hid (_) := hown
  have HFR : Hid (Fr w2 col w3 col') := hfr
  have hk1 : w3.heap[w.heap.size + 1]? = some (.cells #[.slice none 0 0, .int .i64 0] 36) := (hfr.block _ (by omega) (HCOL.out _ (by omega))).1.trans ((HBM.out.block _ (by omega)).trans ((HB2.out.block _ (by omega)).trans HB1.out))
  have p1 := cells2 hk1
  have pz := thaw7 hk1
  have HK1 : Hid (_) := hk1
  have s3 := hfr.size
  have HNE : Hid (∀ k, (Value.slice al q'.lines.length kl).ownBlock = some k → k ≠ w.heap.size + 1) := by
    intro k hk e
    have h1 := hcl4 k hk
    have h2 := (hfr.block _ (by omega) (HCOL.out (w.heap.size + 1) (by omega))).2
    rw [e, h2] at h1
    cases h1
  have HBW : Hid (Below w.heap.size w w3) := ⟨hfr.os.trans (HBM.out.os.trans HBB.out.os), hfr.tape.trans (HBM.out.tape.trans HBB.out.tape), hfr.output.trans (HBM.out.output.trans HBB.out.output), by have := HBB.out.size; omega, fun k hk => ((hfr.block k (by omega) (HCOL.out k (by omega))).1.trans (HBM.out.block k (by omega))).trans (HBB.out.block k hk)⟩
  clear hfr hown hk1 hcl4
  go_wp2_with fail
  have hlt3 : w.heap.size + 1 < w3.heap.size := lt_of_block HK1.out
  refine bodyPost_ret (v := .tuple #[.agg #[.slice al q'.lines.length kl, .int .i64 r], .int .i64 0]) (by simp [results, Tryd.results6, go_sem, p1, pz]) rfl ⟨_, rfl, ?_, ?_⟩
  · exact own_same HOWN.out fun g hg => (Below.heap_setCell _ _ _ _ (fun e => HNE.out g hg e)).trans (Below.heap_setCell _ _ _ _ (fun e => HNE.out g hg e))
  · exact HBW.out.trans ((below_set w3 (Nat.le_succ _) _).trans (below_set _ (Nat.le_succ _) _))

end Go.Proofs.YtbpnfoihonehgadDoor
