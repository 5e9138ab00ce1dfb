/-
  Package ssa: check.
-/
import Derived.Test.YthlngmknifpbjaaDoorJSsLa
import Derived.Test.YthlngmknifpbjaaDoorSoPc
namespace Go.Proofs.YthlngmknifpbjaaDoor
open Go.RowKit
set_option linter.unusedSimpArgs false
set_option linter.unusedVariables false

set_option maxHeartbeats 4000000 in
set_option maxRecDepth 20000 in
theorem check_any (c : Cod) (fs : List Cod) (vf vd vb : Value) (B : Nat) (w : World) (hB : B ≤ w.heap.size) (hG : 0 < B) (hT : TabC w) (hfs : Cods B w vf fs) (hvd : ∃ a n k, vd = .slice a n k) (hb : Blks B w vb c.blocks) (hcp : BCap w vb c.blocks) (hsz : c.blocks.length * 24 ≤ 140737488351232) :
    Calls Tryd.prog 6 #[prgV vf vd, codV c vb] w fun e w' => e = .returned (.int .i64 (checkS fs c)) ∧ Below w.heap.size w w' := by
  obtain ⟨a1, k1, rfl⟩ := Lies.slice hfs
  obtain ⟨a2, n2, k2, rfl⟩ := hvd
  obtain ⟨a3, k3, rfl⟩ := Lies.slice hb
  obtain ⟨n, hn⟩ : ∃ n, n = c.blocks.length := ⟨_, rfl⟩
  rw [← hn] at hb hcp ⊢
  have HN : Hid (n = c.blocks.length) := hn
  have HFS : Hid (Cods B w (.slice a1 fs.length k1) fs) := hfs
  have HBK : Hid (Blks B w (.slice a3 n k3) c.blocks) := hb
  have HCP : Hid (BCap w (.slice a3 n k3) c.blocks) := hcp
  have HBW : Hid (B ≤ w.heap.size) := hB
  obtain ⟨PO, hPO⟩ : ∃ PO, PO = (.cells #[.slice a1 fs.length k1, .slice a2 n2 k2] 25 : Obj) := ⟨_, rfl⟩
  obtain ⟨CO, hCO⟩ : ∃ CO, CO = (.cells #[.string ⟨c.name.toArray⟩, .int .i64 c.params, .int .i64 c.results, .int .i64 c.vars, .int .i64 c.slots, .slice a3 n k3] 28 : Obj) := ⟨_, rfl⟩
  obtain ⟨P, hP⟩ : ∃ P, P = w.heap.size := ⟨_, rfl⟩
  obtain ⟨W, hW⟩ : ∃ W, W = (w.alloc PO).alloc CO := ⟨_, rfl⟩
  have HPE : Hid (P = w.heap.size) := hP
  have HWB : Hid (Below w.heap.size w W) := by rw [hW]; exact below_after (below_alloc _ _) (below_alloc _ _)
  have hWs : W.heap.size = P + 2 := by rw [hW, hP]; simp
  have HWZ : Hid (W.heap.size = P + 2) := hWs
  have h2 := heap_alloc2 w PO CO
  rw [← hW, ← hP] at h2
  rw [hPO, hCO] at h2
  have HP0 : Hid (W.heap[P]? = _) := h2.1
  have HC0 : Hid (W.heap[P + 1]? = _) := h2.2
  have HWE : Hid (W = (w.alloc (.cells #[.slice a1 fs.length k1, .slice a2 n2 k2] 25)).alloc (.cells #[.string ⟨c.name.toArray⟩, .int .i64 c.params, .int .i64 c.results, .int .i64 c.vars, .int .i64 c.slots, .slice a3 n k3] 28)) := by unfold Hid; rw [hW, hPO, hCO]
  have HWP : Hid (∀ (w1 : World), Below w.heap.size w w1 → Calls Tryd.prog 15 #[codV c (.slice a3 n k3)] w1 fun e w' => ∃ vn, e = .returned (codV (noPhi c) vn) ∧ Blks w'.heap.size w' vn (noPhi c).blocks ∧ Below w1.heap.size w1 w') := fun w1 h => by
    have hbl := hb
    exact withoutPhis_any c _ B w1 (Nat.le_trans hB h.size) (hb.below (h.mono hB)) hsz (hcp.below hb (h.mono hB))
  have HCC : Hid (∀ (w1 : World) (vn : Value), Below w.heap.size w w1 → Blks w1.heap.size w1 vn (noPhi c).blocks → Calls Tryd.prog 14 #[prgV (.slice a1 fs.length k1) (.slice a2 n2 k2), codV (noPhi c) vn] w1 fun e w' => e = .returned (.int .i64 (codeF fs (noPhi c))) ∧ Below w1.heap.size w1 w') := fun w1 vn h h2 => by
    rw [← code_same]
    have hBw1 := Nat.le_trans hB h.size
    exact CheckCode_any (noPhi c) fs _ _ vn w1.heap.size w1 (Nat.le_refl _) (by omega) (hT.below hG (h.mono hB)) ((hfs.below (h.mono hB)).up hBw1) ⟨_, _, _, rfl⟩ h2
  obtain ⟨r1, hr1⟩ : ∃ r1, r1 = codeF fs (noPhi c) := ⟨_, rfl⟩
  rw [← hr1] at HCC
  have HR1 : Hid (r1 = _) := hr1
  have hds : Below w.heap.size w W.drew := HWB.out.drew
  have HWD : Hid (Below w.heap.size w W.drew) := hds
  have HAF : Hid (∀ w1 : World, Below W.drew.heap.size W.drew w1 → Hid (Below w.heap.size w w1) ∧ Hid (w1.heap[P]? = W.heap[P]? ∧ w1.heap[P + 1]? = W.heap[P + 1]?) ∧ Hid (P + 2 ≤ w1.heap.size) ∧ (w1.cell? ⟨P, 0, none⟩ = some (.slice a1 fs.length k1) ∧ w1.cell? ⟨P, 1, none⟩ = some (.slice a2 n2 k2)) ∧ (w1.cell? ⟨P + 1, 0, none⟩ = some (.string ⟨c.name.toArray⟩) ∧ w1.cell? ⟨P + 1, 1, none⟩ = some (.int .i64 c.params) ∧ w1.cell? ⟨P + 1, 2, none⟩ = some (.int .i64 c.results) ∧ w1.cell? ⟨P + 1, 3, none⟩ = some (.int .i64 c.vars) ∧ w1.cell? ⟨P + 1, 4, none⟩ = some (.int .i64 c.slots) ∧ w1.cell? ⟨P + 1, 5, none⟩ = some (.slice a3 n k3))) := fun w1 h => by
    have hz := HWZ.out
    have hd : W.drew.heap.size = W.heap.size := rfl
    have k1 : w1.heap[P]? = W.heap[P]? := h.block P (by omega)
    have k2 : w1.heap[P + 1]? = W.heap[P + 1]? := h.block (P + 1) (by omega)
    have h3 := h.size
    have h4 : P + 2 ≤ w1.heap.size := by omega
    exact ⟨below_after hds h, ⟨k1, k2⟩, h4, cells2 (k1.trans HP0.out), cells6 (k2.trans HC0.out)⟩
  have HAG : Hid (∀ w1 w2 : World, Hid (Below w.heap.size w w1) → Hid (w1.heap[P]? = W.heap[P]? ∧ w1.heap[P + 1]? = W.heap[P + 1]?) → Hid (P + 2 ≤ w1.heap.size) → Below w1.heap.size w1 w2 → Hid (Below w.heap.size w w2) ∧ Hid (w2.heap[P]? = W.heap[P]? ∧ w2.heap[P + 1]? = W.heap[P + 1]?)) := fun w1 w2 h1 h2 h3 h => by
    have h4 := h3.out
    exact ⟨below_after h1.out h, (h.block P (by omega)).trans h2.out.1, (h.block (P + 1) (by omega)).trans h2.out.2⟩
  have c1 := cells2 HP0.out
  have c2 := cells6 HC0.out
  clear hn hb hcp hfs hT hW hPO hCO h2 hP hr1 hds hB hG
  obtain ⟨RR, hRR⟩ : ∃ RR, RR = checkS fs c := ⟨_, rfl⟩
  rw [← hRR]
  have HRR : Hid (RR = checkS fs c) := hRR
  clear hRR
  unfold prgV codV at *
  go_enter Tryd.func6, Tryd.ntmps6
  go_wp2_with fail
  rw [← HWE.out, ← HPE.out]
  go_cut [5] from 8 to 11 (fun s5 wx => s5 = .int .i64 r1 ∧ Hid (Below w.heap.size w wx ∧ wx.heap[P]? = W.heap[P]? ∧ wx.heap[P + 1]? = W.heap[P + 1]?))
  case first =>
    go_region_with (first | (go_at_call 15; refine Calls.mono (HWP.out W.drew HWD.out) ?_; rintro e w1 ⟨vn, rfl, hvn, hb1⟩; obtain ⟨HB1, HK1, HS1, c4, c5⟩ := HAF.out w1 hb1; have HVN : Hid (Blks w1.heap.size w1 vn (noPhi c).blocks) := hvn; clear hb1 hvn) | (go_at_call 14; refine Calls.mono (HCC.out w1 vn HB1.out HVN.out) ?_; rintro e w2 ⟨rfl, hb2⟩; obtain ⟨HB2, HK2⟩ := HAG.out w1 w2 HB1 HK1 HS1 hb2; clear hb2 c4 c5))
    all_goals (go_wp2_with fail; go_meet; first | (case rel => exact ⟨rfl, HB2.out, HK2.out.1, HK2.out.2⟩) | exact ⟨rfl, HB2.out, HK2.out.1, HK2.out.2⟩)
  case rest =>
    obtain ⟨rfl, HQ⟩ := hcut
    clear c1 c2
    rcases hr : (r1 != 0) with _ | _
    · have HRZ : Hid (r1 = 0) := by unfold Hid; simpa using hr
      obtain ⟨d0, d1, d2, d3, d4, d5⟩ := cells6 (HQ.out.2.2.trans HC0.out)
      obtain ⟨S, hS⟩ : ∃ S, S = wc.heap.size := ⟨_, rfl⟩
      have HSE : Hid (S = wc.heap.size) := hS
      have HCX : Hid (∀ wx : World, Below S wc wx → wx.cell? ⟨P + 1, 0, none⟩ = some (.string ⟨c.name.toArray⟩) ∧ wx.cell? ⟨P + 1, 1, none⟩ = some (.int .i64 c.params) ∧ wx.cell? ⟨P + 1, 2, none⟩ = some (.int .i64 c.results) ∧ wx.cell? ⟨P + 1, 3, none⟩ = some (.int .i64 c.vars) ∧ wx.cell? ⟨P + 1, 4, none⟩ = some (.int .i64 c.slots) ∧ wx.cell? ⟨P + 1, 5, none⟩ = some (.slice a3 n k3)) := fun wx h => by
        have h0 := HQ.out.2.2.trans HC0.out
        exact cells6 ((h.block (P + 1) (by rw [hS]; exact lt_of_block h0)).trans h0)
      have HFN : Hid (FineP c) := fine_of (fs := fs) (HR1.out.symm.trans HRZ.out)
      have HPS : Hid (0 < n) := by unfold Hid; rw [HN.out]; exact HFN.out.pos
      have HNB : Hid (n ≤ 1048576) := by unfold Hid; rw [HN.out]; have := HFN.out.few; omega
      obtain ⟨L, hL⟩ : ∃ L, L = c.blocks.map leadsL := ⟨_, rfl⟩
      have HLE : Hid (L = c.blocks.map leadsL) := hL
      have HLN : Hid (L.length = n) := by unfold Hid; rw [hL, List.length_map, HN.out]
      have HLD : Hid (∀ wx : World, Below S wc wx → Calls Tryd.prog 17 #[.slice a3 n k3] wx fun e w' => ∃ v, e = .returned v ∧ Rws w'.heap.size w' v L ∧ Below wx.heap.size wx w') := fun wx h => by
        have hwc := HQ.out.1
        have hsw := hwc.size
        have h1 : Below w.heap.size w wx := hwc.trans (h.mono (by omega))
        rw [hL]
        exact leadsOf_any c.blocks (.slice a3 n k3) B wx (Nat.le_trans HBW.out h1.size) (HBK.out.below (h1.mono HBW.out)) hsz
      clear hS hL
      go_upto_region 4 with fail
      go_cut [6] from 15 to 21 (fun s6 wx => ∃ (K : Nat) (a9 : Option Addr) (k9 gx : Nat) (a14 : Option Addr) (k14 gu g4 g5 g6 m mp : Nat) (o : List Nat) (u : Nat → Option Nat), s6 = .pointer (some ⟨K, 0, none⟩) ∧ Hid (Below S wc wx ∧ S ≤ K ∧ S ≤ mp ∧ wx.heap[mp]? = some (.map #[] 0) ∧ wx.heap[K]? = some (kobj c (.slice a3 n k3) (.slice a9 n k9) (.slice (some ⟨gx, 0, none⟩) n n) (.slice a14 m k14) (.slice (some ⟨gu, 0, none⟩) n n) (.slice (some ⟨g4, 0, none⟩) m m) (.slice (some ⟨g5, 0, none⟩) n n) (.slice (some ⟨g6, 0, none⟩) n n) mp) ∧ FlowX wx S n m L (.slice a9 n k9) (.slice a14 m k14) g5 g6 o u (some K)))
      case first =>
          refine wp_region_any (by kernel_rfl) ?_
          refine wpAny_inv (fun listed a wx => ∃ d0 d1 d2 d3 d4 d5 d6 d7 d8 : Bool, listed = #[d0, d1, d2, d3, d4, d5, d6, d7, d8] ∧ ∃ v15 v16 v17 v18 v19 v20 v21 v6 : Value, a = { tmps := #[Value.agg #[Value.slice a1 fs.length k1, Value.slice a2 n2 k2], Value.agg #[Value.string ⟨c.name.toArray⟩, Value.int .i64 c.params, Value.int .i64 c.results, Value.int .i64 c.vars, Value.int .i64 c.slots, Value.slice a3 n k3], Value.pointer (some ⟨P, 0, none⟩), Value.pointer (some ⟨P + 1, 0, none⟩), Value.int .i64 0, Value.int .i64 r1, v6, undef, u8, u9, u10, u11, Value.int .i64 r1, Value.bool false, undef, v15, v16, v17, v18, v19, v20, v21, undef, undef, undef, undef, undef, undef, undef, undef, undef, undef, undef, undef, undef, undef, undef, undef, undef, undef], defers := [] } ∧ Hid ((d8 = false → C4 wc S n P c (.slice a3 n k3) L d0 d1 d2 d3 d4 d5 d6 d7 d8 v15 v16 v17 v18 v19 v20 v21 v6 wx) ∧ (d8 = true → (d0 = true ∧ d1 = true ∧ d2 = true ∧ d3 = true ∧ d4 = true ∧ d5 = true ∧ d6 = true ∧ d7 = true) ∧ D4 wc S n c (.slice a3 n k3) L v6 wx))) ?rstep ?rdone _ _ _ _ (Nat.le_of_eq (by kernel_rfl)) ?rinit
          case rstep =>
            rintro listed a wx i ⟨d0, d1, d2, d3, d4, d5, d6, d7, d8, rfl, v15, v16, v17, v18, v19, v20, v21, v6, rfl, H⟩ hi
            obtain ⟨hi0, hi1, hi2⟩ := ready_mem hi
            clear hi
            have hi0 : i < 9 := hi0
            have hcase : i = 0 ∨ i = 1 ∨ i = 2 ∨ i = 3 ∨ i = 4 ∨ i = 5 ∨ i = 6 ∨ i = 7 ∨ i = 8 := by omega
            clear hi0
            rcases hcase with rfl | rfl | rfl | rfl | rfl | rfl | rfl | rfl | rfl
            all_goals (simp [Region.binds] at hi1 hi2)
            · obtain rfl : d0 = false := by simpa using hi1
              clear hi1
              have h8 : d8 = false := by
                rcases hq : d8 with _ | _
                · rfl
                · exact nomatch (H.out.2 hq).1.1
              subst h8
              have HC : Hid (_) := H.out.1 rfl
              have hS : S ≤ wx.heap.size := Nat.le_trans (Nat.le_of_eq HSE.out) HC.out.bel.size
              have h6 : d6 = false := by
                rcases hq : d6 with _ | _
                · rfl
                · exact nomatch (HC.out.o6 hq).1
              subst h6
              obtain ⟨y0, y1, y2, y3, y4, y5⟩ := HCX.out wx HC.out.bel
              refine wpOp_step rfl (fun K' hK => ?_)
              go_simp
              refine hK _ _ ?_
              have h := HC.out
              exact ⟨true, d1, d2, d3, d4, d5, false, d7, false, rfl, _, _, _, _, _, _, _, _, rfl, ⟨fun _ => ⟨h.bel, fun _ => rfl, h.c1, h.c2, h.c3, h.c4, h.c5, (fun hd => nomatch hd), h.c7, (fun hd => nomatch hd), (fun hd => nomatch hd), h.o4, h.o3⟩, (fun hd => nomatch hd)⟩⟩
            · obtain rfl : d1 = false := by simpa using hi1
              clear hi1
              have h8 : d8 = false := by
                rcases hq : d8 with _ | _
                · rfl
                · exact nomatch (H.out.2 hq).1.2.1
              subst h8
              have HC : Hid (_) := H.out.1 rfl
              have hS : S ≤ wx.heap.size := Nat.le_trans (Nat.le_of_eq HSE.out) HC.out.bel.size
              refine wpOp_step rfl (fun K' hK => ?_)
              go_simp
              refine hK _ _ ?_
              have h := HC.out
              exact ⟨d0, true, d2, d3, d4, d5, d6, d7, false, rfl, _, _, _, _, _, _, _, _, rfl, ⟨fun _ => ⟨h.bel, h.c0, fun _ => rfl, h.c2, h.c3, h.c4, h.c5, h.c6, h.c7, (fun hd => nomatch hd), h.o6, h.o4, h.o3⟩, (fun hd => nomatch hd)⟩⟩
            · obtain rfl : d2 = false := by simpa using hi1
              have e1 : d1 = true := by first | exact hi2 | exact hi2.1 | exact hi2.2.1 | exact hi2.2.2.1 | exact hi2.2.2.2.1 | exact hi2.2.2.2.2.1 | exact hi2.2.2.2.2.2.1 | exact hi2.2.2.2.2.2.2.1 | exact hi2.2.2.2.2.2.2.2.1 | exact hi2.2.2.2.2.2.2.2.2.1 | exact hi2.2.2.2.2.2.2.2.2.2.1 | exact hi2.2.2.2.2.2.2.2.2.2.2.1 | exact hi2.2.2.2.2.2.2.2.2.2.2.2.1 | exact hi2.2 | exact hi2.2.2 | exact hi2.2.2.2 | exact hi2.2.2.2.2 | exact hi2.2.2.2.2.2 | exact hi2.2.2.2.2.2.2 | exact hi2.2.2.2.2.2.2.2 | exact hi2.2.2.2.2.2.2.2.2 | exact hi2.2.2.2.2.2.2.2.2.2 | exact hi2.2.2.2.2.2.2.2.2.2.2 | exact hi2.2.2.2.2.2.2.2.2.2.2.2
              clear hi1 hi2
              subst e1
              have h8 : d8 = false := by
                rcases hq : d8 with _ | _
                · rfl
                · exact nomatch (H.out.2 hq).1.2.2.1
              subst h8
              have HC : Hid (_) := H.out.1 rfl
              have hS : S ≤ wx.heap.size := Nat.le_trans (Nat.le_of_eq HSE.out) HC.out.bel.size
              have h3 : d3 = false := by
                rcases hq : d3 with _ | _
                · rfl
                · exact nomatch (HC.out.o3 hq)
              subst h3
              have h4 : d4 = false := by
                rcases hq : d4 with _ | _
                · rfl
                · exact nomatch (HC.out.o3 (HC.out.o4 hq))
              subst h4
              have h6 : d6 = false := by
                rcases hq : d6 with _ | _
                · rfl
                · exact nomatch (HC.out.o3 (HC.out.o4 (HC.out.o6 hq).2.1))
              subst h6
              obtain ⟨y0, y1, y2, y3, y4, y5⟩ := HCX.out wx HC.out.bel
              obtain rfl := HC.out.c1 rfl
              refine wpOp_step rfl (fun K' hK => ?_)
              go_simp
              refine hK _ _ ?_
              have h := HC.out
              exact ⟨d0, true, true, false, false, d5, false, d7, false, rfl, _, _, _, _, _, _, _, _, rfl, ⟨fun _ => ⟨h.bel, h.c0, h.c1, fun _ => rfl, (fun hd => nomatch hd), (fun hd => nomatch hd), h.c5, (fun hd => nomatch hd), h.c7, (fun hd => nomatch hd), (fun hd => nomatch hd), (fun hd => nomatch hd), (fun hd => nomatch hd)⟩, (fun hd => nomatch hd)⟩⟩
            · obtain rfl : d3 = false := by simpa using hi1
              have e2 : d2 = true := by first | exact hi2 | exact hi2.1 | exact hi2.2.1 | exact hi2.2.2.1 | exact hi2.2.2.2.1 | exact hi2.2.2.2.2.1 | exact hi2.2.2.2.2.2.1 | exact hi2.2.2.2.2.2.2.1 | exact hi2.2.2.2.2.2.2.2.1 | exact hi2.2.2.2.2.2.2.2.2.1 | exact hi2.2.2.2.2.2.2.2.2.2.1 | exact hi2.2.2.2.2.2.2.2.2.2.2.1 | exact hi2.2.2.2.2.2.2.2.2.2.2.2.1 | exact hi2.2 | exact hi2.2.2 | exact hi2.2.2.2 | exact hi2.2.2.2.2 | exact hi2.2.2.2.2.2 | exact hi2.2.2.2.2.2.2 | exact hi2.2.2.2.2.2.2.2 | exact hi2.2.2.2.2.2.2.2.2 | exact hi2.2.2.2.2.2.2.2.2.2 | exact hi2.2.2.2.2.2.2.2.2.2.2 | exact hi2.2.2.2.2.2.2.2.2.2.2.2
              clear hi1 hi2
              subst e2
              have h8 : d8 = false := by
                rcases hq : d8 with _ | _
                · rfl
                · exact nomatch (H.out.2 hq).1.2.2.2.1
              subst h8
              have HC : Hid (_) := H.out.1 rfl
              have hS : S ≤ wx.heap.size := Nat.le_trans (Nat.le_of_eq HSE.out) HC.out.bel.size
              have h4 : d4 = false := by
                rcases hq : d4 with _ | _
                · rfl
                · exact nomatch (HC.out.o4 hq)
              subst h4
              have h6 : d6 = false := by
                rcases hq : d6 with _ | _
                · rfl
                · exact nomatch (HC.out.o4 (HC.out.o6 hq).2.1)
              subst h6
              obtain rfl := HC.out.c2 rfl
              have HCA := HLD.out wx HC.out.bel
              refine wpOp_step rfl (fun K' hK => ?_)
              go_simp
              go_wp2_with (go_at_call 17; refine Calls.mono HCA ?_; rintro e w1 ⟨vn, rfl, hrw, hk⟩)
              have h := HC.out.keep hS hk
              exact ⟨d0, d1, true, true, false, d5, false, d7, false, rfl, _, _, _, _, _, _, _, _, rfl, ⟨fun _ => ⟨h.bel, h.c0, h.c1, h.c2, fun _ => hrw, (fun hd => nomatch hd), h.c5, (fun hd => nomatch hd), h.c7, (fun hd => nomatch hd), (fun hd => nomatch hd), (fun hd => nomatch hd), fun _ => rfl⟩, (fun hd => nomatch hd)⟩⟩
            · obtain rfl : d4 = false := by simpa using hi1
              have e3 : d3 = true := by first | exact hi2 | exact hi2.1 | exact hi2.2.1 | exact hi2.2.2.1 | exact hi2.2.2.2.1 | exact hi2.2.2.2.2.1 | exact hi2.2.2.2.2.2.1 | exact hi2.2.2.2.2.2.2.1 | exact hi2.2.2.2.2.2.2.2.1 | exact hi2.2.2.2.2.2.2.2.2.1 | exact hi2.2.2.2.2.2.2.2.2.2.1 | exact hi2.2.2.2.2.2.2.2.2.2.2.1 | exact hi2.2.2.2.2.2.2.2.2.2.2.2.1 | exact hi2.2 | exact hi2.2.2 | exact hi2.2.2.2 | exact hi2.2.2.2.2 | exact hi2.2.2.2.2.2 | exact hi2.2.2.2.2.2.2 | exact hi2.2.2.2.2.2.2.2 | exact hi2.2.2.2.2.2.2.2.2 | exact hi2.2.2.2.2.2.2.2.2.2 | exact hi2.2.2.2.2.2.2.2.2.2.2 | exact hi2.2.2.2.2.2.2.2.2.2.2.2
              clear hi1 hi2
              subst e3
              have h8 : d8 = false := by
                rcases hq : d8 with _ | _
                · rfl
                · exact nomatch (H.out.2 hq).1.2.2.2.2.1
              subst h8
              have HC : Hid (_) := H.out.1 rfl
              have hS : S ≤ wx.heap.size := Nat.le_trans (Nat.le_of_eq HSE.out) HC.out.bel.size
              have h6 : d6 = false := by
                rcases hq : d6 with _ | _
                · rfl
                · exact nomatch (HC.out.o6 hq).2.1
              subst h6
              have hr := HC.out.c3 rfl
              obtain ⟨aL, kL, e18⟩ := Lies.slice hr
              rw [HLN.out] at e18
              subst e18
              have HCF := flowOf_any L aL kL n wx.heap.size wx (Nat.le_refl _) HLN.out.symm hr HNB.out
              have hKK : ∀ k, (if d7 = true then blkOf v6 else none) = some k → k < wx.heap.size := by
                intro k e
                rcases hq : d7 with _ | _
                · rw [hq] at e; simp at e
                · obtain ⟨g, e1, h1, _⟩ := HC.out.c7 rfl hq
                  rw [hq, e1] at e
                  simp [blkOf] at e
                  have := lt_of_block h1
                  omega
              have HKK : Hid (_) := hKK
              clear hr hKK
              refine wpOp_step rfl (fun K' hK => ?_)
              go_simp
              go_wp2_with (go_at_call 16; refine Calls.mono HCF ?_; rintro e w1 ⟨a9, k9, gx, a14, k14, gu, g4, g5, g6, m, o, u, rfl, hm, hnu, hru, hou, hn0, hk, hfl⟩; have HMM : Hid (_) := hm; clear hm)
              have h := HC.out.keep hS hk
              exact ⟨d0, d1, d2, true, true, d5, false, d7, false, rfl, _, _, _, _, _, _, _, _, rfl, ⟨fun _ => ⟨h.bel, h.c0, h.c1, h.c2, h.c3, fun _ => ⟨a9, k9, gx, a14, k14, gu, g4, g5, g6, m, o, u, rfl, FlowX.of hfl hS HMM.out (hou HPS.out).1 (hou HPS.out).2 HKK.out⟩, h.c5, (fun hd => nomatch hd), h.c7, (fun hd => nomatch hd), (fun hd => nomatch hd), fun _ => rfl, h.o3⟩, (fun hd => nomatch hd)⟩⟩
            · obtain rfl : d5 = false := by simpa using hi1
              clear hi1
              have h8 : d8 = false := by
                rcases hq : d8 with _ | _
                · rfl
                · exact nomatch (H.out.2 hq).1.2.2.2.2.2.1
              subst h8
              have HC : Hid (_) := H.out.1 rfl
              have hS : S ≤ wx.heap.size := Nat.le_trans (Nat.le_of_eq HSE.out) HC.out.bel.size
              have h6 : d6 = false := by
                rcases hq : d6 with _ | _
                · rfl
                · exact nomatch (HC.out.o6 hq).2.2
              subst h6
              refine wpOp_step rfl (fun K' hK => ?_)
              go_simp
              refine hK _ _ ?_
              have hnew := heap_alloc_new wx (.map #[] 0)
              have h := HC.out.keep hS (below_alloc wx (.map #[] 0))
              exact ⟨d0, d1, d2, d3, d4, true, false, d7, false, rfl, _, _, _, _, _, _, _, _, rfl, ⟨fun _ => ⟨h.bel, h.c0, h.c1, h.c2, h.c3, h.c4, fun _ => ⟨wx.heap.size, rfl, hnew, hS⟩, (fun hd => nomatch hd), h.c7, (fun hd => nomatch hd), (fun hd => nomatch hd), h.o4, h.o3⟩, (fun hd => nomatch hd)⟩⟩
            · obtain rfl : d6 = false := by simpa using hi1
              have e0 : d0 = true := by first | exact hi2 | exact hi2.1 | exact hi2.2.1 | exact hi2.2.2.1 | exact hi2.2.2.2.1 | exact hi2.2.2.2.2.1 | exact hi2.2.2.2.2.2.1 | exact hi2.2.2.2.2.2.2.1 | exact hi2.2.2.2.2.2.2.2.1 | exact hi2.2.2.2.2.2.2.2.2.1 | exact hi2.2.2.2.2.2.2.2.2.2.1 | exact hi2.2.2.2.2.2.2.2.2.2.2.1 | exact hi2.2.2.2.2.2.2.2.2.2.2.2.1 | exact hi2.2 | exact hi2.2.2 | exact hi2.2.2.2 | exact hi2.2.2.2.2 | exact hi2.2.2.2.2.2 | exact hi2.2.2.2.2.2.2 | exact hi2.2.2.2.2.2.2.2 | exact hi2.2.2.2.2.2.2.2.2 | exact hi2.2.2.2.2.2.2.2.2.2 | exact hi2.2.2.2.2.2.2.2.2.2.2 | exact hi2.2.2.2.2.2.2.2.2.2.2.2
              have e4 : d4 = true := by first | exact hi2 | exact hi2.1 | exact hi2.2.1 | exact hi2.2.2.1 | exact hi2.2.2.2.1 | exact hi2.2.2.2.2.1 | exact hi2.2.2.2.2.2.1 | exact hi2.2.2.2.2.2.2.1 | exact hi2.2.2.2.2.2.2.2.1 | exact hi2.2.2.2.2.2.2.2.2.1 | exact hi2.2.2.2.2.2.2.2.2.2.1 | exact hi2.2.2.2.2.2.2.2.2.2.2.1 | exact hi2.2.2.2.2.2.2.2.2.2.2.2.1 | exact hi2.2 | exact hi2.2.2 | exact hi2.2.2.2 | exact hi2.2.2.2.2 | exact hi2.2.2.2.2.2 | exact hi2.2.2.2.2.2.2 | exact hi2.2.2.2.2.2.2.2 | exact hi2.2.2.2.2.2.2.2.2 | exact hi2.2.2.2.2.2.2.2.2.2 | exact hi2.2.2.2.2.2.2.2.2.2.2 | exact hi2.2.2.2.2.2.2.2.2.2.2.2
              have e5 : d5 = true := by first | exact hi2 | exact hi2.1 | exact hi2.2.1 | exact hi2.2.2.1 | exact hi2.2.2.2.1 | exact hi2.2.2.2.2.1 | exact hi2.2.2.2.2.2.1 | exact hi2.2.2.2.2.2.2.1 | exact hi2.2.2.2.2.2.2.2.1 | exact hi2.2.2.2.2.2.2.2.2.1 | exact hi2.2.2.2.2.2.2.2.2.2.1 | exact hi2.2.2.2.2.2.2.2.2.2.2.1 | exact hi2.2.2.2.2.2.2.2.2.2.2.2.1 | exact hi2.2 | exact hi2.2.2 | exact hi2.2.2.2 | exact hi2.2.2.2.2 | exact hi2.2.2.2.2.2 | exact hi2.2.2.2.2.2.2 | exact hi2.2.2.2.2.2.2.2 | exact hi2.2.2.2.2.2.2.2.2 | exact hi2.2.2.2.2.2.2.2.2.2 | exact hi2.2.2.2.2.2.2.2.2.2.2 | exact hi2.2.2.2.2.2.2.2.2.2.2.2
              clear hi1 hi2
              subst e0
              subst e4
              subst e5
              have h8 : d8 = false := by
                rcases hq : d8 with _ | _
                · rfl
                · exact nomatch (H.out.2 hq).1.2.2.2.2.2.2.1
              subst h8
              have HC : Hid (_) := H.out.1 rfl
              have hS : S ≤ wx.heap.size := Nat.le_trans (Nat.le_of_eq HSE.out) HC.out.bel.size
              obtain rfl := HC.out.c0 rfl
              obtain ⟨a9, k9, gx, a14, k14, gu, g4, g5, g6, m, o, u, rfl, hfx⟩ := HC.out.c4 rfl
              obtain ⟨mp, rfl, hmp, hms⟩ := HC.out.c5 rfl
              have HX : Hid (_) := And.intro hfx (And.intro hmp hms)
              clear hfx hmp hms
              refine wpOp_step rfl (fun K' hK => ?_)
              go_simp
              refine hK _ _ ?_
              have h := HC.out
              exact ⟨true, d1, d2, d3, true, true, true, d7, false, rfl, _, _, _, _, _, _, _, _, rfl, ⟨fun _ => ⟨h.bel, h.c0, h.c1, h.c2, h.c3, h.c4, h.c5, fun _ => ⟨a9, k9, gx, a14, k14, gu, g4, g5, g6, m, mp, o, u, rfl, HX.out.1, HX.out.2.1, HX.out.2.2⟩, h.c7, (fun hd => nomatch hd), fun _ => ⟨rfl, rfl, rfl⟩, h.o4, h.o3⟩, (fun hd => nomatch hd)⟩⟩
            · obtain rfl : d7 = false := by simpa using hi1
              clear hi1
              have h8 : d8 = false := by
                rcases hq : d8 with _ | _
                · rfl
                · exact nomatch (H.out.2 hq).1.2.2.2.2.2.2.2
              subst h8
              have HC : Hid (_) := H.out.1 rfl
              have hS : S ≤ wx.heap.size := Nat.le_trans (Nat.le_of_eq HSE.out) HC.out.bel.size
              refine wpOp_step rfl (fun K' hK => ?_)
              go_simp
              refine hK _ _ ?_
              have hnew := heap_alloc_new wx kzero
              have h := HC.out.keep hS (below_alloc wx kzero)
              exact ⟨d0, d1, d2, d3, d4, d5, d6, true, false, rfl, _, _, _, _, _, _, _, _, rfl, ⟨fun _ => ⟨h.bel, h.c0, h.c1, h.c2, h.c3, fun hd => by obtain ⟨a9, k9, gx, a14, k14, gu, g4, g5, g6, m, o, u, e, hf⟩ := HC.out.c4 hd; exact ⟨a9, k9, gx, a14, k14, gu, g4, g5, g6, m, o, u, e, FlowX.new hf (below_alloc wx _)⟩, h.c5, fun hd => by obtain ⟨a9, k9, gx, a14, k14, gu, g4, g5, g6, m, mp, o, u, e, hf, h1, h2⟩ := HC.out.c6 hd; exact ⟨a9, k9, gx, a14, k14, gu, g4, g5, g6, m, mp, o, u, e, FlowX.new hf (below_alloc wx _), ((below_alloc wx _).block mp (lt_of_block h1)).trans h1, h2⟩, fun _ => PtB.new hnew hS, (fun hd => nomatch hd), h.o6, h.o4, h.o3⟩, (fun hd => nomatch hd)⟩⟩
            · obtain rfl : d8 = false := by simpa using hi1
              have e7 : d7 = true := by first | exact hi2 | exact hi2.1 | exact hi2.2.1 | exact hi2.2.2.1 | exact hi2.2.2.2.1 | exact hi2.2.2.2.2.1 | exact hi2.2.2.2.2.2.1 | exact hi2.2.2.2.2.2.2.1 | exact hi2.2.2.2.2.2.2.2.1 | exact hi2.2.2.2.2.2.2.2.2.1 | exact hi2.2.2.2.2.2.2.2.2.2.1 | exact hi2.2.2.2.2.2.2.2.2.2.2.1 | exact hi2.2.2.2.2.2.2.2.2.2.2.2.1 | exact hi2.2 | exact hi2.2.2 | exact hi2.2.2.2 | exact hi2.2.2.2.2 | exact hi2.2.2.2.2.2 | exact hi2.2.2.2.2.2.2 | exact hi2.2.2.2.2.2.2.2 | exact hi2.2.2.2.2.2.2.2.2 | exact hi2.2.2.2.2.2.2.2.2.2 | exact hi2.2.2.2.2.2.2.2.2.2.2 | exact hi2.2.2.2.2.2.2.2.2.2.2.2
              have e6 : d6 = true := by first | exact hi2 | exact hi2.1 | exact hi2.2.1 | exact hi2.2.2.1 | exact hi2.2.2.2.1 | exact hi2.2.2.2.2.1 | exact hi2.2.2.2.2.2.1 | exact hi2.2.2.2.2.2.2.1 | exact hi2.2.2.2.2.2.2.2.1 | exact hi2.2.2.2.2.2.2.2.2.1 | exact hi2.2.2.2.2.2.2.2.2.2.1 | exact hi2.2.2.2.2.2.2.2.2.2.2.1 | exact hi2.2.2.2.2.2.2.2.2.2.2.2.1 | exact hi2.2 | exact hi2.2.2 | exact hi2.2.2.2 | exact hi2.2.2.2.2 | exact hi2.2.2.2.2.2 | exact hi2.2.2.2.2.2.2 | exact hi2.2.2.2.2.2.2.2 | exact hi2.2.2.2.2.2.2.2.2 | exact hi2.2.2.2.2.2.2.2.2.2 | exact hi2.2.2.2.2.2.2.2.2.2.2 | exact hi2.2.2.2.2.2.2.2.2.2.2.2
              have e4 : d4 = true := by first | exact hi2 | exact hi2.1 | exact hi2.2.1 | exact hi2.2.2.1 | exact hi2.2.2.2.1 | exact hi2.2.2.2.2.1 | exact hi2.2.2.2.2.2.1 | exact hi2.2.2.2.2.2.2.1 | exact hi2.2.2.2.2.2.2.2.1 | exact hi2.2.2.2.2.2.2.2.2.1 | exact hi2.2.2.2.2.2.2.2.2.2.1 | exact hi2.2.2.2.2.2.2.2.2.2.2.1 | exact hi2.2.2.2.2.2.2.2.2.2.2.2.1 | exact hi2.2 | exact hi2.2.2 | exact hi2.2.2.2 | exact hi2.2.2.2.2 | exact hi2.2.2.2.2.2 | exact hi2.2.2.2.2.2.2 | exact hi2.2.2.2.2.2.2.2 | exact hi2.2.2.2.2.2.2.2.2 | exact hi2.2.2.2.2.2.2.2.2.2 | exact hi2.2.2.2.2.2.2.2.2.2.2 | exact hi2.2.2.2.2.2.2.2.2.2.2.2
              have e0 : d0 = true := by first | exact hi2 | exact hi2.1 | exact hi2.2.1 | exact hi2.2.2.1 | exact hi2.2.2.2.1 | exact hi2.2.2.2.2.1 | exact hi2.2.2.2.2.2.1 | exact hi2.2.2.2.2.2.2.1 | exact hi2.2.2.2.2.2.2.2.1 | exact hi2.2.2.2.2.2.2.2.2.1 | exact hi2.2.2.2.2.2.2.2.2.2.1 | exact hi2.2.2.2.2.2.2.2.2.2.2.1 | exact hi2.2.2.2.2.2.2.2.2.2.2.2.1 | exact hi2.2 | exact hi2.2.2 | exact hi2.2.2.2 | exact hi2.2.2.2.2 | exact hi2.2.2.2.2.2 | exact hi2.2.2.2.2.2.2 | exact hi2.2.2.2.2.2.2.2 | exact hi2.2.2.2.2.2.2.2.2 | exact hi2.2.2.2.2.2.2.2.2.2 | exact hi2.2.2.2.2.2.2.2.2.2.2 | exact hi2.2.2.2.2.2.2.2.2.2.2.2
              have e1 : d1 = true := by first | exact hi2 | exact hi2.1 | exact hi2.2.1 | exact hi2.2.2.1 | exact hi2.2.2.2.1 | exact hi2.2.2.2.2.1 | exact hi2.2.2.2.2.2.1 | exact hi2.2.2.2.2.2.2.1 | exact hi2.2.2.2.2.2.2.2.1 | exact hi2.2.2.2.2.2.2.2.2.1 | exact hi2.2.2.2.2.2.2.2.2.2.1 | exact hi2.2.2.2.2.2.2.2.2.2.2.1 | exact hi2.2.2.2.2.2.2.2.2.2.2.2.1 | exact hi2.2 | exact hi2.2.2 | exact hi2.2.2.2 | exact hi2.2.2.2.2 | exact hi2.2.2.2.2.2 | exact hi2.2.2.2.2.2.2 | exact hi2.2.2.2.2.2.2.2 | exact hi2.2.2.2.2.2.2.2.2 | exact hi2.2.2.2.2.2.2.2.2.2 | exact hi2.2.2.2.2.2.2.2.2.2.2 | exact hi2.2.2.2.2.2.2.2.2.2.2.2
              have e2 : d2 = true := by first | exact hi2 | exact hi2.1 | exact hi2.2.1 | exact hi2.2.2.1 | exact hi2.2.2.2.1 | exact hi2.2.2.2.2.1 | exact hi2.2.2.2.2.2.1 | exact hi2.2.2.2.2.2.2.1 | exact hi2.2.2.2.2.2.2.2.1 | exact hi2.2.2.2.2.2.2.2.2.1 | exact hi2.2.2.2.2.2.2.2.2.2.1 | exact hi2.2.2.2.2.2.2.2.2.2.2.1 | exact hi2.2.2.2.2.2.2.2.2.2.2.2.1 | exact hi2.2 | exact hi2.2.2 | exact hi2.2.2.2 | exact hi2.2.2.2.2 | exact hi2.2.2.2.2.2 | exact hi2.2.2.2.2.2.2 | exact hi2.2.2.2.2.2.2.2 | exact hi2.2.2.2.2.2.2.2.2 | exact hi2.2.2.2.2.2.2.2.2.2 | exact hi2.2.2.2.2.2.2.2.2.2.2 | exact hi2.2.2.2.2.2.2.2.2.2.2.2
              have e3 : d3 = true := by first | exact hi2 | exact hi2.1 | exact hi2.2.1 | exact hi2.2.2.1 | exact hi2.2.2.2.1 | exact hi2.2.2.2.2.1 | exact hi2.2.2.2.2.2.1 | exact hi2.2.2.2.2.2.2.1 | exact hi2.2.2.2.2.2.2.2.1 | exact hi2.2.2.2.2.2.2.2.2.1 | exact hi2.2.2.2.2.2.2.2.2.2.1 | exact hi2.2.2.2.2.2.2.2.2.2.2.1 | exact hi2.2.2.2.2.2.2.2.2.2.2.2.1 | exact hi2.2 | exact hi2.2.2 | exact hi2.2.2.2 | exact hi2.2.2.2.2 | exact hi2.2.2.2.2.2 | exact hi2.2.2.2.2.2.2 | exact hi2.2.2.2.2.2.2.2 | exact hi2.2.2.2.2.2.2.2.2 | exact hi2.2.2.2.2.2.2.2.2.2 | exact hi2.2.2.2.2.2.2.2.2.2.2 | exact hi2.2.2.2.2.2.2.2.2.2.2.2
              have e5 : d5 = true := by first | exact hi2 | exact hi2.1 | exact hi2.2.1 | exact hi2.2.2.1 | exact hi2.2.2.2.1 | exact hi2.2.2.2.2.1 | exact hi2.2.2.2.2.2.1 | exact hi2.2.2.2.2.2.2.1 | exact hi2.2.2.2.2.2.2.2.1 | exact hi2.2.2.2.2.2.2.2.2.1 | exact hi2.2.2.2.2.2.2.2.2.2.1 | exact hi2.2.2.2.2.2.2.2.2.2.2.1 | exact hi2.2.2.2.2.2.2.2.2.2.2.2.1 | exact hi2.2 | exact hi2.2.2 | exact hi2.2.2.2 | exact hi2.2.2.2.2 | exact hi2.2.2.2.2.2 | exact hi2.2.2.2.2.2.2 | exact hi2.2.2.2.2.2.2.2 | exact hi2.2.2.2.2.2.2.2.2 | exact hi2.2.2.2.2.2.2.2.2.2 | exact hi2.2.2.2.2.2.2.2.2.2.2 | exact hi2.2.2.2.2.2.2.2.2.2.2.2
              clear hi1 hi2
              subst e7
              subst e6
              subst e4
              subst e0
              subst e1
              subst e2
              subst e3
              subst e5
              have HC : Hid (_) := H.out.1 rfl
              have hS : S ≤ wx.heap.size := Nat.le_trans (Nat.le_of_eq HSE.out) HC.out.bel.size
              obtain ⟨a9, k9, gx, a14, k14, gu, g4, g5, g6, m, mp, o, u, rfl, hf, h1, h2⟩ := HC.out.c6 rfl
              obtain ⟨K, rfl, hgK, hsK⟩ := HC.out.c7 rfl rfl
              have HG : Hid (wx.heap[K]? = some kzero) := hgK
              have HF : Hid (FlowX wx S n m L (.slice a9 n k9) (.slice a14 m k14) g5 g6 o u (some K)) := hf
              have HM : Hid (wx.heap[mp]? = some (.map #[] 0) ∧ S ≤ mp ∧ mp ≠ K) := ⟨h1, h2, fun e => by rw [e, hgK] at h1; cases h1⟩
              obtain ⟨q0, q1, q2, q3, q4, q5, q6, q7, q8, q9, q10, q11, q12, q13⟩ := cells14 HG.out
              have z0 := thawAny HG.out 0
              have z1 := thawAny HG.out 1
              have z2 := thawAny HG.out 2
              have z3 := thawAny HG.out 3
              have z4 := thawAny HG.out 4
              have z5 := thawAny HG.out 5
              have z6 := thawAny HG.out 6
              have z7 := thawAny HG.out 7
              have z8 := thawAny HG.out 8
              have z9 := thawAny HG.out 9
              have z10 := thawAny HG.out 10
              have z11 := thawAny HG.out 11
              have z12 := thawAny HG.out 12
              have z13 := thawAny HG.out 13
              clear hgK hf h1 h2
              refine wpOp_step rfl (fun K' hK => ?_)
              go_simp
              refine hK _ _ ?_
              have hfr := (((((((((((((((FrF.refl K wx).set 0 (.string ⟨c.name.toArray⟩)).set 1 (.int .i64 c.params)).set 2 (.int .i64 c.results)).set 3 (.int .i64 c.vars)).set 4 (.int .i64 c.slots)).set 5 (.slice a3 n k3)).set 6 (.slice a9 n k9)).set 7 (.slice (some ⟨gx, 0, none⟩) n n)).set 8 (.slice a14 m k14)).set 9 (.slice (some ⟨gu, 0, none⟩) n n)).set 10 (.slice (some ⟨g4, 0, none⟩) m m)).set 11 (.slice (some ⟨g5, 0, none⟩) n n)).set 12 (.slice (some ⟨g6, 0, none⟩) n n)).set 13 (.map (some mp)))
              have xa0 := heap_setCell_same (o := 0) HG.out (.string ⟨c.name.toArray⟩)
              have xa1 := heap_setCell_same (o := 1) xa0 (.int .i64 c.params)
              have xa2 := heap_setCell_same (o := 2) xa1 (.int .i64 c.results)
              have xa3 := heap_setCell_same (o := 3) xa2 (.int .i64 c.vars)
              have xa4 := heap_setCell_same (o := 4) xa3 (.int .i64 c.slots)
              have xa5 := heap_setCell_same (o := 5) xa4 (.slice a3 n k3)
              have xa6 := heap_setCell_same (o := 6) xa5 (.slice a9 n k9)
              have xa7 := heap_setCell_same (o := 7) xa6 (.slice (some ⟨gx, 0, none⟩) n n)
              have xa8 := heap_setCell_same (o := 8) xa7 (.slice a14 m k14)
              have xa9 := heap_setCell_same (o := 9) xa8 (.slice (some ⟨gu, 0, none⟩) n n)
              have xa10 := heap_setCell_same (o := 10) xa9 (.slice (some ⟨g4, 0, none⟩) m m)
              have xa11 := heap_setCell_same (o := 11) xa10 (.slice (some ⟨g5, 0, none⟩) n n)
              have xa12 := heap_setCell_same (o := 12) xa11 (.slice (some ⟨g6, 0, none⟩) n n)
              have xa13 := heap_setCell_same (o := 13) xa12 (.map (some mp))
              simp [kzero] at xa13
              exact ⟨true, true, true, true, true, true, true, true, true, rfl, _, _, _, _, _, _, _, _, rfl, ⟨(fun hd => nomatch hd), fun _ => ⟨⟨rfl, rfl, rfl, rfl, rfl, rfl, rfl, rfl⟩, C4.last (below_set (below_set (below_set (below_set (below_set (below_set (below_set (below_set (below_set (below_set (below_set (below_set (below_set (below_set HC.out.bel hsK _) hsK _) hsK _) hsK _) hsK _) hsK _) hsK _) hsK _) hsK _) hsK _) hsK _) hsK _) hsK _) hsK _) HC.out.c0 HC.out.c1 HC.out.c2 HM.out.2.1 hsK xa13 (hfr.block mp (lt_of_block HM.out.1) HM.out.2.2 |>.trans HM.out.1) (HF.out.fr hfr)⟩⟩⟩
          case rinit =>
            exact ⟨false, false, false, false, false, false, false, false, false, rfl, _, _, _, _, _, _, _, _, rfl, ⟨fun _ => ⟨(show Below S wc _ from ⟨rfl, rfl, rfl, Nat.le_refl _, fun _ _ => rfl⟩), (fun hd => nomatch hd), (fun hd => nomatch hd), (fun hd => nomatch hd), (fun hd => nomatch hd), (fun hd => nomatch hd), (fun hd => nomatch hd), (fun hd => nomatch hd), (fun _ => PtB.no _ _), (fun hd => nomatch hd), (fun hd => nomatch hd), (fun hd => nomatch hd), (fun hd => nomatch hd)⟩, (fun hd => nomatch hd)⟩⟩
          case rdone =>
            rintro listed a wx ⟨d0, d1, d2, d3, d4, d5, d6, d7, d8, rfl, v15, v16, v17, v18, v19, v20, v21, v6, rfl, H⟩ hr
            obtain rfl : d0 = true := by simpa using ready_none hr 0 (by decide) (by simp [Region.binds])
            obtain rfl : d1 = true := by simpa using ready_none hr 1 (by decide) (by simp [Region.binds])
            obtain rfl : d5 = true := by simpa using ready_none hr 5 (by decide) (by simp [Region.binds])
            obtain rfl : d7 = true := by simpa using ready_none hr 7 (by decide) (by simp [Region.binds])
            obtain rfl : d2 = true := by simpa using ready_none hr 2 (by decide) (by simp [Region.binds])
            obtain rfl : d3 = true := by simpa using ready_none hr 3 (by decide) (by simp [Region.binds])
            obtain rfl : d4 = true := by simpa using ready_none hr 4 (by decide) (by simp [Region.binds])
            obtain rfl : d6 = true := by simpa using ready_none hr 6 (by decide) (by simp [Region.binds])
            obtain rfl : d8 = true := by simpa using ready_none hr 8 (by decide) (by simp [Region.binds])
            have hD := (H.out.2 rfl).2
            obtain ⟨K, a9, k9, gx, a14, k14, gu, g4, g5, g6, m, mp, o, u, rfl, hh⟩ := hD.ex
            have HH : Hid (_) := And.intro hD.bel hh
            clear hr H hh hD
            go_wp2_with fail
            go_meet
            first | (case rel => exact ⟨K, a9, k9, gx, a14, k14, gu, g4, g5, g6, m, mp, o, u, rfl, HH⟩) | exact ⟨K, a9, k9, gx, a14, k14, gu, g4, g5, g6, m, mp, o, u, rfl, HH⟩
      case rest =>
        obtain ⟨K, a9, k9, gx, a14, k14, gu, g4, g5, g6, m, mp, o, u, rfl, HD⟩ := hcut
        obtain ⟨AH, hAH⟩ : ∃ AH, AH = (List.range n).map (fun t => rowL L t n) := ⟨_, rfl⟩
        have HAE : Hid (AH = _) := hAH
        have HRS : Hid (RR = if phiA c.vars AH c.blocks != 0 then phiA c.vars AH c.blocks else if (rowL L 0 n).length != 0 then 4 else match setAll c with | none => 7 | some S => if usesY L AH c.blocks S then 0 else 12) := by
          unfold Hid
          rw [HRR.out]
          unfold checkS
          rw [← HR1.out, HRZ.out, ← HLE.out, ← HN.out, ← hAH]
          rfl
        have HBA : Hid (Below w.heap.size w wc) := by
          have h1 := HQ.out.1.size
          have h2 := HSE.out
          exact HQ.out.1.trans (HD.out.1.mono (by omega))
        obtain ⟨p, hp⟩ : ∃ p, p = phiA c.vars AH c.blocks := ⟨_, rfl⟩
        have HP : Hid (p = _) := hp
        have HAL : Hid (AH.length = n) := by unfold Hid; rw [hAH]; simp
        have HI64 : Hid (∀ i, i < n → ∀ y ∈ rowL L i n, I64 y) := fun i _ y hy => by
          have h1 := rowL_mem hy
          have h2 := HNB.out
          unfold I64; omega
        have HGR : Hid (∀ wx S' K', FlowX wx S' n m L (.slice a9 n k9) (.slice a14 m k14) g5 g6 o u K' → Rws wx.heap.size wx (.slice a9 n k9) AH) := fun wx S' K' h => by
          obtain ⟨vs, g1, _⟩ := h.grid
          rw [hAH]; exact g1.rws HI64.out
        have HPC : Hid (Calls Tryd.prog 18 #[.pointer (some ⟨K, 0, none⟩)] wc fun e w' => e = .returned (.int .i64 p) ∧ Below wc.heap.size wc w') := by
          obtain ⟨_, _, _, _, hK, hfx⟩ := HD.out
          have hBw := Nat.le_trans HBW.out HBA.out.size
          rw [hp]
          exact phis_any c (.slice a3 n k3) _ _ _ _ _ _ mp K n k9 wc.heap.size a9 AH wc (Nat.le_refl _) ((HBK.out.below (HBA.out.mono HBW.out)).up hBw) (HCP.out.below HBK.out (HBA.out.mono HBW.out)) HN.out HAL.out (HGR.out wc S _ hfx) hK
        clear hp hAH d0 d1 d2 d3 d4 d5
        go_wp2_with fail
        refine Calls.mono HPC.out ?_
        rintro e w5 ⟨rfl, hb5⟩
        have HB5 : Hid (Below wc.heap.size wc w5) := hb5
        have HB6 : Hid (Below w.heap.size w w5) := below_after HBA.out hb5
        clear hb5
        rcases hpz : (p != 0) with _ | _
        · have HPZ : Hid (phiA c.vars AH c.blocks = 0) := by unfold Hid; rw [← HP.out]; simpa using hpz
          have HRT : Hid (RR = if (rowL L 0 n).length != 0 then 4 else match setAll c with | none => 7 | some S => if usesY L AH c.blocks S then 0 else 12) := by unfold Hid; rw [HRS.out, HPZ.out]; rfl
          have HFX : Hid (FlowX w5 S n m L (.slice a9 n k9) (.slice a14 m k14) g5 g6 o u (some K)) := HD.out.2.2.2.2.2.keep HB5.out
          have HK5 : Hid (w5.heap[K]? = some (kobj c (.slice a3 n k3) (.slice a9 n k9) (.slice (some ⟨gx, 0, none⟩) n n) (.slice a14 m k14) (.slice (some ⟨gu, 0, none⟩) n n) (.slice (some ⟨g4, 0, none⟩) m m) (.slice (some ⟨g5, 0, none⟩) n n) (.slice (some ⟨g6, 0, none⟩) n n) mp)) := (HB5.out.block K (lt_of_block HD.out.2.2.2.2.1)).trans HD.out.2.2.2.2.1
          have HM5 : Hid (w5.heap[mp]? = some (.map #[] 0)) := (HB5.out.block mp (lt_of_block HD.out.2.2.2.1)).trans HD.out.2.2.2.1
          obtain ⟨q0, q1, q2, q3, q4, q5, q6, q7, q8, q9, q10, q11, q12, q13⟩ := cells14 HK5.out
          obtain ⟨l0, hl0⟩ : ∃ l0, l0 = rowL L 0 n := ⟨_, rfl⟩
          have hat : AH[0]? = some l0 := by rw [HAE.out, List.getElem?_map, List.getElem?_range HPS.out, hl0]; rfl
          obtain ⟨g9, o9, cs, e9, _, _, ⟨vr, rfl, hvr⟩, hcl⟩ := Lies.at (HGR.out w5 S _ HFX.out) hat
          have r0 := hcl 0 (by decide)
          obtain ⟨al, kl, rfl⟩ := Lies.slice hvr
          simp at r0
          cases e9
          have HL0 : Hid (l0 = rowL L 0 n) := hl0
          have hl0m := hvr.len
          unfold maxLen at hl0m
          have hpos : (0 : Int) < (n : Int) := by have := HPS.out; omega
          clear hcl hvr hat hl0
          by_cases hz : l0.length = 0
          · have hz' : ¬ (0 : Int) < (l0.length : Int) := by omega
            have HRU : Hid (RR = match setAll c with | none => 7 | some S => if usesY L AH c.blocks S then 0 else 12) := by unfold Hid; rw [HRT.out, ← HL0.out, hz]; rfl
            have HSP : Hid (∀ S, setAll c = some S → ∀ v sb sa, S v = some (sb, sa) → 0 ≤ sb ∧ sb < (n : Int)) := fun S h => by rw [HN.out]; exact setAll_spots (by rw [← HN.out]; exact HPS.out) h
            have HKN : Hid (K ≠ mp) := fun e => by have h1 := HK5.out; rw [e, HM5.out] at h1; unfold kobj at h1; cases h1
            have HOC : Hid (Calls Tryd.prog 19 #[.pointer (some ⟨K, 0, none⟩)] w5 fun e w' => e = .returned (.bool (setAll c).isSome) ∧ FrF mp w5 w' ∧ ∀ S, setAll c = some S → SetAt w' mp c.vars S) := by
              have hBS : B ≤ mp := by
                have h1 := HD.out.2.2.1
                have h2 := HSE.out
                have h3 := HQ.out.1.size
                have h4 := HBW.out
                omega
              exact once_any c (.slice a3 n k3) _ _ _ _ _ _ _ mp K B w5 (Nat.le_trans HBW.out HB6.out.size) (HBK.out.below (HB6.out.mono HBW.out)) hBS HKN.out HK5.out (setAt_of _ HM5.out) HFN.out.par HFN.out.vars (ds_of HFN.out HPZ.out)
            clear hz
            go_wp2_with fail
            refine Calls.mono HOC.out ?_
            rintro e w6 ⟨rfl, hf6, hs6⟩
            have HF6 : Hid (FrF mp w5 w6) := hf6
            have HB7 : Hid (Below w.heap.size w w6) := by
              have hm := HD.out.2.2.1
              have h2 := HSE.out
              have h3 := HQ.out.1.size
              exact HB6.out.trans (HF6.out.bel (by omega) HB6.out.size)
            have HS6 : Hid (∀ S, setAll c = some S → SetAt w6 mp c.vars S) := hs6
            clear hf6 hs6 q0 q1 q2 q3 q4 q5 q6 q7 q8 q9 q10 q11 q12 q13 r0
            rcases hset : setAll c with _ | S6
            · have HRV : Hid (RR = 7) := by unfold Hid; rw [HRU.out, hset]
              go_wp2_with fail
              go_ret
              exact ⟨by rw [HRV.out]; rfl, HB7.out⟩
            · obtain ⟨b, hbu⟩ : ∃ b, b = usesY L AH c.blocks S6 := ⟨_, rfl⟩
              have HBU : Hid (b = _) := hbu
              have HRV : Hid (RR = if b then 0 else 12) := by unfold Hid; rw [HRU.out, hset, hbu]
              have HUC : Hid (Calls Tryd.prog 20 #[.pointer (some ⟨K, 0, none⟩)] w6 fun e w' => e = .returned (.bool b) ∧ Below w6.heap.size w6 w') := by
                have hfx := (HFX.out.map HM5.out).fr HF6.out
                obtain ⟨A, N, hP, hA, hN⟩ := hfx.flowP HLN.out.symm HNB.out
                have hK6 := (HF6.out.block K (lt_of_block HK5.out) HKN.out).trans HK5.out
                have hBw := Nat.le_trans HBW.out HB7.out.size
                have hno : Nums w6.heap.size w6 (.slice a14 m k14) (natsL o) := nums_of_own (by rw [natsL_len, ← hfx.ln]; exact hfx.own) (fun y hy => by
                  unfold natsL at hy
                  obtain ⟨i, hi, rfl⟩ := List.mem_map.1 hy
                  have h1 := hfx.ord.lt i hi
                  have h2 := HLN.out
                  have h3 := HNB.out
                  unfold I64; omega)
                have hU := uses_any K w6.heap.size c (.slice a3 n k3) _ (.slice (some ⟨gx, 0, none⟩) n n) (.slice (some ⟨gu, 0, none⟩) n n) (.slice (some ⟨g4, 0, none⟩) m m) a14 k14 m g5 g6 n A N mp S6 AH o w6 ⟨hK6, hA, hN, HS6.out S6 hset, HSP.out S6 hset⟩ (Nat.le_refl _)
                  ⟨(HBK.out.below (HB7.out.mono HBW.out)).up hBw, HN.out, HGR.out w6 S _ hfx, HAL.out, fun b l y hb hy => by
                    rw [HAE.out, List.getElem?_map] at hb
                    rcases hq : (List.range n)[b]? with _ | b'
                    · rw [hq] at hb; cases hb
                    · rw [hq] at hb; cases hb; exact rowL_mem hy⟩ hno hfx.ln (fun b hb => by have := hfx.ord.lt b hb; have := HLN.out; omega) (phis_of HFN.out HPZ.out)
                rw [hP.uses AH c.blocks S6 HN.out.symm, ← hbu] at hU
                exact hU
              clear hbu hset
              go_wp2_with fail
              refine Calls.mono HUC.out ?_
              rintro e w7 ⟨rfl, hb7⟩
              have HB8 : Hid (Below w.heap.size w w7) := below_after HB7.out hb7
              clear hb7
              rcases b with _ | _
              · have HRW : Hid (RR = 12) := HRV.out
                go_wp2_with fail
                go_ret
                exact ⟨by rw [HRW.out]; rfl, HB8.out⟩
              · have HRW : Hid (RR = 0) := HRV.out
                go_wp2_with fail
                go_ret
                exact ⟨by rw [HRW.out]; rfl, HB8.out⟩
          · have hz' : (0 : Int) < (l0.length : Int) := by omega
            have HRU : Hid (RR = 4) := by unfold Hid; rw [HRT.out, ← HL0.out]; simp [hz]
            go_wp2_with fail
            go_ret
            exact ⟨by rw [HRU.out]; rfl, HB6.out⟩
        · have HRU : Hid (RR = p) := by unfold Hid; rw [HRS.out, ← HP.out, hpz]; rfl
          go_wp2_with fail
          go_ret
          exact ⟨by rw [HRU.out]; rfl, HB6.out⟩
    · have HRE : Hid (RR = r1) := by unfold Hid; rw [HRR.out]; unfold checkS; rw [← HR1.out, hr]; rfl
      go_wp2_with fail
      go_ret
      exact ⟨by rw [HRE.out]; rfl, HQ.out.1⟩

end Go.Proofs.YthlngmknifpbjaaDoor
