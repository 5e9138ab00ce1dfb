/-
  Package ssa: uppersOf's rows, as they are made. (gen_SbN.py writes this text.)
-/
import Derived.Test.YthlngmknifpbjaaDoorJSbN1
import Derived.Deep.CutRange
import Derived.Deep.Cut
namespace Go.Proofs.YthlngmknifpbjaaDoor
open Go.RowKit
set_option linter.unusedSimpArgs false
set_option linter.unusedVariables false

theorem make_run (n : Nat) (hn : n * 8 ≤ 140737488351232) (W : World) : (Instr.makeSlice 23 (.int .i64 (n : Nat)) (.int .i64 (n : Nat))).run Tryd.prog W = .ok (.slice (some ⟨W.heap.size, 0, none⟩) n n) (W.alloc (.cells (numsL (fnL n (fun _ => 0))).toArray 3)) := by
  obtain ⟨i1, hi1, hy0, hy1, hyb⟩ := infoParts infoInt
  have h := run_make (P := Tryd.prog) W 23 3 i1 _ (by kernel_rfl) hi1 hy0 .i64 .i64 (n : Nat) (n : Nat) (by omega) (Int.le_refl _) (by rw [hyb]; omega) (by omega)
  rw [h, hy1]
  have h1 : (madeCells #[Value.int .i64 0] n).toList = List.replicate n (.int .i64 0) := toList_madeCells_one _ _
  rw [fnL_const, ← h1, Int.toNat_natCast, Nat.mul_one, Array.toArray_toList]
  rfl

theorem rep_run (n : Nat) (hn : n * 8 ≤ 140737488351232) (W : World) (g : Nat) (hg : W.heap[g]? = some (.cells #[.int .i64 (-1)] 3)) :
    Calls Tryd.prog 46 #[.slice (some ⟨g, 0, none⟩) 1 1, .int .i64 (n : Nat)] W fun e w' =>
      ∃ g', e = .returned (.slice (some ⟨g', 0, none⟩) n n) ∧ w'.heap[g']? = some (.cells (numsL (fnL n (fun _ => -1))).toArray 3) ∧ W.heap.size ≤ g' ∧ g' < w'.heap.size ∧ Below W.heap.size W w' := by
  refine (repeat_any g n 1 (-1) W (lt_of_block hg) (by omega) (cellOne hg)).mono ?_
  rintro e w' ⟨g', rfl, hr, hb⟩
  exact ⟨g', rfl, hr.block, hr.lt.1, hr.lt.2, hb⟩

theorem nums_at {B m ko : Nat} {w : World} {ao : Option Addr} {o : List Nat} (h : Nums B w (.slice ao m ko) (natsL o)) (h0 : 0 < o.length) : ∃ go oo, ao = some ⟨go, oo, none⟩ ∧ go < B ∧ ∀ i b, o[i]? = some b → w.cell? ⟨go, oo + i, none⟩ = some (.int .i64 (b : Nat)) := by
  have hz : (natsL o)[0]? = some ((o[0] : Nat) : Int) := by unfold natsL; rw [List.getElem?_map, List.getElem?_eq_getElem h0]; rfl
  obtain ⟨go, oo, _, rfl, hlt, _, _, _⟩ := Lies.at h hz
  refine ⟨go, oo, rfl, hlt, fun i b hb => ?_⟩
  have hy : (natsL o)[i]? = some ((b : Nat) : Int) := by unfold natsL; rw [List.getElem?_map, hb]; rfl
  obtain ⟨_, _, cs, he, _, _, ⟨rfl, _⟩, hcl⟩ := Lies.at h hy
  cases he
  have := hcl 0 (by decide)
  simpa using this

theorem rows_at {B n k3 : Nat} {w : World} {a3 : Option Addr} {F : Nat → List Nat} (h : Rws B w (.slice a3 n k3) ((List.range n).map fun b => natsL (F b))) {b : Nat} (hb : b < n) :
    ∃ g3 o3 al kl, a3 = some ⟨g3, o3, none⟩ ∧ g3 < B ∧ w.cell? ⟨g3, o3 + b, none⟩ = some (.slice al (F b).length kl) ∧ Nums B w (.slice al (F b).length kl) (natsL (F b)) := by
  have hy : ((List.range n).map fun b => natsL (F b))[b]? = some (natsL (F b)) := by rw [List.getElem?_map, List.getElem?_range hb]; rfl
  obtain ⟨g3, o3, cs, rfl, hlt, _, ⟨u, rfl, hu⟩, hcl⟩ := Lies.at h hy
  obtain ⟨al, kl, rfl⟩ := Lies.slice hu
  have hl : (natsL (F b)).length = (F b).length := by simp [natsL]
  rw [hl] at hu hcl
  have := hcl 0 (by decide)
  exact ⟨g3, o3, al, kl, rfl, hlt, by simpa using this, hu⟩

def st0 : Obj := .cells #[.slice none 0 0, .slice none 0 0, .slice none 0 0, .int .i64 0] 83

structure U1 (w0 : World) (S n k3 : Nat) (a3 : Option Addr) (OB OR : Obj) (d0 d1 d2 d3 d4 d5 d6 d7 d8 d9 d10 d11 d12 : Bool) (v5 v15 v16 v17 v18 v19 v20 v21 v22 v23 v24 v25 : Value) (w : World) : Prop where
  bel : Below S w0 w
  c0 : d3 = false → SlB S (.cells #[.int .i64 (-1)] 3) 1 1 d0 v15 w
  c1 : d1 = true → v16 = Value.slice a3 n k3
  c2 : d2 = true → v17 = Value.int .i64 (n : Nat)
  c3 : SlB S OR n n d3 v18 w
  c4 : d4 = true → v19 = Value.slice a3 n k3
  c5 : d5 = true → v20 = Value.int .i64 (n : Nat)
  c6 : SlB S OB n n d6 v21 w
  c7 : d7 = true → v22 = Value.slice a3 n k3
  c8 : d8 = true → v23 = Value.int .i64 (n : Nat)
  c9 : SlB S OB n n d9 v24 w
  c10 : d10 = true → v25 = .agg #[v18, v21, v24, .int .i64 0]
  c11 : d12 = false → PtB S st0 d11 v5 w
  c12 : d12 = true → PtB S (Obj.cells #[v18, v21, v24, .int .i64 0] 83) d11 v5 w
  x36 : Dis d3 d6 v18 v21
  x39 : Dis d3 d9 v18 v24
  x69 : Dis d6 d9 v21 v24
  x3p : Dis d3 d11 v18 v5
  x6p : Dis d6 d11 v21 v5
  x9p : Dis d9 d11 v24 v5
  o3 : d3 = true → d0 = true
  o10 : d10 = true → d3 = true ∧ d6 = true ∧ d9 = true
  o12 : d12 = true → d10 = true ∧ d11 = true

theorem U1.keep {w0 : World} {S n k3 : Nat} {a3 : Option Addr} {OB OR : Obj} {d0 d1 d2 d3 d4 d5 d6 d7 d8 d9 d10 d11 d12 : Bool} {v5 v15 v16 v17 v18 v19 v20 v21 v22 v23 v24 v25 : Value} {w w' : World} (h : U1 w0 S n k3 a3 OB OR d0 d1 d2 d3 d4 d5 d6 d7 d8 d9 d10 d11 d12 v5 v15 v16 v17 v18 v19 v20 v21 v22 v23 v24 v25 w) (hS : S ≤ w0.heap.size) (k : Below w.heap.size w w') : U1 w0 S n k3 a3 OB OR d0 d1 d2 d3 d4 d5 d6 d7 d8 d9 d10 d11 d12 v5 v15 v16 v17 v18 v19 v20 v21 v22 v23 v24 v25 w' :=
  ⟨h.bel.trans (k.mono (Nat.le_trans hS h.bel.size)), fun hd => (h.c0 hd).keep k, h.c1, h.c2, h.c3.keep k, h.c4, h.c5, h.c6.keep k, h.c7, h.c8, h.c9.keep k, h.c10, fun hd => (h.c11 hd).keep k, fun hd => (h.c12 hd).keep k, h.x36, h.x39, h.x69, h.x3p, h.x6p, h.x9p, h.o3, h.o10, h.o12⟩

set_option maxHeartbeats 40000000 in
set_option maxRecDepth 20000 in
theorem uppers_any (L : List (List Int)) (o : List Nat) (B n k3 ko m : Nat) (a3 ao : Option Addr) (w : World) (hB : B ≤ w.heap.size) (hn : n = L.length) (hm : m = o.length) (hsz : n ≤ 1048576)
    (hA : Rws B w (.slice a3 n k3) ((List.range n).map fun b => natsL (preL L b))) (hO : Nums B w (.slice ao m ko) (natsL o)) (hko : m ≤ ko) (hord : 0 < n → Ordered L o) (h0 : n = 0 → o = []) :
    Calls Tryd.prog 30 #[.slice a3 n k3, .slice ao m ko] w fun e w' => ∃ g, e = .returned (.slice (some ⟨g, 0, none⟩) n n) ∧ Below w.heap.size w w' ∧ ∃ u, RowI w' w.heap.size g n (upI u) ∧ (0 < n → UpOf L o u) := by
  obtain ⟨r, hr⟩ : ∃ r : Nat → Nat, r = fun x => o.idxOf x := ⟨_, rfl⟩
  have HRE : Hid (r = fun x => o.idxOf x) := hr
  obtain ⟨p, hp⟩ : ∃ p, 0 < n → Ranks (preL L) (fun x => o.idxOf x) p := by
    by_cases h : 0 < n
    · obtain ⟨p, hp⟩ := (hord h).ranks; exact ⟨p, fun _ => hp⟩
    · exact ⟨id, fun h' => absurd h' h⟩
  rw [← hr] at hp
  have HRK : Hid (_) := hp
  have HORD : Hid (_) := hord
  have HM : Hid (m = o.length) := hm
  have HN : Hid (n = L.length) := hn
  have HN20 : Hid (n ≤ 1048576) := hsz
  have HN63 : Hid (n ≤ maxLen) := by unfold Hid maxLen; omega
  have HLT : Hid (∀ b, b ∈ o → b < n) := by
    intro b hb
    by_cases h : 0 < n
    · have := (hord h).lt b hb; omega
    · rw [h0 (by omega)] at hb; cases hb
  have HND : Hid (o.Nodup) := by
    by_cases h : 0 < n
    · exact (hord h).nodup
    · rw [show o = [] from h0 (by omega)]; exact List.nodup_nil
  have HMN : Hid (m ≤ n) := by
    have h1 : o.length ≤ (List.range n).length := List.Nodup.length_le_of_subset HND.out (fun x hx => List.mem_range.2 (HLT.out x hx))
    unfold Hid; rw [List.length_range] at h1; omega
  have HAA : Hid (_) := hA
  have HOO : Hid (Nums B w (.slice ao m ko) (natsL o)) := hO
  have HKO : Hid (m ≤ ko) := hko
  have hm20 : m ≤ 1048576 := by have := HMN.out; omega
  obtain ⟨vo, hvo⟩ : ∃ vo, vo = Value.slice ao m ko := ⟨_, rfl⟩
  have HVO : Hid (vo = Value.slice ao m ko) := hvo
  rw [← hvo]
  clear hvo hr hp hord hm hn hA hO hko h0
  obtain ⟨OB, hOB⟩ : ∃ OB, OB = (.cells (numsL (fnL n (fun _ => 0))).toArray 3 : Obj) := ⟨_, rfl⟩
  have hmk := make_run n (by omega)
  rw [← hOB] at hmk
  have HOB : Hid (OB = _) := hOB
  obtain ⟨OR, hOR⟩ : ∃ OR, OR = (.cells (numsL (fnL n (fun _ => -1))).toArray 3 : Obj) := ⟨_, rfl⟩
  have HOR : Hid (OR = _) := hOR
  have HREP : Hid (∀ (W : World) (g : Nat), W.heap[g]? = some (.cells #[.int .i64 (-1)] 3) → Calls Tryd.prog 46 #[.slice (some ⟨g, 0, none⟩) 1 1, .int .i64 (n : Nat)] W fun e w' =>
      ∃ g', e = .returned (.slice (some ⟨g', 0, none⟩) n n) ∧ w'.heap[g']? = some OR ∧ W.heap.size ≤ g' ∧ g' < w'.heap.size ∧ Below W.heap.size W w') := by
    rw [hOR]; exact rep_run n (by omega)
  obtain ⟨S, hS⟩ : ∃ S, S = w.heap.size := ⟨_, rfl⟩
  have HSE : Hid (S = w.heap.size) := hS
  have HSl0 : Hid (S ≤ w.heap.size) := by unfold Hid; omega
  have HBS : Hid (B ≤ S) := by unfold Hid; omega
  clear hOB hOR hS hB
  go_enter Tryd.func30, Tryd.ntmps30
  go_upto_region 1 with fail
  go_cut [5] from 15 to 25 (fun s5 wx => ∃ C gu gr gm : Nat, s5 = .pointer (some ⟨C, 0, none⟩) ∧ Hid (wx.heap[gu]? = some OR ∧ wx.heap[gr]? = some OB ∧ wx.heap[gm]? = some OB ∧
    wx.heap[C]? = some (.cells #[.slice (some ⟨gu, 0, none⟩) n n, .slice (some ⟨gr, 0, none⟩) n n, .slice (some ⟨gm, 0, none⟩) n n, .int .i64 0] 83) ∧ gu ≠ gr ∧ gu ≠ gm ∧ gr ≠ gm ∧ C ≠ gu ∧ C ≠ gr ∧ C ≠ gm ∧ w.heap.size ≤ gu ∧ w.heap.size ≤ gr ∧ w.heap.size ≤ gm ∧ w.heap.size ≤ C ∧ Below w.heap.size w wx))
  case first =>
    refine wp_region_any (by kernel_rfl) ?_
    refine wpAny_inv (fun listed a wx => ∃ d0 d1 d2 d3 d4 d5 d6 d7 d8 d9 d10 d11 d12 : Bool, listed = #[d0, d1, d2, d3, d4, d5, d6, d7, d8, d9, d10, d11, d12] ∧ ∃ v5 v15 v16 v17 v18 v19 v20 v21 v22 v23 v24 v25 : Value, a = { tmps := #[Value.slice a3 n k3, vo, undef, undef, Value.slice none 0 0, v5, undef, undef, undef, undef, undef, undef, undef, undef, undef, v15, v16, v17, v18, v19, v20, v21, v22, v23, v24, v25, undef, undef, undef, undef, undef, undef, undef, undef, undef, undef, undef, undef, undef, undef, undef, undef, undef, undef, undef, undef, undef, undef, undef, undef, undef, undef, undef, undef, undef, undef, undef, undef, undef, undef, undef, undef, undef, undef, undef, undef, undef, undef, undef, undef, undef, undef, undef, undef, undef, undef, undef, undef, undef, undef, undef, undef, undef, undef, undef, undef, undef, undef, undef, undef, undef, undef, undef, undef, undef, undef, undef, undef, undef, undef, undef, undef, undef, undef, undef, undef, undef], defers := [] } ∧ Hid (U1 w S n k3 a3 OB OR d0 d1 d2 d3 d4 d5 d6 d7 d8 d9 d10 d11 d12 v5 v15 v16 v17 v18 v19 v20 v21 v22 v23 v24 v25 wx)) ?_ ?_ _ _ _ _ (Nat.le_of_eq (by kernel_rfl)) ?_
    · rintro listed a wx i ⟨d0, d1, d2, d3, d4, d5, d6, d7, d8, d9, d10, d11, d12, rfl, v5, v15, v16, v17, v18, v19, v20, v21, v22, v23, v24, v25, rfl, H⟩ hi
      obtain ⟨hi0, hi1, hi2⟩ := ready_mem hi
      clear hi
      have hi0 : i < 13 := hi0
      have hcase : i = 0 ∨ i = 1 ∨ i = 2 ∨ i = 3 ∨ i = 4 ∨ i = 5 ∨ i = 6 ∨ i = 7 ∨ i = 8 ∨ i = 9 ∨ i = 10 ∨ i = 11 ∨ i = 12 := by omega
      clear hi0
      rcases hcase with rfl | rfl | rfl | rfl | rfl | rfl | rfl | rfl | rfl | rfl | rfl | rfl | rfl
      all_goals (simp [Region.binds] at hi1 hi2)
      · have HSl : Hid (S ≤ wx.heap.size) := Nat.le_trans HSl0.out H.out.bel.size
        obtain rfl : d0 = false := by simpa using hi1
        clear hi1
        refine wpOp_step rfl (fun K' hK => ?_)
        go_simp
        refine hK _ _ ?_
        have hnew := heap_alloc_new wx (.cells #[.int .i64 (-1)] 3)
        have hle : wx.heap.size ≤ wx.heap.size := Nat.le_refl _
        have h := H.out.keep HSl0.out (below_alloc wx (.cells #[.int .i64 (-1)] 3))
        exact ⟨true, d1, d2, d3, d4, d5, d6, d7, d8, d9, d10, d11, d12, rfl, _, _, _, _, _, _, _, _, _, _, _, _, rfl, ⟨h.bel, fun _ => SlB.new hnew (HSl.out), h.c1, h.c2, h.c3, h.c4, h.c5, h.c6, h.c7, h.c8, h.c9, h.c10, h.c11, h.c12, h.x36, h.x39, h.x69, h.x3p, h.x6p, h.x9p, fun _ => rfl, h.o10, h.o12⟩⟩
      · have HSl : Hid (S ≤ wx.heap.size) := Nat.le_trans HSl0.out H.out.bel.size
        obtain rfl : d1 = false := by simpa using hi1
        clear hi1
        refine wpOp_step rfl (fun K' hK => ?_)
        go_simp
        refine hK _ _ ?_
        have h := H.out
        exact ⟨d0, true, d2, d3, d4, d5, d6, d7, d8, d9, d10, d11, d12, rfl, _, _, _, _, _, _, _, _, _, _, _, _, rfl, ⟨h.bel, h.c0, fun _ => rfl, h.c2, h.c3, h.c4, h.c5, h.c6, h.c7, h.c8, h.c9, h.c10, h.c11, h.c12, h.x36, h.x39, h.x69, h.x3p, h.x6p, h.x9p, h.o3, h.o10, h.o12⟩⟩
      · have HSl : Hid (S ≤ wx.heap.size) := Nat.le_trans HSl0.out H.out.bel.size
        obtain rfl : d2 = false := by simpa using hi1
        obtain rfl : d1 = true := by simpa using hi2
        clear hi1 hi2
        obtain rfl := H.out.c1 rfl
        refine wpOp_step rfl (fun K' hK => ?_)
        go_simp
        refine hK _ _ ?_
        have h := H.out
        exact ⟨d0, true, true, d3, d4, d5, d6, d7, d8, d9, d10, d11, d12, rfl, _, _, _, _, _, _, _, _, _, _, _, _, rfl, ⟨h.bel, h.c0, h.c1, fun _ => rfl, h.c3, h.c4, h.c5, h.c6, h.c7, h.c8, h.c9, h.c10, h.c11, h.c12, h.x36, h.x39, h.x69, h.x3p, h.x6p, h.x9p, h.o3, h.o10, h.o12⟩⟩
      · have HSl : Hid (S ≤ wx.heap.size) := Nat.le_trans HSl0.out H.out.bel.size
        obtain rfl : d3 = false := by simpa using hi1
        obtain ⟨rfl, rfl⟩ := hi2
        clear hi1
        have hd12 : d12 = false := by
          rcases hq : d12 with _ | _
          · rfl
          · have q := H.out.o12 hq
            have q2 := H.out.o10 q.1
            cases q2.1
        obtain rfl := H.out.c2 rfl
        obtain ⟨g, rfl, hg, hs⟩ := H.out.c0 rfl rfl
        refine wpOp_step rfl (fun K' hK => ?_)
        go_simp
        go_wp2_with (go_at_call 46; refine Calls.mono (HREP.out _ _ hg) ?_; rintro e w1 ⟨g', rfl, hnew, hle, hlt, hk⟩)
        have h := H.out.keep HSl0.out hk
        exact ⟨true, d1, true, true, d4, d5, d6, d7, d8, d9, d10, d11, d12, rfl, _, _, _, _, _, _, _, _, _, _, _, _, rfl, ⟨h.bel, (fun hd => nomatch hd), h.c1, h.c2, SlB.new hnew (Nat.le_trans HSl.out hle), h.c4, h.c5, h.c6, h.c7, h.c8, h.c9, (fun hd => nomatch (H.out.o10 hd).1), h.c11, (fun hd => by rw [hd12] at hd; cases hd), (SlB.apart H.out.c6 rfl hle).symm, (SlB.apart H.out.c9 rfl hle).symm, h.x69, (PtB.apart (H.out.c11 hd12) rfl hle).symm, h.x6p, h.x9p, fun _ => rfl, (fun hd => nomatch (H.out.o10 hd).1), h.o12⟩⟩
      · have HSl : Hid (S ≤ wx.heap.size) := Nat.le_trans HSl0.out H.out.bel.size
        obtain rfl : d4 = false := by simpa using hi1
        clear hi1
        refine wpOp_step rfl (fun K' hK => ?_)
        go_simp
        refine hK _ _ ?_
        have h := H.out
        exact ⟨d0, d1, d2, d3, true, d5, d6, d7, d8, d9, d10, d11, d12, rfl, _, _, _, _, _, _, _, _, _, _, _, _, rfl, ⟨h.bel, h.c0, h.c1, h.c2, h.c3, fun _ => rfl, h.c5, h.c6, h.c7, h.c8, h.c9, h.c10, h.c11, h.c12, h.x36, h.x39, h.x69, h.x3p, h.x6p, h.x9p, h.o3, h.o10, h.o12⟩⟩
      · have HSl : Hid (S ≤ wx.heap.size) := Nat.le_trans HSl0.out H.out.bel.size
        obtain rfl : d5 = false := by simpa using hi1
        obtain rfl : d4 = true := by simpa using hi2
        clear hi1 hi2
        obtain rfl := H.out.c4 rfl
        refine wpOp_step rfl (fun K' hK => ?_)
        go_simp
        refine hK _ _ ?_
        have h := H.out
        exact ⟨d0, d1, d2, d3, true, true, d6, d7, d8, d9, d10, d11, d12, rfl, _, _, _, _, _, _, _, _, _, _, _, _, rfl, ⟨h.bel, h.c0, h.c1, h.c2, h.c3, h.c4, fun _ => rfl, h.c6, h.c7, h.c8, h.c9, h.c10, h.c11, h.c12, h.x36, h.x39, h.x69, h.x3p, h.x6p, h.x9p, h.o3, h.o10, h.o12⟩⟩
      · have HSl : Hid (S ≤ wx.heap.size) := Nat.le_trans HSl0.out H.out.bel.size
        obtain rfl : d6 = false := by simpa using hi1
        obtain rfl : d5 = true := by simpa using hi2
        clear hi1 hi2
        obtain rfl := H.out.c5 rfl
        have hd12 : d12 = false := by
          rcases hq : d12 with _ | _
          · rfl
          · have q := H.out.o12 hq
            have q2 := H.out.o10 q.1
            cases q2.2.1
        refine wpOp_step rfl (fun K' hK => ?_)
        go_simp
        refine hK _ _ ?_
        have hnew := heap_alloc_new wx OB
        have hle : wx.heap.size ≤ wx.heap.size := Nat.le_refl _
        have h := H.out.keep HSl0.out (below_alloc wx OB)
        exact ⟨d0, d1, d2, d3, d4, true, true, d7, d8, d9, d10, d11, d12, rfl, _, _, _, _, _, _, _, _, _, _, _, _, rfl, ⟨h.bel, h.c0, h.c1, h.c2, h.c3, h.c4, h.c5, SlB.new hnew (Nat.le_trans HSl.out hle), h.c7, h.c8, h.c9, (fun hd => nomatch (H.out.o10 hd).2.1), h.c11, (fun hd => by rw [hd12] at hd; cases hd), SlB.apart H.out.c3 rfl hle, h.x39, (SlB.apart H.out.c9 rfl hle).symm, h.x3p, (PtB.apart (H.out.c11 hd12) rfl hle).symm, h.x9p, h.o3, (fun hd => nomatch (H.out.o10 hd).2.1), h.o12⟩⟩
      · have HSl : Hid (S ≤ wx.heap.size) := Nat.le_trans HSl0.out H.out.bel.size
        obtain rfl : d7 = false := by simpa using hi1
        clear hi1
        refine wpOp_step rfl (fun K' hK => ?_)
        go_simp
        refine hK _ _ ?_
        have h := H.out
        exact ⟨d0, d1, d2, d3, d4, d5, d6, true, d8, d9, d10, d11, d12, rfl, _, _, _, _, _, _, _, _, _, _, _, _, rfl, ⟨h.bel, h.c0, h.c1, h.c2, h.c3, h.c4, h.c5, h.c6, fun _ => rfl, h.c8, h.c9, h.c10, h.c11, h.c12, h.x36, h.x39, h.x69, h.x3p, h.x6p, h.x9p, h.o3, h.o10, h.o12⟩⟩
      · have HSl : Hid (S ≤ wx.heap.size) := Nat.le_trans HSl0.out H.out.bel.size
        obtain rfl : d8 = false := by simpa using hi1
        obtain rfl : d7 = true := by simpa using hi2
        clear hi1 hi2
        obtain rfl := H.out.c7 rfl
        refine wpOp_step rfl (fun K' hK => ?_)
        go_simp
        refine hK _ _ ?_
        have h := H.out
        exact ⟨d0, d1, d2, d3, d4, d5, d6, true, true, d9, d10, d11, d12, rfl, _, _, _, _, _, _, _, _, _, _, _, _, rfl, ⟨h.bel, h.c0, h.c1, h.c2, h.c3, h.c4, h.c5, h.c6, h.c7, fun _ => rfl, h.c9, h.c10, h.c11, h.c12, h.x36, h.x39, h.x69, h.x3p, h.x6p, h.x9p, h.o3, h.o10, h.o12⟩⟩
      · have HSl : Hid (S ≤ wx.heap.size) := Nat.le_trans HSl0.out H.out.bel.size
        obtain rfl : d9 = false := by simpa using hi1
        obtain rfl : d8 = true := by simpa using hi2
        clear hi1 hi2
        obtain rfl := H.out.c8 rfl
        have hd12 : d12 = false := by
          rcases hq : d12 with _ | _
          · rfl
          · have q := H.out.o12 hq
            have q2 := H.out.o10 q.1
            cases q2.2.2
        refine wpOp_step rfl (fun K' hK => ?_)
        go_simp
        refine hK _ _ ?_
        have hnew := heap_alloc_new wx OB
        have hle : wx.heap.size ≤ wx.heap.size := Nat.le_refl _
        have h := H.out.keep HSl0.out (below_alloc wx OB)
        exact ⟨d0, d1, d2, d3, d4, d5, d6, d7, true, true, d10, d11, d12, rfl, _, _, _, _, _, _, _, _, _, _, _, _, rfl, ⟨h.bel, h.c0, h.c1, h.c2, h.c3, h.c4, h.c5, h.c6, h.c7, h.c8, SlB.new hnew (Nat.le_trans HSl.out hle), (fun hd => nomatch (H.out.o10 hd).2.2), h.c11, (fun hd => by rw [hd12] at hd; cases hd), h.x36, SlB.apart H.out.c3 rfl hle, SlB.apart H.out.c6 rfl hle, h.x3p, h.x6p, (PtB.apart (H.out.c11 hd12) rfl hle).symm, h.o3, (fun hd => nomatch (H.out.o10 hd).2.2), h.o12⟩⟩
      · have HSl : Hid (S ≤ wx.heap.size) := Nat.le_trans HSl0.out H.out.bel.size
        obtain rfl : d10 = false := by simpa using hi1
        obtain ⟨rfl, rfl, rfl⟩ := hi2
        clear hi1
        have hd12 : d12 = false := by
          rcases hq : d12 with _ | _
          · rfl
          · have q := H.out.o12 hq
            cases q.1
        obtain ⟨gu, rfl, hgu, _⟩ := H.out.c3 rfl
        obtain ⟨gr, rfl, hgr, _⟩ := H.out.c6 rfl
        obtain ⟨gm, rfl, hgm, _⟩ := H.out.c9 rfl
        clear hgu hgr hgm
        refine wpOp_step rfl (fun K' hK => ?_)
        go_simp
        refine hK _ _ ?_
        have h := H.out
        exact ⟨d0, d1, d2, true, d4, d5, true, d7, d8, true, true, d11, d12, rfl, _, _, _, _, _, _, _, _, _, _, _, _, rfl, ⟨h.bel, h.c0, h.c1, h.c2, h.c3, h.c4, h.c5, h.c6, h.c7, h.c8, h.c9, fun _ => rfl, h.c11, (fun hd => by rw [hd12] at hd; cases hd), h.x36, h.x39, h.x69, h.x3p, h.x6p, h.x9p, h.o3, fun _ => ⟨rfl, rfl, rfl⟩, (fun hd => by rw [hd12] at hd; cases hd)⟩⟩
      · have HSl : Hid (S ≤ wx.heap.size) := Nat.le_trans HSl0.out H.out.bel.size
        obtain rfl : d11 = false := by simpa using hi1
        clear hi1
        have hd12 : d12 = false := by
          rcases hq : d12 with _ | _
          · rfl
          · have q := H.out.o12 hq
            cases q.2
        refine wpOp_step rfl (fun K' hK => ?_)
        go_simp
        refine hK _ _ ?_
        have hnew := heap_alloc_new wx st0
        have hle : wx.heap.size ≤ wx.heap.size := Nat.le_refl _
        have h := H.out.keep HSl0.out (below_alloc wx st0)
        exact ⟨d0, d1, d2, d3, d4, d5, d6, d7, d8, d9, d10, true, d12, rfl, _, _, _, _, _, _, _, _, _, _, _, _, rfl, ⟨h.bel, h.c0, h.c1, h.c2, h.c3, h.c4, h.c5, h.c6, h.c7, h.c8, h.c9, h.c10, fun _ => PtB.new hnew (Nat.le_trans HSl.out hle), (fun hd => by rw [hd12] at hd; cases hd), h.x36, h.x39, h.x69, SlB.apart H.out.c3 rfl hle, SlB.apart H.out.c6 rfl hle, SlB.apart H.out.c9 rfl hle, h.o3, h.o10, (fun hd => by rw [hd12] at hd; cases hd)⟩⟩
      · obtain rfl : d12 = false := by simpa using hi1
        obtain ⟨rfl, rfl, rfl, rfl, rfl, rfl, rfl, rfl, rfl, rfl, rfl, rfl⟩ : d0 = true ∧ d1 = true ∧ d2 = true ∧ d3 = true ∧ d4 = true ∧ d5 = true ∧ d6 = true ∧ d7 = true ∧ d8 = true ∧ d9 = true ∧ d10 = true ∧ d11 = true := by simp_all
        clear hi1
        obtain rfl := H.out.c10 rfl
        obtain ⟨g, rfl, hg, hs⟩ := H.out.c11 rfl rfl
        obtain ⟨gu, rfl, hgu, _⟩ := H.out.c3 rfl
        obtain ⟨gr, rfl, hgr, _⟩ := H.out.c6 rfl
        obtain ⟨gm, rfl, hgm, _⟩ := H.out.c9 rfl
        clear hgu hgr hgm
        obtain ⟨q0, q1, q2, q3⟩ := cells4 hg
        have z0 := thawAny hg 0
        have z1 := thawAny hg 1
        have z2 := thawAny hg 2
        have z3 := thawAny hg 3
        have HG : Hid (_) := hg
        clear hg
        refine wpOp_step rfl (fun K' hK => ?_)
        go_simp
        refine hK _ _ ?_
        have hk : ∀ k, k ≠ g → ((((wx.setCell ⟨g, 0, none⟩ (.slice (some ⟨gu, 0, none⟩) n n)).setCell ⟨g, 1, none⟩ (.slice (some ⟨gr, 0, none⟩) n n)).setCell ⟨g, 2, none⟩ (.slice (some ⟨gm, 0, none⟩) n n)).setCell ⟨g, 3, none⟩ (.int .i64 0)).heap[k]? = wx.heap[k]? := fun k hk => (Below.heap_setCell _ _ _ _ hk).trans ((Below.heap_setCell _ _ _ _ hk).trans ((Below.heap_setCell _ _ _ _ hk).trans (Below.heap_setCell _ _ _ _ hk)))
        have hnew : ((((wx.setCell ⟨g, 0, none⟩ (.slice (some ⟨gu, 0, none⟩) n n)).setCell ⟨g, 1, none⟩ (.slice (some ⟨gr, 0, none⟩) n n)).setCell ⟨g, 2, none⟩ (.slice (some ⟨gm, 0, none⟩) n n)).setCell ⟨g, 3, none⟩ (.int .i64 0)).heap[g]? = some (.cells #[.slice (some ⟨gu, 0, none⟩) n n, .slice (some ⟨gr, 0, none⟩) n n, .slice (some ⟨gm, 0, none⟩) n n, .int .i64 0] 83) := by
          have a1 := heap_setCell_same (o := 0) HG.out (.slice (some ⟨gu, 0, none⟩) n n)
          have a2 := heap_setCell_same (o := 1) a1 (.slice (some ⟨gr, 0, none⟩) n n)
          have a3 := heap_setCell_same (o := 2) a2 (.slice (some ⟨gm, 0, none⟩) n n)
          have a4 := heap_setCell_same (o := 3) a3 (.int .i64 0)
          simpa using a4
        exact ⟨true, true, true, true, true, true, true, true, true, true, true, true, true, rfl, _, _, _, _, _, _, _, _, _, _, _, _, rfl, ⟨below_set (below_set (below_set (below_set H.out.bel hs _) hs _) hs _) hs _, (fun hd => nomatch hd), H.out.c1, H.out.c2, H.out.c3.off hk H.out.x3p, H.out.c4, H.out.c5, H.out.c6.off hk H.out.x6p, H.out.c7, H.out.c8, H.out.c9.off hk H.out.x9p, H.out.c10, (fun hd => nomatch hd), fun _ => PtB.new hnew hs, H.out.x36, H.out.x39, H.out.x69, H.out.x3p, H.out.x6p, H.out.x9p, H.out.o3, H.out.o10, fun _ => ⟨rfl, rfl⟩⟩⟩

    · rintro listed a wx ⟨d0, d1, d2, d3, d4, d5, d6, d7, d8, d9, d10, d11, d12, rfl, v5, v15, v16, v17, v18, v19, v20, v21, v22, v23, v24, v25, rfl, H⟩ hr
      obtain rfl : d0 = true := by simpa using ready_none hr 0 (by decide) (by simp [Region.binds])
      obtain rfl : d1 = true := by simpa using ready_none hr 1 (by decide) (by simp [Region.binds])
      obtain rfl : d2 = true := by simpa using ready_none hr 2 (by decide) (by simp [Region.binds])
      obtain rfl : d3 = true := by simpa using ready_none hr 3 (by decide) (by simp [Region.binds])
      obtain rfl : d4 = true := by simpa using ready_none hr 4 (by decide) (by simp [Region.binds])
      obtain rfl : d5 = true := by simpa using ready_none hr 5 (by decide) (by simp [Region.binds])
      obtain rfl : d6 = true := by simpa using ready_none hr 6 (by decide) (by simp [Region.binds])
      obtain rfl : d7 = true := by simpa using ready_none hr 7 (by decide) (by simp [Region.binds])
      obtain rfl : d8 = true := by simpa using ready_none hr 8 (by decide) (by simp [Region.binds])
      obtain rfl : d9 = true := by simpa using ready_none hr 9 (by decide) (by simp [Region.binds])
      obtain rfl : d10 = true := by simpa using ready_none hr 10 (by decide) (by simp [Region.binds])
      obtain rfl : d11 = true := by simpa using ready_none hr 11 (by decide) (by simp [Region.binds])
      obtain rfl : d12 = true := by simpa using ready_none hr 12 (by decide) (by simp [Region.binds])
      obtain ⟨gu, rfl, hgu, su⟩ := H.out.c3 rfl
      obtain ⟨gr, rfl, hgr, sr⟩ := H.out.c6 rfl
      obtain ⟨gm, rfl, hgm, sm⟩ := H.out.c9 rfl
      obtain ⟨C, rfl, hC, sC⟩ := H.out.c12 rfl rfl
      have x1 := H.out.x36 rfl rfl
      have x2 := H.out.x39 rfl rfl
      have x3 := H.out.x69 rfl rfl
      have x4 := H.out.x3p rfl rfl
      have x5 := H.out.x6p rfl rfl
      have x6 := H.out.x9p rfl rfl
      simp only [blkOf, ne_eq, Option.some.injEq] at x1 x2 x3 x4 x5 x6
      have hs := HSE.out
      have HF : Hid (_) := And.intro hgu (And.intro hgr (And.intro hgm (And.intro hC (And.intro x1 (And.intro x2 (And.intro x3 (And.intro (Ne.symm x4) (And.intro (Ne.symm x5) (And.intro (Ne.symm x6) (And.intro (hs ▸ su) (And.intro (hs ▸ sr) (And.intro (hs ▸ sm) (And.intro (hs ▸ sC) (hs ▸ H.out.bel))))))))))))))
      clear hgu hgr hgm hC x1 x2 x3 x4 x5 x6 hr
      go_wp2_with fail
      go_meet
      first | (case rel => exact ⟨C, gu, gr, gm, rfl, HF⟩) | exact ⟨C, gu, gr, gm, rfl, HF⟩
    · exact ⟨false, false, false, false, false, false, false, false, false, false, false, false, false, rfl, _, _, _, _, _, _, _, _, _, _, _, _, rfl, ⟨(show Below S w _ from ⟨rfl, rfl, rfl, Nat.le_refl _, fun k hk => rfl⟩), fun _ => SlB.no _ _, (fun hd => nomatch hd), (fun hd => nomatch hd), SlB.no _ _, (fun hd => nomatch hd), (fun hd => nomatch hd), SlB.no _ _, (fun hd => nomatch hd), (fun hd => nomatch hd), SlB.no _ _, (fun hd => nomatch hd), fun _ => PtB.no _ _, fun _ => PtB.no _ _, Dis.no, Dis.no, Dis.no, Dis.no, Dis.no, Dis.no, (fun hd => nomatch hd), (fun hd => nomatch hd), (fun hd => nomatch hd)⟩⟩
  case rest =>
    obtain ⟨C, gu, gr, gm, rfl, HF⟩ := hcut
    have HD0 : Hid (CL wc S n C gu gr gm (upI fun _ => none) (rkF o 0) (fun _ => 0) ((0 : Nat) : Int) ∧ Below S w wc) := by
      obtain ⟨f1, f2, f3, f4, f5, f6, f7, f8, f9, f10, f11, f12, f13, f14, f15⟩ := HF.out
      rw [← HSE.out] at f11 f12 f13 f14 f15
      rw [HOR.out] at f1
      rw [HOB.out] at f2 f3
      rw [rkF_zero]
      exact ⟨⟨f4, rowI_of_block f1 f11 HN63.out, rowI_of_block f2 f12 HN63.out, rowI_of_block f3 f13 HN63.out, f5, f6, f7, f8, f9, f10, f14⟩, f15⟩
    clear HF hmk HOB HOR HREP HSl0
    obtain rfl := HVO.out
    go_wp2_with fail
    go_loopg [28] m (fun g s28 wr => ∃ i : Nat, s28 = .int .i64 (i : Nat) ∧ i + g = m ∧ Hid (CL wr S n C gu gr gm (upI fun _ => none) (rkF o i) (fun _ => 0) ((0 : Nat) : Int) ∧ Below S w wr))
    case atStart => exact ⟨0, rfl, by omega, HD0⟩
    case round =>
      clear HD0
      obtain ⟨i, rfl, hi', HD⟩ := hrel
      cases gk with
      | succ g1 =>
        have hlt : (i : Int) < (m : Int) := by omega
        have him : i < o.length := by have := HM.out; omega
        obtain ⟨go, oo, rfl, hgo, hat⟩ := nums_at HOO.out (by omega)
        have hget : o[i]? = some o[i] := List.getElem?_eq_getElem him
        generalize o[i] = b at hget
        have hbn : b < n := HLT.out b (List.mem_of_getElem? hget)
        have q1 := (HD.out.2.cell (p := ⟨go, oo + i, none⟩) (show go < S by have := HBS.out; omega)).trans (hat i b hget)
        have q2 := HD.out.1.cells.2.1
        obtain ⟨q3, q4⟩ := HD.out.1.rR.get hbn
        have HD2 : Hid (CL (wr.setCell ⟨gr, b, none⟩ (.int .i64 (i : Nat))) S n C gu gr gm (upI fun _ => none) (rkF o (i + 1)) (fun _ => 0) ((0 : Nat) : Int) ∧ Below S w (wr.setCell ⟨gr, b, none⟩ (.int .i64 (i : Nat)))) := by
          have h1 := HD.out.1.rank hbn (i : Nat)
          rw [rkF_set (HND.out) hget] at h1
          exact ⟨h1, below_set HD.out.2 HD.out.1.rR.lt.1 _⟩
        have hbI : (b : Int) < (n : Int) := by omega
        clear hat hget
        go_wp2_with fail
        go_roundg g1
        case measure => omega
        case rel => exact ⟨i + 1, by go_num, by omega, HD2⟩
      | zero =>
        have hlt : ¬ (i : Int) < (m : Int) := by omega
        have e : i = m := by omega
        subst e
        go_wp2_with fail
        go_loopg [8] (n * (n + 1) + 1) (fun g s8 wr => ∃ (ch : Bool) (u : Nat → Option Nat) (M : Nat → Int) (cl : Nat), s8 = .bool ch ∧ (ch = true → phi n r u n + 1 ≤ g) ∧ Hid (cl + g * i ≤ 4611686018427387904) ∧ Hid (CL wr S n C gu gr gm (upI u) (rkF o i) M (cl : Nat) ∧ Below S w wr) ∧ Hid (∀ x, x < n → M x ≤ (cl : Nat)) ∧ Hid (ch = true → 2 ≤ i ∧ Rnd (preL L) r p u 1) ∧ Hid (ch = false → 0 < n → UpOf L o u))
        case atStart =>
          refine ⟨_, fun _ => none, fun _ => 0, 0, rfl, fun _ => by rw [phi_none]; omega, ?_, HD, fun x _ => Int.le_refl _, fun h => ?_, fun h h0 => ?_⟩
          · unfold Hid
            rw [Nat.zero_add]
            have h1 : n * (n + 1) + 1 ≤ 1048576 * (1048576 + 1) + 1 := Nat.succ_le_succ (Nat.mul_le_mul HN20.out (by have := HN20.out; omega))
            have h2 : i ≤ n := HMN.out
            have h3 : (n * (n + 1) + 1) * i ≤ (1048576 * (1048576 + 1) + 1) * 1048576 := Nat.mul_le_mul h1 (by have := HN20.out; omega)
            omega
          · have h2 : 2 ≤ i := by
              have := of_decide_eq_true h
              omega
            have hn0 : 0 < n := by have := HMN.out; omega
            exact ⟨h2, Rnd.first (HRK.out hn0)⟩
          · refine UpOf.one (HORD.out h0) ?_
            have := of_decide_eq_false h
            have := HM.out
            omega
        case round =>
          clear HD
          obtain ⟨ch, u, M, cl, rfl, hg, HK, HD, HMX, HT, HFN⟩ := hrel
          cases ch with
          | false =>
            have q1 := HD.out.1.cells.1
            go_wp2_with fail
            go_ret
            exact ⟨gu, rfl, by rw [← HSE.out]; exact HD.out.2, u, by rw [← HSE.out]; exact HD.out.1.rU, HFN.out (by first | rfl | trivial)⟩
          | true =>
            have hg' := hg rfl
            obtain ⟨h2m, hr1⟩ := HT.out rfl
            have hn0 : 0 < n := by have := HMN.out; omega
            have HO : Hid (Ordered L o) := HORD.out hn0
            have HR : Hid (Ranks (preL L) r p) := HRK.out hn0
            have HS0 : Hid (Rs n (preL L) r p u u 0 false) := Rs.start HR.out hr1
            obtain ⟨go, oo, rfl, hgo, hat⟩ := nums_at HOO.out (by have := HM.out; omega)
            have HAT : Hid (∀ k b, o[k]? = some b → w.cell? ⟨go, oo + k, none⟩ = some (.int .i64 (b : Nat))) := hat
            have HGO : Hid (go < S) := by have := HBS.out; unfold Hid; omega
            have hk1 : (1 : Int) ≤ (i : Int) := by omega
            have hk2 : (i : Int) ≤ (ko : Int) := by have := HKO.out; omega
            have hk3 : ((i : Int) - 1) = ((i - 1 : Nat) : Int) := by omega
            obtain ⟨G0, rfl⟩ : ∃ G0, gk = G0 + 1 := ⟨gk - 1, by omega⟩
            clear hat hr1 HT HFN hg
            go_wp2_with fail
            go_loopg [8, 46] (i - 1) (fun g s8 s46 wr => ∃ (k : Nat) (u' : Nat → Option Nat) (M' : Nat → Int) (ch : Bool) (cc : Nat), s8 = .bool ch ∧ s46 = .int .i64 (k : Nat) ∧ k + g = i - 1 ∧ Hid (cc = cl + k) ∧ Hid (Rs n (preL L) r p u u' k ch) ∧ Hid (CL wr S n C gu gr gm (upI u') (rkF o i) M' (cc : Nat) ∧ Below S w wr) ∧ Hid (∀ x, x < n → M' x ≤ ((cc : Nat) : Int)))
            case atStart => exact ⟨0, u, M, false, cl, rfl, rfl, by omega, rfl, HS0, HD, HMX⟩
            case round =>
              clear HD HMX HS0
              obtain ⟨k, u', M', ch, cc, rfl, rfl, hk', HCC, HS, HD, HMX⟩ := hrel
              cases gk with
              | zero =>
                have hlt : ¬ (k : Int) < ((i - 1 : Nat) : Int) := by omega
                have hki : k = o.length - 1 := by have := HM.out; omega
                have HK2 : Hid (cc + G0 * i ≤ 4611686018427387904) := by
                  have h1 := HK.out
                  rw [Nat.succ_mul] at h1
                  unfold Hid
                  rw [HCC.out]
                  omega
                have HS2 : Hid (Rs n (preL L) r p u u' (o.length - 1) ch) := by unfold Hid; rw [← hki]; exact HS.out
                have HT2 : Hid (ch = true → 2 ≤ i ∧ Rnd (preL L) r p u' 1) := fun _ => by
                  have h1 := HS2.out
                  have h2 := HR.out
                  rw [HRE.out] at h1 h2 ⊢
                  exact ⟨h2m, h1.again HO.out h2⟩
                have HF2 : Hid (ch = false → 0 < n → UpOf L o u') := fun e _ => by
                  have h1 := HS2.out
                  rw [HRE.out, e] at h1
                  exact UpOf.of HO.out h1
                have HP2 : ch = true → phi n r u' n + 1 ≤ G0 := fun e => by have := HS.out.lt e; omega
                go_wp2_with fail
                go_roundg G0
                case measure => omega
                case rel => exact ⟨ch, u', M', cc, rfl, HP2, HK2, HD, HMX, HT2, HF2⟩
              | succ g3 =>
                have hlt : (k : Int) < ((i - 1 : Nat) : Int) := by omega
                have hko : k + 1 < o.length := by have := HM.out; omega
                have hget : o[k + 1]? = some o[k + 1] := List.getElem?_eq_getElem hko
                generalize o[k + 1] = b at hget
                have hbm : b ∈ o := List.mem_of_getElem? hget
                have hbn : b < n := HLT.out b hbm
                have HBR : Hid (Rch (preL L) b) := (HO.out.mem b).1 hbm
                have HBK : Hid (r b = k + 1) := by
                  unfold Hid
                  rw [HRE.out]
                  obtain ⟨h1, h2⟩ := List.getElem?_eq_some_iff.1 hget
                  subst h2
                  exact List.Nodup.idxOf_getElem HND.out _ h1
                have HB0 : Hid (b ≠ 0) := by
                  rintro rfl
                  have h1 := HBK.out
                  rw [HR.out.zero] at h1
                  omega
                obtain ⟨g3', o3', al, kl, rfl, hg3, hrow, hNB⟩ := rows_at HAA.out hbn
                obtain ⟨ll, hll⟩ : ∃ ll, ll = (preL L b).length := ⟨_, rfl⟩
                rw [← hll] at hrow hNB
                have HLL : Hid (ll = (preL L b).length) := hll
                have q1 : wr.cell? ⟨go, oo + 1 + k, none⟩ = some (.int .i64 (b : Nat)) := (HD.out.2.cell (p := ⟨go, oo + 1 + k, none⟩) (show go < S from HGO.out)).trans (by have := HAT.out (k + 1) b hget; rw [show oo + 1 + k = oo + (k + 1) by omega]; exact this)
                have q2 := HD.out.1.cells.2.2.2
                have q2f := thawAny HD.out.1.bC 3
                have hwr : wrap64 ((cc : Int) + 1) = (cc : Int) + 1 := by
                  have hcc := HCC.out
                  have h1 := HK.out
                  have h2 : i ≤ (G0 + 1) * i := Nat.le_mul_of_pos_left i (by omega)
                  unfold wrap64; omega
                have HD1 : Hid (CL (wr.setCell ⟨C, 3, none⟩ (.int .i64 ((cc : Int) + 1))) S n C gu gr gm (upI u') (rkF o i) M' ((cc : Int) + 1) ∧ Below S w (wr.setCell ⟨C, 3, none⟩ (.int .i64 ((cc : Int) + 1)))) := ⟨HD.out.1.tick _, below_set HD.out.2 HD.out.1.sC _⟩
                have HN1 : Hid (Ns n u' (preL L b) 0 (-1) M' ((cc : Int) + 1)) := Ns.start fun x hx => by have := HMX.out x hx; omega
                have q3 : (wr.setCell ⟨C, 3, none⟩ (.int .i64 ((cc : Int) + 1))).cell? ⟨g3', o3' + b, none⟩ = some (.slice al ll kl) := (HD1.out.2.cell (p := ⟨g3', o3' + b, none⟩) (show g3' < S by have := HBS.out; omega)).trans hrow
                have HNB : Hid (_) := hNB
                have hbI : (b : Int) < (n : Int) := by omega
                clear hget hbm hrow hNB hll
                go_wp2_with fail
                have HRL : Hid (∀ b, Rch (preL L) b → b < n) := fun b hb => HLT.out b ((HO.out.mem b).2 hb)
                have HRR : Hid (∀ b, Rch (preL L) b → rkF o i b = (r b : Int)) := fun b hb => by rw [HRE.out, HM.out]; exact rkF_all HO.out hb
                have HPL : Hid (∀ a, a ∈ preL L b → a < n) := fun a ha => by have := (mem_preL.1 ha).2.1; have := HN.out; omega
                have HA0 : Hid (o[0]? = some 0) := by
                  have h1 := HO.out.head
                  rw [List.head?_eq_getElem?] at h1
                  exact h1
                have hll20 : ll ≤ 1048576 := by have := preL_len L b; have := HLL.out; have := HN.out; omega
                clear q1 q2 q2f q3 hwr
                go_loopg [11, 59] ll (fun g s11 s59 wr => ∃ (j : Nat) (nv : Int) (M2 : Nat → Int), s11 = .int .i64 nv ∧ s59 = .int .i64 (j : Nat) ∧ j + g = ll ∧ Hid (Ns n u' (preL L b) j nv M2 ((cc : Int) + 1)) ∧ Hid (CL wr S n C gu gr gm (upI u') (rkF o i) M2 ((cc : Int) + 1) ∧ Below S w wr))
                case atStart => exact ⟨0, -1, M', rfl, rfl, by omega, HN1, HD1⟩
                case round =>
                  clear HD HD1 HN1
                  obtain ⟨j, nv, M2, rfl, rfl, hj', HNN, HDD⟩ := hrel
                  cases gk with
                  | succ gj =>
                    have hltJ : (j : Int) < (ll : Int) := by omega
                    have hjl : j < (preL L b).length := by have := HLL.out; omega
                    have hgj : (preL L b)[j]? = some (preL L b)[j] := List.getElem?_eq_getElem hjl
                    generalize (preL L b)[j] = a at hgj
                    have HGJ : Hid ((preL L b)[j]? = some a) := hgj
                    have han : a < n := HPL.out a (List.mem_of_getElem? hgj)
                    have haI : (a : Int) < (n : Int) := by omega
                    obtain ⟨g4, o4, rfl, hg4, hat4⟩ := nums_at HNB.out (by omega)
                    have p1 := (HDD.out.2.cell (p := ⟨g4, o4 + j, none⟩) (show g4 < S by have := HBS.out; omega)).trans (hat4 j a hgj)
                    have p2 : wr.cell? ⟨go, oo, none⟩ = some (.int .i64 0) := (HDD.out.2.cell (p := ⟨go, oo, none⟩) (show go < S from HGO.out)).trans (by have := HAT.out 0 0 HA0.out; simpa using this)
                    have p3 := HDD.out.1.cells.1
                    have p4 := (HDD.out.1.rU.get han).1
                    clear hat4 hgj
                    by_cases ha0 : a = 0
                    · subst ha0
                      have HK0 : Hid (Kn u' 0) := .inl rfl
                      by_cases hnv : nv = -1
                      · subst hnv
                        have HNX : Hid (Ns n u' (preL L b) (j + 1) ((0 : Nat) : Int) M2 ((cc : Int) + 1)) := Ns.first HNN.out HGJ.out HK0.out
                        go_wp2_with fail
                        go_roundg gj
                        case measure => omega
                        case rel => exact ⟨j + 1, _, M2, rfl, by go_num, by omega, HNX, HDD⟩
                      · obtain ⟨z, rfl, kz, hmz, _⟩ := HNN.out.got hnv
                        have HZ : Hid (z = z) := rfl
                        have HCALL : Hid (Calls Tryd.prog 47 #[.pointer (some ⟨C, 0, none⟩), .int .i64 (z : Nat), .int .i64 (0 : Nat)] wr fun e w' =>
                            ∃ (z' : Nat) (M' : Nat → Int), e = .returned (.int .i64 (z' : Nat)) ∧ CL w' S n C gu gr gm (upI u') (rkF o i) M' ((cc : Int) + 1) ∧ Below S wr w' ∧ Kn u' z' ∧ (∀ x, Ch u' x z' ↔ (Ch u' x 0 ∧ Ch u' x z)) ∧ Met u' (fun x => x < n ∧ M' x = ((cc : Int) + 1)) z' ∧ ∀ i, M' i = M2 i ∨ M' i = ((cc : Int) + 1)) :=
                          meet_any z 0 HR.out HS.out.rnd.st HRL.out HRR.out HDD.out.1 kz HK0.out hmz
                        have hz1 : ¬ ((z : Int) = -1) := by omega
                        clear hmz kz
                        go_wp2_with fail
                        refine Calls.mono HCALL.out ?_
                        rintro e w5 ⟨z', M3, rfl, h1, h2, h3, h4, h5, h6⟩
                        have HNX : Hid (Ns n u' (preL L b) (j + 1) ((z' : Nat) : Int) M3 ((cc : Int) + 1)) := Ns.meet HNN.out HGJ.out HK0.out h3 h4 h5 h6
                        have HD5 : Hid (CL w5 S n C gu gr gm (upI u') (rkF o i) M3 ((cc : Int) + 1) ∧ Below S w w5) := ⟨h1, HDD.out.2.trans h2⟩
                        clear h1 h2 h3 h4 h5 h6 HCALL
                        go_wp2_with fail
                        go_roundg gj
                        case measure => omega
                        case rel => exact ⟨j + 1, _, M3, rfl, by go_num, by omega, HNX, HD5⟩
                    · have ha0I : ¬ ((a : Int) = 0) := by omega
                      have hb1 : ((a : Int) == 0) = false := by simp only [beq_eq_false_iff_ne, ne_eq]; exact ha0I
                      rcases hua : u' a with _ | c
                      · rw [upI_none hua] at p4
                        have HNX : Hid (Ns n u' (preL L b) (j + 1) nv M2 ((cc : Int) + 1)) := Ns.skip HNN.out HGJ.out (by rintro (h | ⟨c, h⟩); exact ha0 h; rw [hua] at h; cases h)
                        clear hua
                        go_wp2_with fail
                        go_roundg gj
                        case measure => omega
                        case rel => exact ⟨j + 1, _, M2, rfl, by go_num, by omega, HNX, HDD⟩
                      · rw [upI_some hua] at p4
                        have hcI : ¬ ((c : Int) = -1) := by omega
                        have hb2 : ((c : Int) != -1) = true := by simp only [bne_iff_ne, ne_eq]; exact hcI
                        have HKA : Hid (Kn u' a) := .inr ⟨c, hua⟩
                        clear hua
                        by_cases hnv : nv = -1
                        · subst hnv
                          have HNX : Hid (Ns n u' (preL L b) (j + 1) ((a : Nat) : Int) M2 ((cc : Int) + 1)) := Ns.first HNN.out HGJ.out HKA.out
                          go_wp2_with fail
                          go_roundg gj
                          case measure => omega
                          case rel => exact ⟨j + 1, _, M2, rfl, by go_num, by omega, HNX, HDD⟩
                        · obtain ⟨z, rfl, kz, hmz, _⟩ := HNN.out.got hnv
                          have HZ : Hid (z = z) := rfl
                          have HCALL : Hid (Calls Tryd.prog 47 #[.pointer (some ⟨C, 0, none⟩), .int .i64 (z : Nat), .int .i64 (a : Nat)] wr fun e w' =>
                              ∃ (z' : Nat) (M' : Nat → Int), e = .returned (.int .i64 (z' : Nat)) ∧ CL w' S n C gu gr gm (upI u') (rkF o i) M' ((cc : Int) + 1) ∧ Below S wr w' ∧ Kn u' z' ∧ (∀ x, Ch u' x z' ↔ (Ch u' x a ∧ Ch u' x z)) ∧ Met u' (fun x => x < n ∧ M' x = ((cc : Int) + 1)) z' ∧ ∀ i, M' i = M2 i ∨ M' i = ((cc : Int) + 1)) :=
                            meet_any z a HR.out HS.out.rnd.st HRL.out HRR.out HDD.out.1 kz HKA.out hmz
                          have hz1 : ¬ ((z : Int) = -1) := by omega
                          clear hmz kz
                          go_wp2_with fail
                          refine Calls.mono HCALL.out ?_
                          rintro e w5 ⟨z', M3, rfl, h1, h2, h3, h4, h5, h6⟩
                          have HNX : Hid (Ns n u' (preL L b) (j + 1) ((z' : Nat) : Int) M3 ((cc : Int) + 1)) := Ns.meet HNN.out HGJ.out HKA.out h3 h4 h5 h6
                          have HD5 : Hid (CL w5 S n C gu gr gm (upI u') (rkF o i) M3 ((cc : Int) + 1) ∧ Below S w w5) := ⟨h1, HDD.out.2.trans h2⟩
                          clear h1 h2 h3 h4 h5 h6 HCALL
                          go_wp2_with fail
                          go_roundg gj
                          case measure => omega
                          case rel => exact ⟨j + 1, _, M3, rfl, by go_num, by omega, HNX, HD5⟩
                  | zero =>
                    have hltJ : ¬ (j : Int) < (ll : Int) := by omega
                    have hjl : j = (preL L b).length := by have := HLL.out; omega
                    have hne := HNN.out
                    rw [hjl] at hne
                    obtain ⟨z, rfl, hT⟩ := Ns.end hne HS.out.rnd HR.out HBR.out HBK.out HB0.out
                    have HTT : Hid (Turn (preL L) r p u' (k + 1) b z) := hT
                    have p3 := HDD.out.1.cells.1
                    obtain ⟨p4, p5⟩ := HDD.out.1.rU.get hbn
                    have HD6 : Hid (CL (wr.setCell ⟨gu, b, none⟩ (.int .i64 (z : Nat))) S n C gu gr gm (upI (upd1 u' b z)) (rkF o i) M2 ((cc + 1 : Nat) : Int) ∧ Below S w (wr.setCell ⟨gu, b, none⟩ (.int .i64 (z : Nat)))) := by
                      have h1 := HDD.out.1.up hbn (z : Nat)
                      rw [upI_set] at h1
                      exact ⟨h1, below_set HDD.out.2 HDD.out.1.rU.lt.1 _⟩
                    have HMX2 : Hid (∀ x, x < n → M2 x ≤ ((cc + 1 : Nat) : Int)) := fun x hx => by have := HNN.out.1 x hx; omega
                    have HC2 : Hid (cc + 1 = cl + (k + 1)) := by have := HCC.out; unfold Hid; omega
                    have hrb : r b < n := by have := HBK.out; have := HMN.out; have := HM.out; omega
                    have HRB : Hid (r b < n) := hrb
                    have HBN : Hid (b < n) := hbn
                    clear hne hT hjl hrb
                    cases ch with
                    | true =>
                      have HS6 : Hid (Rs n (preL L) r p u (upd1 u' b z) (k + 1) true) := by
                        by_cases e : u' b = some z
                        · rw [upd1_id e]; exact HS.out.same HTT.out e
                        · exact HS.out.turn HTT.out e HBN.out HRB.out
                      go_wp2_with fail
                      go_roundg g3
                      case measure => omega
                      case rel => exact ⟨k + 1, _, M2, true, cc + 1, rfl, by go_num, by omega, HC2, HS6, HD6, HMX2⟩
                    | false =>
                      by_cases e : u' b = some z
                      · rw [upI_some e] at p4
                        have HS6 : Hid (Rs n (preL L) r p u (upd1 u' b z) (k + 1) false) := by
                          rw [upd1_id e]; exact HS.out.same HTT.out e
                        clear e
                        go_wp2_with fail
                        go_roundg g3
                        case measure => omega
                        case rel => exact ⟨k + 1, _, M2, false, cc + 1, by first | rfl | simp, by go_num, by omega, HC2, HS6, HD6, HMX2⟩
                      · have HS6 : Hid (Rs n (preL L) r p u (upd1 u' b z) (k + 1) true) := HS.out.turn HTT.out e HBN.out HRB.out
                        have hne : ¬ (upI u' b = (z : Int)) := by
                          intro h
                          rcases hu : u' b with _ | c
                          · rw [upI_none hu] at h; omega
                          · rw [upI_some hu] at h
                            have : c = z := by omega
                            subst this
                            exact e hu
                        have hne2 : (upI u' b != (z : Int)) = true := by simpa using hne
                        clear e
                        go_wp2_with fail
                        go_roundg g3
                        case measure => omega
                        case rel => exact ⟨k + 1, _, M2, true, cc + 1, by first | rfl | simp [hne], by go_num, by omega, HC2, HS6, HD6, HMX2⟩

end Go.Proofs.YthlngmknifpbjaaDoor
