/-
  posternkeep.AheadAbove: its walk.
-/
import Derived.Test.YtjdedfgdofceeaaSxC
import Derived.Test.YtjdedfgdofceeaaSxG
import Derived.Test.YtjdedfgdofceeaaSxH0
import Derived.Test.YtjdedfgdofceeaaSaF
import Derived.Deep.CutRange
import Derived.BigQuiet
import Derived.Deep.RegionHeld3
namespace Go.Proofs.Ytjdedfgdofceeaa
open Go.RowKit
set_option linter.unusedSimpArgs false
set_option linter.unusedVariables false

/-- a row of lists of numbers, at one place -/
theorem rowsI_at {B n k3 : Nat} {w : World} {a3 : Option Addr} {F : Nat → List Int} (h : Rws B w (.slice a3 n k3) ((List.range n).map F)) {b : Nat} (hb : b < n) :
    ∃ g3 o3 al kl, a3 = some ⟨g3, o3, none⟩ ∧ g3 < B ∧ w.cell? ⟨g3, o3 + b, none⟩ = some (.slice al (F b).length kl) ∧ Nums B w (.slice al (F b).length kl) (F b) := by
  have hy : ((List.range n).map F)[b]? = some (F b) := by rw [List.getElem?_map, List.getElem?_range hb]; rfl
  obtain ⟨g3, o3, cs, rfl, hlt, _, ⟨u, rfl, hu⟩, hcl⟩ := Lies.at h hy
  obtain ⟨al, kl, rfl⟩ := Lies.slice hu
  have := hcl 0 (by decide)
  exact ⟨g3, o3, al, kl, rfl, hlt, by simpa using this, hu⟩

@[go_sem] theorem fld_prog_0 (x0 x1 : Value) (w : World) : (Instr.field 33 (.agg #[x0, x1]) 0).run Try.prog w = .ok x0 w := by kernel_rfl

set_option maxHeartbeats 40000000 in
set_option maxRecDepth 20000 in
theorem law_walk (rs : List (Int × Int × Int × Int)) (a : Option Addr) (n k : Nat) (w : World) (hn : n = rs.length) (hl : Raws w.heap.size w (.slice a n k) rs) (hnk : n ≤ k) (hk : k ≤ maxLen) :
    Calls Try.prog 5 #[.slice a n k] w fun e w' => e = .returned (.bool true) ∧ Below w.heap.size w w' := by
  have HCO : Hid (_) := Code_any rs a n k w.heap.size w (Nat.le_refl _) hn hl hnk hk
  clear hl hn hnk hk
  go_enter Try.func5, Try.ntmps5
  go_wp2_with fail
  refine Calls.mono HCO.out ?_
  rintro e w1 ⟨gf, kd, ad, vb, bs, rfl, hcell, hblk, hb1, hb7, hbl⟩
  obtain ⟨a3, k3, rfl⟩ := Lies.slice hblk
  have q0 := hcell 0 _ rfl
  have q1 := hcell 1 _ rfl
  have q2 := hcell 2 _ rfl
  have q3 := hcell 3 _ rfl
  have q4 := hcell 4 _ rfl
  have q5 := hcell 5 _ rfl
  obtain ⟨W, hW⟩ : ∃ W, W = w1.alloc (.cells #[.string ⟨#[109, 97, 105, 110]⟩, .int .i64 0, .int .i64 0, .int .i64 5, .int .i64 0, .slice a3 bs.length k3] 24) := ⟨_, rfl⟩
  have HBW : Hid (Below w1.heap.size w1 W) := by rw [hW]; exact below_alloc _ _
  have HCW : Hid (W.heap[w1.heap.size]? = some (.cells #[.string ⟨#[109, 97, 105, 110]⟩, .int .i64 0, .int .i64 0, .int .i64 5, .int .i64 0, .slice a3 bs.length k3] 24)) := by rw [hW]; exact heap_alloc_new w1 _
  have HWs : Hid (W.heap.size = w1.heap.size + 1) := by unfold Hid; rw [hW]; simp
  have HWS : Hid (W = _) := hW
  have HBL : Hid (Below w.heap.size w w1) := hbl
  have HBK : Hid (Blks w1.heap.size W (.slice a3 bs.length k3) bs) := hblk.below HBW.out
  have HAH : Hid (_) := ahead_any ⟨[109, 97, 105, 110], 0, 0, 5, 0, bs⟩ (.slice a3 bs.length k3) w1.heap.size W HBW.out.size HBK.out (by show bs.length * 24 ≤ _; omega)
  have HN1 : Hid (1 ≤ bs.length ∧ bs.length ≤ 7) := ⟨hb1, hb7⟩
  clear hcell hblk hb1 hb7 hbl hW
  unfold prgV
  go_wp2_with fail
  rw [← HWS.out]
  clear q0 q1 q2 q3 q4 q5 HWS
  refine Calls.mono HAH.out ?_
  rintro e w2 ⟨vA, rfl, hrA, hbA⟩
  have HRA : Hid (Rws w2.heap.size w2 vA (aheadL bs)) := hrA
  have HBA : Hid (Below W.heap.size W w2) := hbA
  have p2 := cells6 ((hbA.block w1.heap.size (by rw [HWs.out]; omega)).trans HCW.out)
  have HAB : Hid (_) := above_any ⟨[109, 97, 105, 110], 0, 0, 5, 0, bs⟩ (.slice a3 bs.length k3) w1.heap.size w2 (by have := hbA.size; have := HBW.out.size; omega) (HBK.out.below (hbA.mono HBW.out.size)) (by have := HN1.out.2; show bs.length ≤ _; omega)
  clear hrA hbA
  go_wp2_with fail
  clear p2
  refine Calls.mono HAB.out ?_
  rintro e w3 ⟨vB, vs, o, u, rfl, hgr, ho1, _, hbB⟩
  have HRB : Hid (Rws w3.heap.size w3 vB ((List.range bs.length).map fun j => rowD (abD (bs.map leadsL)) j bs.length)) := by
    have h1 := hgr.rws fun i hi => by
      rw [abF_row ho1 hi]
      exact rowD_i64 (by have := HN1.out.2; show bs.length ≤ _; omega)
    have h2 : (List.range bs.length).map (abF u bs.length o) = (List.range bs.length).map fun j => rowD (abD (bs.map leadsL)) j bs.length :=
      List.map_congr_left fun j hj => abF_row ho1 (List.mem_range.1 hj)
    exact h2 ▸ h1
  have HBB : Hid (Below w2.heap.size w2 w3) := hbB
  have HC3 : Hid (w3.heap[w1.heap.size]? = some (.cells #[.string ⟨#[109, 97, 105, 110]⟩, .int .i64 0, .int .i64 0, .int .i64 5, .int .i64 0, .slice a3 bs.length k3] 24)) :=
    (hbB.block _ (by have := HBA.out.size; have := HWs.out; omega)).trans ((HBA.out.block _ (by rw [HWs.out]; omega)).trans HCW.out)
  have HB3 : Hid (Below w.heap.size w w3) := by
    have h1 := HBL.out.trans (HBW.out.mono HBL.out.size)
    have h2 := h1.trans (HBA.out.mono h1.size)
    exact h2.trans (hbB.mono h2.size)
  have HA3 : Hid (Rws w2.heap.size w3 vA (aheadL bs)) := Rws.below HRA.out hbB
  clear hgr ho1 hbB HAH HAB
  obtain ⟨N, hN⟩ : ∃ N, N = bs.length := ⟨_, rfl⟩
  obtain ⟨L, hL⟩ : ∃ L, L = bs.map leadsL := ⟨_, rfl⟩
  have hLN : L.length = N := by rw [hL, hN, List.length_map]
  have hAE : aheadL bs = (List.range N).map fun j => natsL (preL L j) := by
    rw [← rowL_all, ← hL, hLN]
    refine List.map_congr_left fun j hj => ?_
    have h9 := rowL_pre (L := L) (t := j) (by rw [hLN]; exact List.mem_range.1 hj)
    rw [hLN] at h9
    exact h9
  have hN1 : 1 ≤ N := by have := HN1.out; omega
  have hN7 : N ≤ 7 := by have := HN1.out; omega
  rw [hAE] at HA3
  rw [← hN, ← hL] at HRB
  rw [← hN] at HC3
  obtain ⟨aA, kA, rfl⟩ := Lies.slice HA3.out
  obtain ⟨aB, kB, rfl⟩ := Lies.slice HRB.out
  have hlA : ((List.range N).map fun j => natsL (preL L j)).length = N := by rw [List.length_map, List.length_range]
  have hlB : ((List.range N).map fun j => rowD (abD L) j N).length = N := by rw [List.length_map, List.length_range]
  rw [hlA, hlB, ← hN]
  rw [hlA] at HA3
  rw [hlB] at HRB
  have HLQ : Hid (∀ i q, q ∈ preL L i → q < N) := fun i q hq => by have := (mem_preL.1 hq).2.1; omega
  clear hN hL hAE hlA hlB HN1 HRA HBK HBB HBA HBW HCW HBL HWs HCO HLQ
  have HLQ : Hid (∀ i q, q ∈ preL L i → q < N) := fun i q hq => by have := (mem_preL.1 hq).2.1; omega
  obtain ⟨gB, oB, a0, k0, rfl, hgB, r0, hu0⟩ := rowsI_at HRB.out (b := 0) (by omega)
  obtain ⟨gA, oA, _, _, rfl, hgA, _, _⟩ := rows_at HA3.out (b := 0) (by omega)
  rw [row_first (by omega)] at r0 hu0
  have p3 := (cells6 HC3.out).2.2.2.2.2
  have HSS : Hid (∀ w' : World, Below w3.heap.size w3 w' → w'.cell? ⟨w1.heap.size, 5, none⟩ = some (.slice a3 N k3) ∧ w'.cell? ⟨gB, oB, none⟩ = some (.slice a0 1 k0)) :=
    fun w' hb => ⟨(hb.cell (World.block_lt_of_cell? _ _ p3)).trans p3, (hb.cell (World.block_lt_of_cell? _ _ r0)).trans r0⟩
  have HS0 : Hid (∀ w' : World, Below w3.heap.size w3 w' → Nums w'.heap.size w' (.slice a0 1 k0) [0]) := fun w' hb => Lies.up (Nums.below hu0 hb) hb.size (fun _ _ h => h)
  have HS1 : Hid (∀ (w' : World) (g : Nat), w'.heap[g]? = some (.cells #[.int .i64 0] 3) → Nums w'.heap.size w' (.slice (some ⟨g, 0, none⟩) 1 1) [0]) := fun w' g hg => NumsS.nums (S := fun _ => True) (xs := [0]) ⟨by simp [maxLen], (by intro x hx; simp at hx; subst hx; exact ⟨by decide, by decide⟩), .inr ⟨g, 1, rfl, trivial, lt_of_block hg, _, hg⟩⟩
  clear r0 p3 hu0 hgA hgB
  have hcA := (HSS.out w3 (Below.refl _ _)).1
  have hcB := (HSS.out w3 (Below.refl _ _)).2
  have hcA1 := (HSS.out (w3.alloc (.cells #[.int .i64 0] 3)) (below_alloc _ _)).1
  have hcB1 := (HSS.out (w3.alloc (.cells #[.int .i64 0] 3)) (below_alloc _ _)).2
  have hNp : (0 : Int) < (N : Int) := by omega
  go_wp2_with fail
  refine Calls.mono (equal_same _ _ _ [0] _ (Nat.le_refl _) (HS0.out _ (below_alloc _ _)) (HS1.out _ _ (heap_alloc_new _ _))) ?_
  rintro e' w5 ⟨rfl, k5, hw5⟩
  have HB5 : Hid (Below w3.heap.size w3 w5) := by rw [hw5]; exact below_drewN (below_alloc _ _) _
  clear hw5 hcA hcB hcA1 hcB1 hNp
  have HBD : Hid (∀ wr : World, (∃ d, wr = w5.drewN d) → Below w3.heap.size w3 wr) := fun wr ⟨d, e⟩ => by rw [e]; exact below_drewN HB5.out d
  have HDD : Hid (∀ (wr wr' : World) (d : Nat), (∃ d, wr = w5.drewN d) → wr' = wr.drewN d → ∃ d, wr' = w5.drewN d) := fun wr wr' d ⟨d0, e0⟩ e => ⟨d0 + d, by rw [e, e0, World.drewN_drewN]⟩
  have HROW : Hid (∀ i, i < N → ∃ ai ki, ∀ wr : World, (∃ d, wr = w5.drewN d) → wr.cell? ⟨gB, oB + i, none⟩ = some (.slice ai (rowD (abD L) i N).length ki) ∧ Nums wr.heap.size wr (.slice ai (rowD (abD L) i N).length ki) (rowD (abD L) i N)) := fun i hi => by
    obtain ⟨g, o, ai, ki, e, hlt, hc, hn⟩ := rowsI_at HRB.out hi
    cases e
    exact ⟨ai, ki, fun wr hd => ⟨((HBD.out wr hd).cell (World.block_lt_of_cell? _ _ hc)).trans hc, Lies.up (Nums.below hn (HBD.out wr hd)) (HBD.out wr hd).size (fun _ _ h => h)⟩⟩
  have HPRE : Hid (∀ i, i < N → ∃ ai ki, ∀ wr : World, (∃ d, wr = w5.drewN d) → wr.cell? ⟨gA, oA + i, none⟩ = some (.slice ai (preL L i).length ki) ∧ ∀ t q, (preL L i)[t]? = some q → ∃ g o, ai = some ⟨g, o, none⟩ ∧ wr.cell? ⟨g, o + t, none⟩ = some (.int .i64 (q : Nat))) := fun i hi => by
    obtain ⟨g, o, ai, ki, e, hlt, hc, hn⟩ := rows_at HA3.out hi
    cases e
    refine ⟨ai, ki, fun wr hd => ⟨((HBD.out wr hd).cell (World.block_lt_of_cell? _ _ hc)).trans hc, fun t q hq => ?_⟩⟩
    obtain ⟨go, oo, e2, hlt2, hcc⟩ := nums_at hn (by have := (List.getElem?_eq_some_iff.1 hq).1; omega)
    have h9 := hcc t q hq
    exact ⟨go, oo, e2, ((HBD.out wr hd).cell (World.block_lt_of_cell? _ _ h9)).trans h9⟩
  have HPLN : Hid (∀ i, (preL L i).length ≤ N) := fun i => by
    unfold preL
    split
    · exact Nat.le_trans (List.length_filter_le _ _) (by rw [List.length_range, hLN]; exact Nat.le_refl _)
    · exact Nat.zero_le _
  have HRLN : Hid (∀ i, (rowD (abD L) i N).length ≤ N) := fun i => by
    unfold rowD
    rw [List.length_map]
    exact Nat.le_trans (List.length_filter_le _ _) (by rw [List.length_range]; exact Nat.le_refl _)
  have HCON : Hid (∀ i, i < N → ∀ ai ki, (∀ wr : World, (∃ d, wr = w5.drewN d) → wr.cell? ⟨gB, oB + i, none⟩ = some (.slice ai (rowD (abD L) i N).length ki) ∧ Nums wr.heap.size wr (.slice ai (rowD (abD L) i N).length ki) (rowD (abD L) i N)) → ∀ (x : Int) (wr : World), (∃ d, wr = w5.drewN d) →
      Calls Try.prog 13 #[.slice ai (rowD (abD L) i N).length ki, .int .i64 x] wr fun e w' => e = .returned (.bool (decide (x ∈ rowD (abD L) i N))) ∧ ∃ d, w' = w5.drewN d) := fun i hi ai ki h x wr hd => by
    refine (contains_any _ _ _ x wr (Nat.le_refl _) (h wr hd).2).mono ?_
    rintro e w' ⟨rfl, k, hk⟩
    exact ⟨rfl, HDD.out wr w' k hd hk⟩
  have HCL : Hid (∀ wr : World, (∃ d, wr = w5.drewN d) → wr.cell? ⟨w1.heap.size, 5, none⟩ = some (.slice a3 N k3)) := fun wr hd => (HSS.out wr (HBD.out wr hd)).1
  have HEND : Hid (∀ wr : World, (∃ d, wr = w5.drewN d) → Below w.heap.size w wr) := fun wr hd => HB3.out.trans ((HBD.out wr hd).mono HB3.out.size)
  clear HSS HS0 HS1 HBD HDD HRB HA3 HC3 HB5 HB3 hLN
  go_wp2_with fail
  go_loopg [6] (N - 1) (fun g s6 wr => ∃ i : Nat, s6 = .int .i64 (i : Nat) ∧ i + g = N ∧ 1 ≤ i ∧ Hid (∃ d, wr = w5.drewN d))
  case atStart => exact ⟨1, rfl, by omega, by omega, ⟨0, rfl⟩⟩
  case round =>
    obtain ⟨i, rfl, hi', hi1, HD⟩ := hrel
    cases gk with
    | zero =>
      have hlt : ¬ (i : Int) < (N : Int) := by omega
      go_wp2_with fail
      go_ret
      exact ⟨rfl, HEND.out _ HD.out⟩
    | succ g =>
      have hlt : (i : Int) < (N : Int) := by omega
      have hiN : i < N := by omega
      have hi0 : i ≠ 0 := by omega
      obtain ⟨ai, ki, hri⟩ := HROW.out i hiN
      have HRI : Hid (_) := hri
      have HCI : Hid (_) := HCON.out i hiN ai ki hri
      obtain ⟨m, hm⟩ : ∃ m, m = (rowD (abD L) i N).length := ⟨_, rfl⟩
      have HM : Hid (m = (rowD (abD L) i N).length) := hm
      have hmN : m ≤ N := by rw [hm]; exact HRLN.out i
      have qi := (hri wr HD.out).1
      rw [← hm] at qi HCI HRI
      clear hri hm
      by_cases hz : m = 0
      · subst hz
        go_wp2_with fail
        go_roundg g
        case measure => omega
        case rel => exact ⟨i + 1, by go_num, by omega, by omega, HD⟩
      · have hzi : ((m : Int) == 0) = false := beq_eq_false_iff_ne.2 (by omega)
        have hzi2 : ¬ (m : Int) = 0 := by omega
        have HH : Hid (_) := row_has (L := L) (n := N) hiN (by omega) (by rw [← HM.out]; exact hz)
        have hd0 : decide ((0 : Int) ∈ rowD (abD L) i N) = true := decide_eq_true HH.out.1
        have hdi : decide (((i : Nat) : Int) ∈ rowD (abD L) i N) = true := decide_eq_true HH.out.2
        have HC0 : Hid (_) := hd0 ▸ HCI.out 0
        have HCi : Hid (_) := hdi ▸ HCI.out (i : Nat)
        clear hd0 hdi
        go_wp2_with fail
        refine Calls.mono (HC0.out _ HD.out) ?_
        rintro e w6 ⟨rfl, hd6⟩
        have HD6 : Hid (∃ d, w6 = w5.drewN d) := hd6
        have q6 := (HRI.out w6 hd6).1
        clear hd6 qi
        go_wp2_with fail
        refine Calls.mono (HCi.out _ HD6.out) ?_
        rintro e w7 ⟨rfl, hd7⟩
        have HD7 : Hid (∃ d, w7 = w5.drewN d) := hd7
        have pc7 := HCL.out w7 hd7
        clear hd7 q6 HC0 HCi HD6 HD
        obtain ⟨ap, kp, hpre⟩ := HPRE.out i hiN
        obtain ⟨P, hP⟩ : ∃ P, P = (preL L i).length := ⟨_, rfl⟩
        have hPN : P ≤ N := by rw [hP]; exact HPLN.out i
        have HPP : Hid (P = (preL L i).length) := hP
        rw [← hP] at hpre
        have HPR : Hid (_) := hpre
        clear hpre hP
        go_wp2_with fail
        go_loopg [72] N (fun g s72 wr => ∃ j : Nat, s72 = .int .i64 (j : Nat) ∧ j + g = N ∧ Hid (∃ d, wr = w5.drewN d))
        case atStart => exact ⟨0, rfl, by omega, HD7⟩
        case round =>
          clear HD7 pc7
          obtain ⟨j, rfl, hj', HD⟩ := hrel
          cases gk with
          | zero =>
            have hltj : ¬ (j : Int) < (N : Int) := by omega
            go_wp2_with fail
            go_roundg g
            case measure => omega
            case rel => exact ⟨i + 1, by go_num, by omega, by omega, HD⟩
          | succ gj =>
            have hltj : (j : Int) < (N : Int) := by omega
            have hjN : j < N := by omega
            have qp := (HPR.out _ HD.out).1
            go_wp2_with fail
            go_loopg [80, 8] P (fun g s80 s8 wr => ∃ t : Nat, s80 = .int .i64 (t : Nat) ∧ t + g = P ∧ s8 = .bool (allF L N j ((preL L i).take t)) ∧ Hid (∃ d, wr = w5.drewN d))
            case atStart => exact ⟨0, rfl, by omega, rfl, HD⟩
            case round =>
              clear HD qp
              obtain ⟨t, rfl, ht', rfl, HD⟩ := hrel
              cases gk with
              | zero =>
                have hltt : ¬ (t : Int) < (P : Int) := by omega
                by_cases hji : j = i
                · have hjb : ((j : Int) != (i : Int)) = false := by rw [hji]; simp
                  clear hji
                  go_wp2_with fail
                  go_roundg gj
                  case measure => omega
                  case rel => exact ⟨j + 1, by go_num, by omega, HD⟩
                · have hjb : ((j : Int) != (i : Int)) = true := by rw [bne_iff_ne]; omega
                  have hF : allF L N j (List.take t (preL L i)) = decide (((j : Nat) : Int) ∈ rowD (abD L) i N) := by
                    rw [List.take_of_length_le (by have := HPP.out; omega)]
                    exact allF_all hiN hjN hi0 hji (by rw [← HM.out]; exact hz) (HLQ.out i)
                  have HCJ : Hid (_) := HCI.out (j : Nat)
                  rw [hF]
                  obtain ⟨c, hc⟩ : ∃ c, c = decide (((j : Nat) : Int) ∈ rowD (abD L) i N) := ⟨_, rfl⟩
                  rw [← hc] at HCJ ⊢
                  have qj := (HRI.out _ HD.out).1
                  clear hji hF hc
                  go_wp2_with fail
                  refine Calls.mono (HCJ.out _ HD.out) ?_
                  rintro e w8 ⟨rfl, hd8⟩
                  have HD8 : Hid (∃ d, w8 = w5.drewN d) := hd8
                  clear hd8 qj
                  rcases c with _ | _
                  · go_wp2_with fail
                    go_roundg gj
                    case measure => omega
                    case rel => exact ⟨j + 1, by go_num, by omega, HD8⟩
                  · go_wp2_with fail
                    go_roundg gj
                    case measure => omega
                    case rel => exact ⟨j + 1, by go_num, by omega, HD8⟩
              | succ gt =>
                have hltt : (t : Int) < (P : Int) := by omega
                have htl : t < (preL L i).length := by have := HPP.out; omega
                have hget : (preL L i)[t]? = some (preL L i)[t] := List.getElem?_eq_getElem htl
                generalize (preL L i)[t] = q at hget
                have hqN : q < N := HLQ.out i q (List.mem_of_getElem? hget)
                have HTK : Hid (_) := allF_take (L := L) (n := N) (k := j) hget
                obtain ⟨gq, oq, rfl, qq⟩ := (HPR.out _ HD.out).2 t q hget
                obtain ⟨aq, kq, hrq⟩ := HROW.out q hqN
                have HRQ : Hid (_) := hrq
                have HCQ : Hid (_) := HCON.out q hqN aq kq hrq (j : Nat)
                have qr := (hrq _ HD.out).1
                obtain ⟨mq, hmq⟩ : ∃ m, m = (rowD (abD L) q N).length := ⟨_, rfl⟩
                have hmqN : mq ≤ N := by rw [hmq]; exact HRLN.out q
                rw [← hmq] at qr HRQ HCQ HTK
                obtain ⟨c, hc⟩ : ∃ c, c = decide (((j : Nat) : Int) ∈ rowD (abD L) q N) := ⟨_, rfl⟩
                rw [← hc] at HCQ HTK
                have hqlt : (q : Int) < (N : Int) := by omega
                clear hget htl hrq hmq hc
                rcases hF : allF L N j (List.take t (preL L i)) with _ | _
                · rw [hF] at HTK
                  clear hF
                  go_wp2_with fail
                  go_roundg gt
                  case measure => omega
                  case rel => exact ⟨t + 1, by go_num, by omega, by rw [HTK.out]; rfl, HD⟩
                · rw [hF] at HTK
                  clear hF
                  by_cases hz2 : mq = 0
                  · subst hz2
                    go_wp2_with fail
                    go_roundg gt
                    case measure => omega
                    case rel => exact ⟨t + 1, by go_num, by omega, by rw [HTK.out]; simp, HD⟩
                  · have hz3 : ((mq : Int) == 0) = false := beq_eq_false_iff_ne.2 (by omega)
                    have hz4 : ¬ (mq : Int) = 0 := by omega
                    go_wp2_with fail
                    refine Calls.mono (HCQ.out _ HD.out) ?_
                    rintro e w8 ⟨rfl, hd8⟩
                    have HD8 : Hid (∃ d, w8 = w5.drewN d) := hd8
                    clear hd8 qr qq
                    go_wp2_with fail
                    go_roundg gt
                    case measure => omega
                    case rel => exact ⟨t + 1, by go_num, by omega, by rw [HTK.out]; simp [hz2], HD8⟩

end Go.Proofs.Ytjdedfgdofceeaa
