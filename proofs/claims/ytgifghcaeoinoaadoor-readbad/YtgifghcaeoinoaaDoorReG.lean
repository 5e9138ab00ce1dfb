/-
  A block of statements.
-/
import Derived.Test.YtgifghcaeoinoaaDoorReF
namespace Go.Proofs.YtgifghcaeoinoaaDoor
open Go.RowKit
set_option linter.unusedSimpArgs false
set_option linter.unusedVariables false

set_option maxHeartbeats 3000000 in
theorem block_any {ps : List Tok} {M : Nat → Nat → R St} (hM : SaidSt ps M) (f : Nat) (hf : f ≤ 1000000) : SaidB ps (blockM ps M f) := by
  intro w b bp cap T q r h hr
  have hbs := h.bsize
  have hps := h.lt
  have hfar := h.far
  have hmf := mkf
  have h0 := h.below ((Below.refl w.heap.size w).alloc (Nat.le_refl _) (.cells #[.pointer (some ⟨b, 0, none⟩)] 50))
  have hx0 := heap_alloc_new w (.cells #[.pointer (some ⟨b, 0, none⟩)] 50)
  obtain ⟨i0, hi, hz0, hz1, hz2⟩ := info_parts infoStmt
  unfold blockM at hr
  go_enter_defers Tryd.func61, Tryd.ntmps61
  go_wp2_with fail
  rcases bindR_some hr with ⟨k, h1, rfl⟩ | ⟨u, n1, h1, h2⟩
  · rcases needM_some h1 with ⟨hT, h3⟩ | ⟨hT, h3⟩
    · cases h3
    · cases h3
      refine (mark_no _ _ _ _ _ _ _ _ h0 hT).mono ?_
      rintro e w1 ⟨rfl, hR, k1⟩
      go_wp2_with fail
      exact ⟨_, results_tmp2 Tryd.results61 _ _ _, ((Kept.refl _ _).alloc _).trans k1, _, _, _, _, rfl, hR⟩
  · rcases needM_some h1 with ⟨hT, h3⟩ | ⟨hT, h3⟩
    · cases h3
      refine (mark_yes _ _ _ _ _ _ _ _ h0 hT).mono ?_
      rintro e w1 ⟨rfl, hR1, k1⟩
      have hs1 := k1.size
      simp at hs1
      have hx1 := (k1.block w.heap.size (by simp) (by omega)).trans hx0
      have cb1 : w1.cell? ⟨w.heap.size, 0, none⟩ = some (.pointer (some ⟨b, 0, none⟩)) := by simp [World.cell?, hx1]
      have kw1 : Kept b w w1 := ((Kept.refl b w).alloc _).trans k1
      go_wp2_with fail
      by_cases hd : 30 ≤ q.depth
      · rw [if_pos hd] at h2
        cases h2
        refine (enter_no _ _ _ _ _ _ _ hR1 hd).mono ?_
        rintro e w2 ⟨rfl, hR, k2⟩
        go_wp2_with fail
        exact ⟨_, results_tmp2 Tryd.results61 _ _ _, kw1.trans k2, _, _, _, _, rfl, hR⟩
      · rw [if_neg hd] at h2
        refine (enter_yes _ _ _ _ _ _ _ hR1 (by simp; omega)).mono ?_
        rintro e w2 ⟨rfl, hR2, k2⟩
        have hs2 := k2.size
        have hx2 := (k2.block w.heap.size (by omega) (by omega)).trans hx1
        have cb2 : w2.cell? ⟨w.heap.size, 0, none⟩ = some (.pointer (some ⟨b, 0, none⟩)) := by simp [World.cell?, hx2]
        have hI : BlkI w b bp cap T ps q (.slice none 0 0) [] (q.next + 1) w2 := ⟨kw1.trans k2, by omega, hx2, ⟨[], Grow.nil _ _ _ _ _⟩, hR2⟩
        clear hx2 hx1 hx0 h0 hR1 hR2
        go_wp2_with fail
        go_loopg [4] f (fun g s4 wr => ∃ acc n, BlkI w b bp cap T ps q s4 acc n wr ∧ acc.length + g ≤ f ∧ stmtsLoop ps (M (q.depth + 1)) g acc n = some r)
        case atStart => exact ⟨[], _, hI, by simp, h2⟩
        case round =>
          clear hI h2
          obtain ⟨acc, n, hI, hlen, hl⟩ := hrel
          obtain ⟨vs, hgr⟩ := hI.gr
          obtain ⟨av, cv, rfl⟩ := hgr.slice
          have hsz := hI.sz
          have hcr := hI.cr
          have hR := hI.rd
          have kp := hI.kp
          have cb : wr.cell? ⟨w.heap.size, 0, none⟩ = some (.pointer (some ⟨b, 0, none⟩)) := by simp [World.cell?, hcr]
          clear hI
          cases gk with
          | zero => cases hl
          | succ g =>
            simp only [stmtsLoop] at hl
            by_cases hT : isT (cur ps n) 5 [125] = true
            · rw [if_pos hT] at hl
              cases hl
              go_wp2_with fail
              refine (skip_yes _ _ _ _ _ _ _ _ _ hR rfl hT).mono ?_
              rintro e w5 ⟨rfl, hR5, k5⟩
              have hs5 := k5.size
              have hcr5 := (k5.block w.heap.size (by omega) (by omega)).trans hcr
              have cb5 : w5.cell? ⟨w.heap.size, 0, none⟩ = some (.pointer (some ⟨b, 0, none⟩)) := by simp [World.cell?, hcr5]
              have HG : Hid (Row (fun g => w.heap.size ≤ g) w5 (AnS (fun g => w.heap.size ≤ g) w5) (.slice av acc.length cv) acc) := (hgr.kept moves_AnS k5 (by omega)).row moves_AnS (by omega)
              clear hgr
              go_wp2_with fail
              refine leaves_cons (f := 81) (args := #[.pointer (some ⟨w.heap.size, 0, none⟩)]) (by simp) (by simp [go_sem]) ?_
              refine (leave_block _ b bp cap T w.heap.size ps _ .returning hR5 cb5 (by simp)).mono ?_
              rintro e u' w6 ⟨rfl, rfl, hR6, k6⟩
              exact ⟨_, results_tmp2 Tryd.results61 _ _ _, (kp.trans k5).trans k6, _, _, rfl, RowS.own HG.out k6 (fun g hg => by omega), (by simpa using hR6)⟩
            · rw [if_neg hT] at hl
              have hT' : isT (cur ps n) 5 [125] = false := by simpa using hT
              clear hT
              go_wp2_with fail
              refine (skip_no _ _ _ _ _ _ _ _ _ hR hT').mono ?_
              rintro e w5 ⟨rfl, hR5, k5⟩
              have hs5 := k5.size
              have hcr5 := (k5.block w.heap.size (by omega) (by omega)).trans hcr
              have cb5 : w5.cell? ⟨w.heap.size, 0, none⟩ = some (.pointer (some ⟨b, 0, none⟩)) := by simp [World.cell?, hcr5]
              have hgr5 := hgr.kept moves_AnS k5 (by omega)
              have kp5 := kp.trans k5
              clear hgr hR cb hcr
              go_wp2_with fail
              rcases bindR_some hl with ⟨k, h5, rfl⟩ | ⟨x, n5, h5, h6⟩
              · refine (hM _ _ _ _ _ _ _ hR5 h5).mono ?_
                rintro e w6 ⟨k6, v, n', ⟨v0, v1, v2, a3, l3, c3, a4, l4, c4, a5, l5, c5, a6, l6, c6, rfl⟩, rfl, hR6⟩
                have hs6 := k6.size
                have hcr6 := (k6.block w.heap.size (by omega) (by omega)).trans hcr5
                have cb6 : w6.cell? ⟨w.heap.size, 0, none⟩ = some (.pointer (some ⟨b, 0, none⟩)) := by simp [World.cell?, hcr6]
                clear hgr5
                go_wp2_with fail
                have kx : Kept b w6 (w6.alloc (.cells #[.int .i64 v0, .string v1, .string v2, .slice a3 l3 c3, .slice a4 l4 c4, .slice a5 l5 c5, .slice a6 l6 c6] 39)) := (Kept.refl b w6).alloc _
                refine leaves_cons (f := 81) (args := #[.pointer (some ⟨w.heap.size, 0, none⟩)]) (by simp) (by simp [go_sem]) ?_
                refine (leave_block _ b bp cap T w.heap.size ps _ .returning (hR6.below ((Below.refl _ _).alloc (Nat.le_refl _) _)) ((kx.cell w.heap.size 0 (by omega) (by omega)).trans cb6) (by simp)).mono ?_
                rintro e u' w7 ⟨rfl, rfl, hR7, k7⟩
                exact ⟨_, results_tmp2 Tryd.results61 _ _ _, kp5.trans (k6.trans (kx.trans k7)), _, _, _, _, rfl, (by simpa using hR7)⟩
              · refine (hM _ _ _ _ _ _ _ hR5 h5).mono ?_
                rintro e w6 ⟨k6, v, rfl, hA, hR6⟩
                obtain ⟨v0, v1, v2, a3, l3, c3, a4, l4, c4, a5, l5, c5, a6, l6, c6, rfl⟩ := hA.sh
                have hs6 := k6.size
                have hcr6 := (k6.block w.heap.size (by omega) (by omega)).trans hcr5
                have hgr6 := hgr5.kept moves_AnS k6 (by omega)
                have HV : Hid (∀ k, (Value.slice av acc.length cv).ownBlock = some k → w.heap.size + 1 ≤ k ∧ k < w5.heap.size) := hgr5.1.lt
                have HGR : Hid (Grow AnS 39 7 (w.heap.size + 1) w6 (.slice av acc.length cv) vs acc) := hgr6
                have HA : Hid (AnS (fun g => w5.heap.size ≤ g) w6 (.agg #[.int .i64 v0, .string v1, .string v2, .slice a3 l3 c3, .slice a4 l4 c4, .slice a5 l5 c5, .slice a6 l6 c6]) x) := hA
                have HO : Hid (((w6.alloc (.cells #[.int .i64 v0, .string v1, .string v2, .slice a3 l3 c3, .slice a4 l4 c4, .slice a5 l5 c5, .slice a6 l6 c6] 39)).alloc (.cells #[.int .i64 v0, .string v1, .string v2, .slice a3 l3 c3, .slice a4 l4 c4, .slice a5 l5 c5, .slice a6 l6 c6] 39)).ownsRow (w.heap.size + 1) 39 7 (.slice av acc.length cv) acc.length (flat vs)) := (hgr6.1.alloc _).alloc _
                have HN : Hid (∀ j u, [Value.int .i64 v0, .string v1, .string v2, .slice a3 l3 c3, .slice a4 l4 c4, .slice a5 l5 c5, .slice a6 l6 c6][j]? = some u → ((w6.alloc (.cells #[.int .i64 v0, .string v1, .string v2, .slice a3 l3 c3, .slice a4 l4 c4, .slice a5 l5 c5, .slice a6 l6 c6] 39)).alloc (.cells #[.int .i64 v0, .string v1, .string v2, .slice a3 l3 c3, .slice a4 l4 c4, .slice a5 l5 c5, .slice a6 l6 c6] 39)).cell? ((⟨w6.heap.size + 1, 0, none⟩ : Addr).add j) = some u) :=
                  World.news_of_block (B := w6.heap.size + 1) (cs := #[.int .i64 v0, .string v1, .string v2, .slice a3 l3 c3, .slice a4 l4 c4, .slice a5 l5 c5, .slice a6 l6 c6]) (heap_alloc2 w6 _ _).2
                clear hgr5 hgr6 hA
                have hm63 : acc.length + 1 ≤ maxLen := by unfold maxLen; omega
                go_wp2_with (at_builtin; refine wpList_append_lies _ rfl _ _ 36 (by rfl) (w.heap.size + 1) 39 i0 _ 7 136 Tryd.underlying36 hi hz0 hz1 hz2 rfl (by decide) (.slice av acc.length cv) acc.length (flat vs) (by rfl) HO.out ⟨w6.heap.size + 1, 0, none⟩ 1 1 [.int .i64 v0, .string v1, .string v2, .slice a3 l3 c3, .slice a4 l4 c4, .slice a5 l5 c5, .slice a6 l6 c6] (by rfl) rfl HN.out (stmt_one _ _ _ _ _ _ _ _ _ _ _ _ _ _ _) (by decide) hm63 (by omega) (by simp; omega) (w6.heap.size + 2) (by simp) ?_)
                intro gg cp w8 hown8 hgrow8 hat8 hlt8
                have HO8 : Hid (_) := hown8
                have HG8 : Hid (_) := hgrow8
                have HA8 : Hid (_) := hat8
                clear hown8 hgrow8 hat8
                go_wp2_with fail
                go_roundg g
                case measure => omega
                case rel =>
                  have hv := HV.out
                  have ka : Kept b w6 ((w6.alloc (.cells #[.int .i64 v0, .string v1, .string v2, .slice a3 l3 c3, .slice a4 l4 c4, .slice a5 l5 c5, .slice a6 l6 c6] 39)).alloc (.cells #[.int .i64 v0, .string v1, .string v2, .slice a3 l3 c3, .slice a4 l4 c4, .slice a5 l5 c5, .slice a6 l6 c6] 39)) := ((Kept.refl b w6).alloc _).alloc _
                  have hsg := HG8.out.size
                  simp at hsg
                  have k8 := kept_grown (((kp5.trans k6).trans ka)) HG8.out (fun k e => by have := hv k e; omega)
                  refine ⟨acc ++ [x], n5, ⟨k8, by omega, ?_, ⟨_, HGR.out.snoc (z := w5.heap.size) (ys := [.int .i64 v0, .string v1, .string v2, .slice a3 l3 c3, .slice a4 l4 c4, .slice a5 l5 c5, .slice a6 l6 c6]) moves_AnS HA.out (by omega) (fun k e => (hv k e).2) (by simp [flat, Value.cells]) (fun k hk => (Below.heap_alloc _ _ _ (by simp; omega)).trans (Below.heap_alloc _ _ _ hk)) (by simp; omega) HG8.out (by simpa using HA8.out) HO8.out⟩, ?_⟩, by simp; omega, h6⟩
                  · rw [HG8.out.block w.heap.size (by simp; omega) (fun e => by have := hv _ e.symm; omega)]
                    exact blk_alloc (blk_alloc hcr6 _) _
                  · exact rdr_grown (z := w.heap.size) (hR6.below (((Below.refl _ _).alloc (Nat.le_refl _) _).alloc (by simp) _)) HG8.out (fun k e => by have := hv k e; omega) hbs hps
    · cases h3

end Go.Proofs.YtgifghcaeoinoaaDoor
