/-
  Package posternref: what is above each block (AboveOf): its walk.
-/
import Derived.Test.YtjdedfgdofceeaaSbE
namespace Go.Proofs.Ytjdedfgdofceeaa
open Go.RowKit
set_option linter.unusedSimpArgs false
set_option linter.unusedVariables false

set_option maxHeartbeats 4000000 in
set_option maxRecDepth 20000 in
theorem aboveOf_any (c : Cod) (vb : Value) (B : Nat) (w : World) (hB : B ≤ w.heap.size) (hb : Blks B w vb c.blocks) (hsz : c.blocks.length * 24 ≤ 140737488351232) (dm : Nat → Nat → Bool)
    (hdm : ∀ k i, dm k i = true ↔ Rch (preL (c.blocks.map leadsL)) k ∧ Rch (preL (c.blocks.map leadsL)) i ∧ Dom (preL (c.blocks.map leadsL)) k i) :
    Calls Try.prog 10 #[.agg #[.string ⟨c.name.toArray⟩, .int .i64 c.params, .int .i64 c.results, .int .i64 c.vars, .int .i64 c.slots, vb]] w fun e w' =>
      ∃ v, e = .returned v ∧ Rws w'.heap.size w' v ((List.range c.blocks.length).map fun j => rowD dm j c.blocks.length) ∧ Below w.heap.size w w' := by
  obtain ⟨a3, k3, rfl⟩ := Lies.slice hb
  obtain ⟨n, hn⟩ : ∃ n, n = c.blocks.length := ⟨_, rfl⟩
  obtain ⟨L, hL⟩ : ∃ L, L = c.blocks.map leadsL := ⟨_, rfl⟩
  rw [← hL] at hdm
  have HDM : Hid (_) := hdm
  have HDW : Hid (∀ (out : Int) (W : World), Below w.heap.size w W → Calls Try.prog 21 #[.agg #[.string ⟨c.name.toArray⟩, .int .i64 c.params, .int .i64 c.results, .int .i64 c.vars, .int .i64 c.slots, .slice a3 n k3], .int .i64 out] W fun e w' =>
      ∃ v f, e = .returned v ∧ w'.ownsRow W.heap.size 4 1 v n (bools n f) ∧ (∀ x, x < n → (f x = true ↔ Wy (preL L) (fun y => (y : Int) = out) x)) ∧ Below W.heap.size W w') := by
    intro out W hW
    rw [hn, hL]
    exact doneWithout_any c _ out B W (Nat.le_trans hB hW.size) (hb.below (hW.mono hB)) hsz
  rw [← hn] at hsz ⊢
  obtain ⟨W, hW⟩ : ∃ W, W = w.alloc (.cells #[.string ⟨c.name.toArray⟩, .int .i64 c.params, .int .i64 c.results, .int .i64 c.vars, .int .i64 c.slots, .slice a3 n k3] 24) := ⟨_, rfl⟩
  have HW : Hid (Below w.heap.size w W) := by rw [hW]; exact below_alloc _ _
  have hWs : W.heap.size = w.heap.size + 1 := by rw [hW]; simp
  obtain ⟨hd, hhd⟩ : ∃ hd : Array Value, hd = #[.string ⟨c.name.toArray⟩, .int .i64 c.params, .int .i64 c.results, .int .i64 c.vars, .int .i64 c.slots, .slice a3 n k3] := ⟨_, rfl⟩
  have HHD : Hid (hd = _) := hhd
  have HC1 : Hid (W.heap[w.heap.size]? = some (.cells hd 24)) := by rw [hhd, hW]; exact heap_alloc_new w _
  have HWS : Hid (W = _) := hW
  obtain ⟨i0, hi0, hz0, hz1, hzb⟩ := infoParts infoInts
  obtain ⟨i1, hi1, hy0, hy1, hyb⟩ := infoParts infoInt
  clear hb hn hW hhd hL hdm
  go_enter Try.func10, Try.ntmps10
  go_wp2_with (at_make; rw [← HWS.out]; refine wpList_make_full _ rfl _ _ _ rfl W.heap.size 31 i0 _ 1 Try.underlying25 hi0 hz0 hz1 .i64 .i64 _ _ n (by rfl) (by rfl) rfl rfl (by rw [hzb]; omega) (by unfold maxLen; omega) (Nat.le_refl _) ?_)
  intro w0 hown hgrow
  have hex : ∃ gB vs, gB = w.heap.size + 1 ∧ AB w w0 n gB hd vs (stD dm 0 0) := by
    refine ⟨_, List.replicate n (.slice none 0 0), rfl, ?_⟩
    rw [stD_zero]
    have hb0 : Below W.heap.size W w0 := (Below.refl _ _).grown hgrow (Nat.le_refl _) (fun k hk => by cases hk)
    exact ⟨Grid.made (by rw [Nat.mul_one]; exact hown), (hb0.block _ (lt_of_block HC1.out)).trans HC1.out, HW.out.trans (hb0.mono HW.out.size)⟩
  obtain ⟨gB, vs0, e1, hG0⟩ := hex
  have p0 := cells6 (w := w0) (x := w.heap.size) (by have := hG0.blk; rw [HHD.out] at this; exact this)
  have HG0 : Hid (_) := hG0
  rw [← e1]
  have HE : Hid (gB = w.heap.size + 1) := e1
  clear hown hgrow HW HC1 HWS e1 hG0
  go_wp2_with fail
  refine (HDW.out _ _ HG0.out.bel).mono ?_
  rintro e w1 ⟨vl, fl, rfl, hol, hfl, hbl⟩
  have HFL : Hid (∀ x, x < n → (fl x = true ↔ Rch (preL L) x)) := fun x hx => (hfl x hx).trans ⟨fun h => h.rch, fun h => h.mono fun y hy => by have hy : (y : Int) = -1 := hy; omega⟩
  have HG1 : Hid (AB w w1 n gB hd vs0 (stD dm 0 0)) := HG0.out.keep hbl
  have HK1 : Hid (Kp w1 gB n vs0 vl fl) := HG0.out.new hol
  obtain ⟨al, cl, rfl⟩ := own_slice hol
  clear hol hfl hbl HG0 p0
  go_wp2_with fail
  go_loopg [5] n (fun g s5 wr => ∃ (k : Nat) (vs : List Value), s5 = .int .i64 (k : Nat) ∧ k + g = n ∧ Hid (AB w wr n gB hd vs (stD dm k 0)) ∧ Hid (Kp wr gB n vs (.slice al n cl) fl))
  case atStart => exact ⟨0, vs0, rfl, by omega, HG1, HK1⟩
  case round =>
    clear HG1 HK1
    obtain ⟨k, vs, rfl, hk', HG, HK⟩ := hrel
    have p := cells6 (w := wr) (x := w.heap.size) (by have := HG.out.blk; rw [HHD.out] at this; exact this)
    cases gk with
    | zero =>
      have hlt : ¬ (k : Int) < (n : Int) := by omega
      have HF : Hid (Rws wr.heap.size wr (.slice (some ⟨gB, 0, none⟩) n n) ((List.range n).map fun j => rowD dm j n)) := by
        have h1 : (List.range n).map (stD dm k 0) = (List.range n).map fun j => rowD dm j n := by
          refine List.map_congr_left fun j hj => ?_
          have e : k = n := by omega
          subst e
          simp [stD]
        unfold Hid
        rw [← h1]
        refine HG.out.grid.rws fun j hj y hy => ?_
        have : y ∈ rowD dm j k := by simpa [stD] using hy
        have := rowD_mem this
        unfold I64
        omega
      go_wp2_with fail
      go_ret
      exact ⟨_, rfl, HF.out, HG.out.bel⟩
    | succ gt =>
      have hltT : (k : Int) < (n : Int) := by omega
      have hkn : k < n := by omega
      obtain ⟨gl, cl', he, q1⟩ := HK.out.get hkn
      cases he
      rcases hlk : fl k with _ | _
      · rw [hlk] at q1
        have HP : Hid (AB w wr n gB hd vs (stD dm (k + 1) 0)) := HG.out.congr fun j hj => stD_dead (by
          rcases hd2 : dm k j with _ | _
          · rfl
          · have := (HFL.out k hkn).2 ((HDM.out k j).1 hd2).1
            rw [hlk] at this; cases this)
        clear hlk
        go_wp2_with fail
        go_roundg gt
        case measure => omega
        case rel => exact ⟨k + 1, vs, by go_num, by omega, HP, HK⟩
      · rw [hlk] at q1
        have HRK : Hid (Rch (preL L) k) := (HFL.out k hkn).1 hlk
        clear hlk
        go_wp2_with fail
        refine (HDW.out _ _ HG.out.bel).mono ?_
        rintro e w2 ⟨vn, fn, rfl, hon, hfn, hbn⟩
        have HFN : Hid (∀ x, x < n → (fn x = true ↔ Wy (preL L) (· = k) x)) := fun x hx => (hfn x hx).trans ⟨fun h => h.mono fun y hy => by have hy : y = k := hy; subst hy; rfl, fun h => h.mono fun y hy => by have hy : (y : Int) = (k : Int) := hy; show y = k; omega⟩
        have HG2 : Hid (AB w w2 n gB hd vs (stD dm k 0)) := HG.out.keep hbn
        have HK2 : Hid (Kp w2 gB n vs (.slice (some ⟨gl, 0, none⟩) n cl) fl) := HK.out.keep hbn
        have HN2 : Hid (Kp w2 gB n vs vn fn) := HG.out.new hon
        obtain ⟨an, cn, rfl⟩ := own_slice hon
        obtain ⟨gn, cn', he, _⟩ := HN2.out.get hkn
        cases he
        clear hon hfn hbn HG HK p q1
        go_wp2_with fail
        go_loopg [7] n (fun g s7 wr => ∃ (i : Nat) (vs : List Value), s7 = .int .i64 (i : Nat) ∧ i + g = n ∧ Hid (AB w wr n gB hd vs (stD dm k i)) ∧ Hid (Kp wr gB n vs (.slice (some ⟨gl, 0, none⟩) n cl) fl) ∧ Hid (Kp wr gB n vs (.slice (some ⟨gn, 0, none⟩) n cn) fn))
        case atStart => exact ⟨0, vs, rfl, by omega, HG2, HK2, HN2⟩
        case round =>
          clear HG2 HK2 HN2 vs
          obtain ⟨i, vs, rfl, hi', HG, HK, HN⟩ := hrel
          have p := cells6 (w := wr) (x := w.heap.size) (by have := HG.out.blk; rw [HHD.out] at this; exact this)
          cases gk with
          | zero =>
            have hlt : ¬ (i : Int) < (n : Int) := by omega
            have HP : Hid (AB w wr n gB hd vs (stD dm (k + 1) 0)) := HG.out.congr fun j hj => by
              have e : i = n := by omega
              subst e
              exact stD_next hj
            go_wp2_with fail
            go_roundg gt
            case measure => omega
            case rel => exact ⟨k + 1, vs, by go_num, by omega, HP, HK⟩
          | succ gi =>
            have hltI : (i : Int) < (n : Int) := by omega
            have hin : i < n := by omega
            obtain ⟨_, _, he, r1⟩ := HK.out.get hin
            cases he
            obtain ⟨_, _, he, r2⟩ := HN.out.get hin
            cases he
            have hdi : dm k i = (fl i && !fn i) := by
              have h1 := HFL.out i hin
              have h2 := HFN.out i hin
              have h3 := HDM.out k i
              rw [Bool.eq_iff_iff, h3, Bool.and_eq_true, h1, Bool.not_eq_true', ← Bool.not_eq_true, h2]
              exact ⟨fun h => h.2, fun h => ⟨HRK.out, h⟩⟩
            rcases hf1 : fl i with _ | _
            · rw [hf1] at r1 hdi
              have HP : Hid (AB w wr n gB hd vs (stD dm k (i + 1))) := by unfold Hid; rw [← stD_skip (by rw [hdi]; rfl)]; exact HG.out
              clear hf1 hdi
              go_wp2_with fail
              go_roundg gi
              case measure => omega
              case rel => exact ⟨i + 1, vs, by go_num, by omega, HP, HK, HN⟩
            · rw [hf1] at r1 hdi
              rcases hf2 : fn i with _ | _
              · rw [hf2] at r2 hdi
                have HDI : Hid (dm k i = true) := hdi
                clear hf1 hf2 hdi
                obtain ⟨gB', cB', u, av, cv, he, _, _, hvt, hu, hcell, hfz⟩ := HG.out.grid.at hin
                cases he
                subst hu
                have hfl : (stD dm k i i).length ≤ k := by rw [stD_here]; exact rowD_len _ _ _
                obtain ⟨la, hla⟩ : ∃ la, la = (stD dm k i i).length := ⟨_, rfl⟩
                rw [← hla] at hcell hfl
                have HLA : Hid (la = (stD dm k i i).length) := hla
                have HO : Hid (wr.ownsRow (w.heap.size + 1) 3 1 (.slice av la cv) la (numsL (stD dm k i i))) := by unfold Hid; rw [hla]; exact HG.out.grid.each i _ hin hvt
                obtain ⟨W1, hW1⟩ : ∃ W1, W1 = wr.alloc (.cells #[.int .i64 (k : Int)] 3) := ⟨_, rfl⟩
                have HW1S : Hid (W1 = _) := hW1
                have hb1 : Below wr.heap.size wr W1 := by rw [hW1]; exact below_alloc _ _
                have hs1 : W1.heap.size = wr.heap.size + 1 := by rw [hW1]; simp
                have HS1 : Hid (W1.heap.size = wr.heap.size + 1) := hs1
                have HNW : Hid (∀ j u, [Value.int .i64 (k : Int)][j]? = some u → W1.cell? ((⟨wr.heap.size, 0, none⟩ : Addr).add j) = some u) := World.news_of_block (by rw [hW1]; exact heap_alloc_new wr _)
                have HB1 : Hid (Below wr.heap.size wr W1) := hb1
                have HO1 : Hid (W1.ownsRow (w.heap.size + 1) 3 1 (.slice av la cv) la (numsL (stD dm k i i))) := own_same HO.out fun g hg => hb1.block g (own_lt HO.out hg).2
                have HLE : Hid (w.heap.size + 1 ≤ W1.heap.size) := by unfold Hid; have := lt_of_block HG.out.blk; omega
                have HVT : Hid (vs[i]? = some (.slice av (stD dm k i i).length cv)) := hvt
                clear hla hW1 hb1 hs1 hvt
                go_wp2_with (at_builtin; rw [← HW1S.out]; refine wpList_append_lies _ rfl _ _ 31 (by rfl) (w.heap.size + 1) 3 i1 _ 1 8 Try.underlying31 hi1 hy0 hy1 hyb rfl (by decide) (.slice av la cv) la _ (by rfl) HO1.out ⟨wr.heap.size, 0, none⟩ 1 1 [.int .i64 (k : Int)] (by rfl) rfl HNW.out (by intro u hu; simp at hu; subst hu; rfl) (by decide) (by unfold maxLen; omega) (by omega) HLE.out (wr.heap.size + 1) HS1.out ?_)
                intro g cp w1 hown hgrow hat hlt1
                have hg2 : W1.grownBy w1 (Value.slice av (stD dm k i i).length cv).ownBlock := by rw [← HLA.out]; exact hgrow
                have hat2 : (Value.slice (some ⟨g, 0, none⟩) (la + 1) cp).ownBlock = (Value.slice av (stD dm k i i).length cv).ownBlock ∨ (Value.slice (some ⟨g, 0, none⟩) (la + 1) cp).ownBlock = some W1.heap.size := by
                  rw [← HLA.out]
                  rcases hat with h1 | h1
                  · exact .inl h1.symm
                  · right; rw [HS1.out]; simp [Value.ownBlock, h1]
                have HP : Hid (AB w (w1.setCell ⟨gB, i, none⟩ (.slice (some ⟨g, 0, none⟩) (la + 1) cp)) n gB hd (vs.set i (.slice (some ⟨g, 0, none⟩) (la + 1) cp)) (stD dm k (i + 1))) := by
                  have hK := HG.out.keep HB1.out
                  have := hK.push hin HVT.out hg2 (u' := .slice (some ⟨g, 0, none⟩) (la + 1) cp) (x := (k : Int)) hat2 (by rw [← HLA.out]; exact hown)
                  rw [stD_push HDI.out] at this
                  exact this
                have HK3 : Hid (Kp (w1.setCell ⟨gB, i, none⟩ (.slice (some ⟨g, 0, none⟩) (la + 1) cp)) gB n (vs.set i (.slice (some ⟨g, 0, none⟩) (la + 1) cp)) (.slice (some ⟨gl, 0, none⟩) n cl) fl) := (HK.out.keep HB1.out).push HVT.out hg2 hat2
                have HN3 : Hid (Kp (w1.setCell ⟨gB, i, none⟩ (.slice (some ⟨g, 0, none⟩) (la + 1) cp)) gB n (vs.set i (.slice (some ⟨g, 0, none⟩) (la + 1) cp)) (.slice (some ⟨gn, 0, none⟩) n cn) fn) := (HN.out.keep HB1.out).push HVT.out hg2 hat2
                have hw1B : w1.heap[gB]? = wr.heap[gB]? := (hgrow.block gB (by have := (own_lt HG.out.grid.row (g := gB) rfl).2; rw [HS1.out]; omega) (fun e => by
                  rw [HLA.out] at e
                  exact HG.out.grid.away i _ gB HVT.out e.symm rfl)).trans (HB1.out.block gB (own_lt HG.out.grid.row (g := gB) rfl).2)
                have q1 : w1.cell? ⟨gB, i, none⟩ = some (.slice av la cv) := (World.cell?_of_block (a := ⟨gB, i, none⟩) hw1B).trans hcell
                have q2 : w1.frozen? ⟨gB, i, none⟩ = false := (World.frozen?_of_block (a := ⟨gB, i, none⟩) hw1B).trans hfz
                clear hown hgrow hat hw1B hcell hfz hg2 hat2
                go_wp2_with fail
                go_roundg gi
                case measure => omega
                case rel => exact ⟨i + 1, _, by go_num, by omega, HP, HK3, HN3⟩
              · rw [hf2] at r2 hdi
                have HP : Hid (AB w wr n gB hd vs (stD dm k (i + 1))) := by unfold Hid; rw [← stD_skip (by rw [hdi]; rfl)]; exact HG.out
                clear hf1 hf2 hdi
                go_wp2_with fail
                go_roundg gi
                case measure => omega
                case rel => exact ⟨i + 1, vs, by go_num, by omega, HP, HK, HN⟩

end Go.Proofs.Ytjdedfgdofceeaa
