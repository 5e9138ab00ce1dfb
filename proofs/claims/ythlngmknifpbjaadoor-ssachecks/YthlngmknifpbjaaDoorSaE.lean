/-
  Package code: Ahead.
-/
import Derived.Test.YthlngmknifpbjaaDoorJSsE
namespace Go.Proofs.YthlngmknifpbjaaDoor
open Go.RowKit
set_option linter.unusedSimpArgs false
set_option linter.unusedVariables false

set_option maxHeartbeats 4000000 in
set_option maxRecDepth 20000 in
theorem aheadOf_any (L : List (List Int)) (v : Value) (B : Nat) (w : World) (hB : B ≤ w.heap.size) (hb : Rws B w v L) (hsz : L.length * 24 ≤ 140737488351232) :
    Calls Tryd.prog 28 #[v] w fun e w' => ∃ v, e = .returned v ∧ Rws w'.heap.size w' v ((List.range L.length).map fun t => rowL L t L.length) ∧ Below w.heap.size w w' := by
  obtain ⟨a3, k3, rfl⟩ := Lies.slice hb
  have HBK : Hid (Rws B w (.slice a3 L.length k3) L) := hb
  obtain ⟨n, hn⟩ : ∃ n, n = L.length := ⟨_, rfl⟩
  rw [← hn] at hsz HBK ⊢
  have HN : Hid (n = L.length) := hn
  obtain ⟨i0, hi0, hz0, hz1, hzb⟩ := infoParts infoInts
  obtain ⟨i1, hi1, hy0, hy1, hyb⟩ := infoParts infoInt
  clear hb hn
  go_enter Tryd.func28, Tryd.ntmps28
  go_wp2_with (at_make; refine wpList_make_full _ rfl _ _ _ rfl w.heap.size 23 i0 _ 1 Tryd.underlying34 hi0 hz0 hz1 .i64 .i64 _ _ n (by rfl) (by rfl) rfl rfl (by rw [hzb]; omega) (by unfold maxLen; omega) (Nat.le_refl _) ?_)
  intro w0 hown hgrow
  have hex : ∃ gB vs, gB = w.heap.size ∧ AH w w0 n gB vs (stL L 0 0) := by
    have hb0 : Below w.heap.size w w0 := (Below.refl _ _).grown hgrow (Nat.le_refl _) (fun k hk => by cases hk)
    refine ⟨_, List.replicate n (.slice none 0 0), rfl, ?_, hb0⟩
    rw [stL_zero]
    exact Grid.made (by rw [Nat.mul_one]; exact hown)
  obtain ⟨gB, vs0, e1, hG0⟩ := hex
  have HG0 : Hid (_) := hG0
  rw [← e1]
  clear hown hgrow e1 hG0
  go_wp2_with fail
  go_loopg [14] n (fun g s14 wr => ∃ (b : Nat) (vs : List Value), s14 = .int .i64 (b : Nat) ∧ b + g = n ∧ Hid (AH w wr n gB vs (stL L b 0)))
  case atStart => exact ⟨0, vs0, rfl, by omega, HG0⟩
  case round =>
    obtain ⟨b, vs, rfl, hb', HG⟩ := hrel
    cases gk with
    | zero =>
      have hlt : ¬ (b : Int) < (n : Int) := by omega
      have HF : Hid (Rws wr.heap.size wr (.slice (some ⟨gB, 0, none⟩) n n) ((List.range n).map fun t => rowL L t n)) := by
        have e : b = n := by omega
        have h1 := HG.out.grid
        rw [stL_start, e] at h1
        exact h1.rws fun i hi y hy => by have := rowL_mem hy; unfold I64; omega
      go_wp2_with fail
      go_ret
      exact ⟨_, rfl, HF.out, HG.out.bel⟩
    | succ gb =>
      have hltB : (b : Int) < (n : Int) := by omega
      have hbN : b < L.length := by have := HN.out; omega
      have hget : L[b]? = some L[b] := List.getElem?_eq_getElem hbN
      generalize L[b] = x at hget
      have HGD : Hid (L.getD b [] = x) := by unfold Hid; rw [List.getD_eq_getElem?_getD, hget]; rfl
      obtain ⟨ga, oa, cs, rfl, hga, _, ⟨vk, rfl, hvk⟩, hcl⟩ := Lies.at HBK.out hget
      obtain ⟨ak, ck, rfl⟩ := Lies.slice hvk
      have q0 := (HG.out.bel.cell (p := ⟨ga, oa + b * 1 + 0, none⟩) (by show ga < _; omega)).trans (hcl 0 (by decide))
      simp at q0
      have hbl := hvk.len
      unfold maxLen at hbl
      have HVK0 : Hid (Nums B w (.slice ak x.length ck) x) := hvk
      obtain ⟨wo, hwo⟩ : ∃ wo, wo = wr := ⟨_, rfl⟩
      subst hwo
      clear hcl hget hvk hbN
      go_wp2_with fail
      clear q0
      go_loopg [21] x.length (fun g s21 wr => ∃ (j : Nat) (vs : List Value), s21 = .int .i64 (j : Nat) ∧ j + g = x.length ∧ Hid (AH w wr n gB vs (stL L b j)))
      case atStart => exact ⟨0, vs, rfl, by omega, HG⟩
      case round =>
        clear HG vs
        obtain ⟨j, vs, rfl, hj', HG⟩ := hrel
        cases gk with
        | zero =>
          have hlt : ¬ (j : Int) < (x.length : Int) := by omega
          have HP : Hid (AH w wr n gB vs (stL L (b + 1) 0)) := by
            have e : j = (L.getD b []).length := by rw [HGD.out]; omega
            unfold Hid
            rw [← stL_next, ← e]
            exact HG.out
          go_wp2_with fail
          go_roundg gb
          case measure => omega
          case rel => exact ⟨b + 1, vs, by go_num, by omega, HP⟩
        | succ gj =>
          have hltJ : (j : Int) < (x.length : Int) := by omega
          have hjl : j < x.length := by omega
          have hgy : x[j]? = some x[j] := List.getElem?_eq_getElem hjl
          generalize x[j] = y at hgy
          have HY : Hid ((L.getD b [])[j]? = some y) := by unfold Hid; rw [HGD.out]; exact hgy
          obtain ⟨g3, o3, cs3, rfl, hg3, _, ⟨rfl, _⟩, hcl3⟩ := Lies.at HVK0.out hgy
          have q6 := (HG.out.bel.cell (p := ⟨g3, o3 + j * 1 + 0, none⟩) (by show g3 < _; omega)).trans (hcl3 0 (by decide))
          simp at q6
          clear hcl3 hgy hjl
          by_cases hy1' : 0 ≤ y
          · by_cases hy2' : y < (n : Int)
            · obtain ⟨k, rfl⟩ : ∃ k : Nat, y = (k : Int) := ⟨y.toNat, by omega⟩
              have hkn : k < n := by omega
              obtain ⟨g1, c1, u, av, cv, he, _, _, hvt, hu, hcell, hfz⟩ := HG.out.grid.at hkn
              cases he
              subst hu
              have hfl : (stL L b j k).length ≤ b + 1 := stL_len _ _ _ _
              obtain ⟨la, hla⟩ : ∃ la, la = (stL L b j k).length := ⟨_, rfl⟩
              rw [← hla] at hcell hfl
              have HLA : Hid (la = (stL L b j k).length) := hla
              have HO : Hid (wr.ownsRow w.heap.size 3 1 (.slice av la cv) la (numsL (stL L b j k))) := by unfold Hid; rw [hla]; exact HG.out.grid.each k _ hkn hvt
              obtain ⟨W1, hW1⟩ : ∃ W1, W1 = wr.alloc (.cells #[.int .i64 (b : Int)] 3) := ⟨_, rfl⟩
              have HW1S : Hid (W1 = _) := hW1
              have hb1 : Below wr.heap.size wr W1 := by rw [hW1]; exact below_alloc _ _
              have hs1 : W1.heap.size = wr.heap.size + 1 := by rw [hW1]; simp
              have HS1 : Hid (W1.heap.size = wr.heap.size + 1) := hs1
              have HNW : Hid (∀ i u, [Value.int .i64 (b : Int)][i]? = some u → W1.cell? ((⟨wr.heap.size, 0, none⟩ : Addr).add i) = some u) := World.news_of_block (by rw [hW1]; exact heap_alloc_new wr _)
              have HB1 : Hid (Below wr.heap.size wr W1) := hb1
              have HO1 : Hid (W1.ownsRow w.heap.size 3 1 (.slice av la cv) la (numsL (stL L b j k))) := own_same HO.out fun g hg => hb1.block g (own_lt HO.out hg).2
              have HLE : Hid (w.heap.size ≤ W1.heap.size) := by unfold Hid; have := HG.out.bel.size; omega
              have HVT : Hid (vs[k]? = some (.slice av (stL L b j k).length cv)) := hvt
              have HNU : Hid (Nums wr.heap.size wr (.slice av la cv) (stL L b j k)) := by unfold Hid; rw [hla]; exact nums_of_own (HG.out.grid.each k _ hkn hvt) fun y hy => by have := stL_mem hy; unfold I64; omega
              have HLAST : Hid (((stL L b j k).getLast? == some (b : Int)) = (x.take j).contains (k : Int)) := by unfold Hid; rw [stL_last, HGD.out]
              have hEnd : (la = 0 ∧ (x.take j).contains (k : Int) = false) ∨ ∃ (m g1 o1 : Nat) (y0 : Int), la = m + 1 ∧ av = some ⟨g1, o1, none⟩ ∧ wr.cell? ⟨g1, o1 + m, none⟩ = some (.int .i64 y0) ∧ (y0 == (b : Int)) = (x.take j).contains (k : Int) := by
                have h1 := HLAST.out
                have h2 : Nums wr.heap.size wr (.slice av (stL L b j k).length cv) (stL L b j k) := by rw [← hla]; exact HNU.out
                generalize stL L b j k = zs at h1 h2 hla
                rcases List.eq_nil_or_concat zs with rfl | ⟨ys, y0, rfl⟩
                · left; refine ⟨hla, ?_⟩; rw [← h1]; rfl
                · right
                  have hget : (ys.concat y0)[ys.length]? = some y0 := by simp
                  obtain ⟨g1, o1, cs1, e1, _, hcs1, ⟨rfl, hx⟩, hcell1⟩ := Lies.at h2 hget
                  have q0 := hcell1 0 (by decide)
                  refine ⟨ys.length, g1, o1, y0, by rw [hla]; simp, by cases e1; rfl, by simpa using q0, by rw [← h1]; simp⟩
              clear hla hW1 hb1 hs1 hvt
              rcases hEnd with ⟨h0, hc⟩ | ⟨m, g1, o1, y0, h0, h1, qL, hc⟩
              · have HC : Hid (_) := hc
                clear hc
                subst h0
                go_wp2_with (at_builtin; rw [← HW1S.out]; refine wpList_append_lies _ rfl _ _ 23 (by rfl) w.heap.size 3 i1 _ 1 8 Tryd.underlying23 hi1 hy0 hy1 hyb rfl (by decide) (.slice av 0 cv) 0 _ (by rfl) HO1.out ⟨wr.heap.size, 0, none⟩ 1 1 [.int .i64 (b : Int)] (by rfl) rfl HNW.out (by intro u hu; simp at hu; subst hu; rfl) (by decide) (by unfold maxLen; omega) (by omega) HLE.out (wr.heap.size + 1) HS1.out ?_)
                intro g cp w1 hown hgrow hat hlt1
                have HP : Hid (AH w (w1.setCell ⟨gB, k, none⟩ (.slice (some ⟨g, 0, none⟩) (0 + 1) cp)) n gB (vs.set k (.slice (some ⟨g, 0, none⟩) (0 + 1) cp)) (stL L b (j + 1))) := by
                  have hg2 : W1.grownBy w1 (Value.slice av (stL L b j k).length cv).ownBlock := by rw [← HLA.out]; exact hgrow
                  have hK := HG.out.keep HB1.out
                  have := hK.push hkn HVT.out hg2 (u' := .slice (some ⟨g, 0, none⟩) (0 + 1) cp) (x := (b : Int)) (by
                    rw [← HLA.out]
                    rcases hat with h1 | h1
                    · exact .inl h1.symm
                    · right; rw [HS1.out]; simp [Value.ownBlock, h1]) (by rw [← HLA.out]; exact hown)
                  rw [stL_push HY.out (by rw [HGD.out]; exact HC.out)] at this
                  exact this
                have hw1B : w1.heap[gB]? = wr.heap[gB]? := (hgrow.block gB (by have := (own_lt HG.out.grid.row (g := gB) rfl).2; rw [HS1.out]; omega) (fun e => by
                  rw [HLA.out] at e
                  exact HG.out.grid.away k _ gB HVT.out e.symm rfl)).trans (HB1.out.block gB (own_lt HG.out.grid.row (g := gB) rfl).2)
                have q1 : w1.cell? ⟨gB, k, none⟩ = some (.slice av 0 cv) := (World.cell?_of_block (a := ⟨gB, k, none⟩) hw1B).trans hcell
                have q2 : w1.frozen? ⟨gB, k, none⟩ = false := (World.frozen?_of_block (a := ⟨gB, k, none⟩) hw1B).trans hfz
                clear hown hgrow hat hw1B hcell hfz
                go_wp2_with fail
                go_roundg gj
                case measure => omega
                case rel => exact ⟨j + 1, _, by go_num, by omega, HP⟩
              · have h0p : (0 : Int) < ((m + 1 : Nat) : Int) := by omega
                have h1p : (((m + 1 : Nat) : Int) - 1) = (m : Int) := by omega
                subst h1
                rcases hcc : (x.take j).contains (k : Int) with _ | _
                · have HC : Hid (_) := hcc
                  rw [hcc] at hc
                  have hne : (y0 != (b : Int)) = true := by rw [bne, hc]; rfl
                  clear hcc hc
                  subst h0
                  go_wp2_with (at_builtin; rw [← HW1S.out]; refine wpList_append_lies _ rfl _ _ 23 (by rfl) w.heap.size 3 i1 _ 1 8 Tryd.underlying23 hi1 hy0 hy1 hyb rfl (by decide) (.slice (some ⟨g1, o1, none⟩) (m + 1) cv) (m + 1) _ (by rfl) HO1.out ⟨wr.heap.size, 0, none⟩ 1 1 [.int .i64 (b : Int)] (by rfl) rfl HNW.out (by intro u hu; simp at hu; subst hu; rfl) (by decide) (by unfold maxLen; omega) (by omega) HLE.out (wr.heap.size + 1) HS1.out ?_)
                  intro g cp w1 hown hgrow hat hlt1
                  have HP : Hid (AH w (w1.setCell ⟨gB, k, none⟩ (.slice (some ⟨g, 0, none⟩) (m + 1 + 1) cp)) n gB (vs.set k (.slice (some ⟨g, 0, none⟩) (m + 1 + 1) cp)) (stL L b (j + 1))) := by
                    have hg2 : W1.grownBy w1 (Value.slice (some ⟨g1, o1, none⟩) (stL L b j k).length cv).ownBlock := by rw [← HLA.out]; exact hgrow
                    have hK := HG.out.keep HB1.out
                    have := hK.push hkn HVT.out hg2 (u' := .slice (some ⟨g, 0, none⟩) (m + 1 + 1) cp) (x := (b : Int)) (by
                      rw [← HLA.out]
                      rcases hat with h1 | h1
                      · exact .inl h1.symm
                      · right; rw [HS1.out]; simp [Value.ownBlock, h1]) (by rw [← HLA.out]; exact hown)
                    rw [stL_push HY.out (by rw [HGD.out]; exact HC.out)] at this
                    exact this
                  have hw1B : w1.heap[gB]? = wr.heap[gB]? := (hgrow.block gB (by have := (own_lt HG.out.grid.row (g := gB) rfl).2; rw [HS1.out]; omega) (fun e => by
                    rw [HLA.out] at e
                    exact HG.out.grid.away k _ gB HVT.out e.symm rfl)).trans (HB1.out.block gB (own_lt HG.out.grid.row (g := gB) rfl).2)
                  have q1 : w1.cell? ⟨gB, k, none⟩ = some (.slice (some ⟨g1, o1, none⟩) (m + 1) cv) := (World.cell?_of_block (a := ⟨gB, k, none⟩) hw1B).trans hcell
                  have q2 : w1.frozen? ⟨gB, k, none⟩ = false := (World.frozen?_of_block (a := ⟨gB, k, none⟩) hw1B).trans hfz
                  clear hown hgrow hat hw1B hcell hfz
                  go_wp2_with fail
                  go_roundg gj
                  case measure => omega
                  case rel => exact ⟨j + 1, _, by go_num, by omega, HP⟩
                · have HC : Hid (_) := hcc
                  have HP : Hid (AH w wr n gB vs (stL L b (j + 1))) := by unfold Hid; rw [← stL_twice HY.out (by rw [HGD.out]; exact HC.out)]; exact HG.out
                  rw [hcc] at hc
                  have hne : (y0 != (b : Int)) = false := by rw [bne, hc]; rfl
                  clear hcc hfz hc
                  subst h0
                  go_wp2_with fail
                  go_roundg gj
                  case measure => omega
                  case rel => exact ⟨j + 1, _, by go_num, by omega, HP⟩
            · have HP : Hid (AH w wr n gB vs (stL L b (j + 1))) := ⟨HG.out.grid.congr fun t ht => stL_none HY.out t (by omega), HG.out.bel⟩
              go_wp2_with fail
              go_roundg gj
              case measure => omega
              case rel => exact ⟨j + 1, vs, by go_num, by omega, HP⟩
          · have HP : Hid (AH w wr n gB vs (stL L b (j + 1))) := ⟨HG.out.grid.congr fun t ht => stL_none HY.out t (by omega), HG.out.bel⟩
            go_wp2_with fail
            go_roundg gj
            case measure => omega
            case rel => exact ⟨j + 1, vs, by go_num, by omega, HP⟩

end Go.Proofs.YthlngmknifpbjaaDoor
