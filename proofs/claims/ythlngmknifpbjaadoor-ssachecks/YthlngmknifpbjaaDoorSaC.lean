/-
  Which blocks lead to a block, plain; the statement's own answer (AheadOf).
-/
import Derived.Test.YthlngmknifpbjaaDoorJSsE
namespace Go.Proofs.YthlngmknifpbjaaDoor
open Go.RowKit
set_option linter.unusedSimpArgs false
set_option linter.unusedVariables false

/-- what the loops keep -/
structure AO (w wr : World) (n gB cB : Nat) (hd : Array Value) (vs : List Value) (f : Nat → List Int) : Prop where
  grid : Grid wr (w.heap.size + 1) n (.slice (some ⟨gB, 0, none⟩) n cB) vs f
  blk : wr.heap[w.heap.size]? = some (.cells hd 28)
  bel : Below w.heap.size w wr

theorem AO.keep {w wr w' : World} {n gB cB : Nat} {hd : Array Value} {vs : List Value} {f : Nat → List Int} (h : AO w wr n gB cB hd vs f) (k : Below wr.heap.size wr w') : AO w w' n gB cB hd vs f :=
  ⟨h.grid.keep k, (k.block _ (lt_of_block h.blk)).trans h.blk, h.bel.trans (k.mono h.bel.size)⟩

theorem AO.push {w wr w1 : World} {n i gB cB : Nat} {hd : Array Value} {vs : List Value} {f : Nat → List Int} {u u' : Value} {x : Int} (h : AO w wr n gB cB hd vs f) (hi : i < n) (hu : vs[i]? = some u)
    (hg : wr.grownBy w1 u.ownBlock) (hat : u'.ownBlock = u.ownBlock ∨ u'.ownBlock = some wr.heap.size) (ho : w1.ownsRow (w.heap.size + 1) 3 1 u' ((f i).length + 1) (numsL (f i) ++ [numV x])) :
    AO w (w1.setCell ⟨gB, i, none⟩ u') n gB cB hd (vs.set i u') (upd f i (f i ++ [x])) := by
  obtain ⟨h1, h2⟩ := h.grid.push hi hu hg hat ho
  have h3 := h2 (w.heap.size + 1) (Nat.le_refl _) (by have := lt_of_block h.blk; omega)
  exact ⟨h1, (h3.block _ (by omega)).trans h.blk, h.bel.trans (h3.mono (by omega))⟩

set_option maxHeartbeats 4000000 in
set_option maxRecDepth 20000 in
theorem aheadOfR_any (c : Cod) (vb : Value) (B : Nat) (w : World) (hB : B ≤ w.heap.size) (hb : Blks B w vb c.blocks) (hsz : c.blocks.length * 24 ≤ 140737488351232) :
    Calls Tryd.prog 9 #[.agg #[.string ⟨c.name.toArray⟩, .int .i64 c.params, .int .i64 c.results, .int .i64 c.vars, .int .i64 c.slots, vb]] w fun e w' => ∃ v, e = .returned v ∧ Rws w'.heap.size w' v (aheadL c.blocks) ∧ Below w.heap.size w w' := by
  obtain ⟨a3, k3, rfl⟩ := Lies.slice hb
  have HBK : Hid (Blks B w (.slice a3 c.blocks.length k3) c.blocks) := hb
  obtain ⟨bs, hbs⟩ : ∃ bs, bs = c.blocks := ⟨_, rfl⟩
  rw [← hbs] at hsz HBK ⊢
  obtain ⟨n, hn⟩ : ∃ n, n = bs.length := ⟨_, rfl⟩
  rw [← hn] at hsz HBK ⊢
  have HN : Hid (n = bs.length) := hn
  obtain ⟨W, hW⟩ : ∃ W, W = w.alloc (.cells #[.string ⟨c.name.toArray⟩, .int .i64 c.params, .int .i64 c.results, .int .i64 c.vars, .int .i64 c.slots, .slice a3 n k3] 28) := ⟨_, rfl⟩
  have HW : Hid (Below w.heap.size w W) := by rw [hW]; exact below_alloc _ _
  have hWs : W.heap.size = w.heap.size + 1 := by rw [hW]; simp
  obtain ⟨hd, hhd⟩ : ∃ hd : Array Value, hd = #[.string ⟨c.name.toArray⟩, .int .i64 c.params, .int .i64 c.results, .int .i64 c.vars, .int .i64 c.slots, .slice a3 n k3] := ⟨_, rfl⟩
  have HHD : Hid (hd = _) := hhd
  have HC1 : Hid (W.heap[w.heap.size]? = some (.cells hd 28)) := by rw [hhd, hW]; exact heap_alloc_new w _
  have HWS : Hid (W = _) := hW
  obtain ⟨i0, hi0, hz0, hz1, hzb⟩ := infoParts infoInts
  obtain ⟨i1, hi1, hy0, hy1, hyb⟩ := infoParts infoInt
  clear hb hbs hn hW hhd
  go_enter Tryd.func9, Tryd.ntmps9
  go_wp2_with (at_make; rw [← HWS.out]; refine wpList_make_full _ rfl _ _ _ rfl W.heap.size 23 i0 _ 1 Tryd.underlying34 hi0 hz0 hz1 .i64 .i64 _ _ n (by rfl) (by rfl) rfl rfl (by rw [hzb]; omega) (by unfold maxLen; omega) (Nat.le_refl _) ?_)
  intro w0 hown hgrow
  have hex : ∃ gB cB vs, gB = w.heap.size + 1 ∧ cB = n ∧ AO w w0 n gB cB hd vs (stF bs 0 0) := by
    refine ⟨_, _, List.replicate n (.slice none 0 0), rfl, rfl, ?_⟩
    rw [stF_start]
    have hb0 : Below W.heap.size W w0 := (Below.refl _ _).grown hgrow (Nat.le_refl _) (fun k hk => by cases hk)
    exact ⟨Grid.made (by rw [Nat.mul_one]; exact hown), (hb0.block _ (lt_of_block HC1.out)).trans HC1.out, HW.out.trans (hb0.mono HW.out.size)⟩
  have p0 := cells6 (w := w0) (x := w.heap.size) (by obtain ⟨_, _, _, _, _, h⟩ := hex; have := h.blk; rw [HHD.out] at this; exact this)
  obtain ⟨gB, cB, vs0, e1, e2, hG0⟩ := hex
  subst e2
  have HG0 : Hid (_) := hG0
  rw [← e1]
  have HE : Hid (gB = w.heap.size + 1) := e1
  clear hown hgrow HW HC1 HWS e1 hG0
  go_wp2_with fail
  go_loopg [4] cB (fun g s4 wr => ∃ (t : Nat) (vs : List Value), s4 = .int .i64 (t : Nat) ∧ t + g = cB ∧ Hid (AO w wr cB gB cB hd vs (stF bs t 0)))
  case atStart => exact ⟨0, vs0, rfl, by omega, HG0⟩
  case round =>
    obtain ⟨t, vs, rfl, ht', HG⟩ := hrel
    clear p0
    have p := cells6 (w := wr) (x := w.heap.size) (by have := HG.out.blk; rw [HHD.out] at this; exact this)
    cases gk with
    | zero =>
      have hlt : ¬ (t : Int) < (cB : Int) := by omega
      have HF : Hid (Rws wr.heap.size wr (.slice (some ⟨gB, 0, none⟩) cB cB) (aheadL bs)) := by
        have h1 : (List.range cB).map (stF bs t 0) = aheadL bs := by
          unfold aheadL
          rw [← HN.out]
          refine List.map_congr_left fun j hj => ?_
          have := List.mem_range.1 hj
          unfold stF
          rw [if_pos (by omega)]
        unfold Hid
        rw [← h1]
        refine HG.out.grid.rws fun j hj y hy => ?_
        unfold stF at hy
        rw [if_pos (by omega)] at hy
        have := rowB_mem hy
        have := HN.out
        unfold I64
        omega
      go_wp2_with fail
      go_ret
      exact ⟨_, rfl, HF.out, HG.out.bel⟩
    | succ gt =>
      have hltT : (t : Int) < (cB : Int) := by omega
      have htlt : t < cB := by omega
      obtain ⟨wo, hwo⟩ : ∃ wo, wo = wr := ⟨_, rfl⟩
      subst hwo
      go_wp2_with fail
      clear p
      go_loopg [5] cB (fun g s5 wr => ∃ (i : Nat) (vs : List Value), s5 = .int .i64 (i : Nat) ∧ i + g = cB ∧ Hid (AO w wr cB gB cB hd vs (stF bs t i)))
      case atStart => exact ⟨0, vs, rfl, by omega, HG⟩
      case round =>
        clear HG vs
        obtain ⟨i, vs, rfl, hi', HG⟩ := hrel
        have p := cells6 (w := wr) (x := w.heap.size) (by have := HG.out.blk; rw [HHD.out] at this; exact this)
        cases gk with
        | zero =>
          have hlt : ¬ (i : Int) < (cB : Int) := by omega
          have HP : Hid (AO w wr cB gB cB hd vs (stF bs (t + 1) 0)) := by
            have e : i = bs.length := by have := HN.out; omega
            unfold Hid
            rw [← stF_next, ← e]
            exact HG.out
          go_wp2_with fail
          go_roundg gt
          case measure => omega
          case rel => exact ⟨t + 1, vs, by go_num, by omega, HP⟩
        | succ gi =>
          have hltI : (i : Int) < (cB : Int) := by omega
          have hiltN : i < bs.length := by have := HN.out; omega
          have hget : bs[i]? = some bs[i] := List.getElem?_eq_getElem hiltN
          obtain ⟨wm, hwm⟩ : ∃ wm, wm = wr := ⟨_, rfl⟩
          subst hwm
          generalize bs[i] = b at hget
          clear hiltN
          obtain ⟨gb, ob, cs, rfl, _, _, ⟨vk, rfl, hvk⟩, hcl⟩ := Lies.at (HBK.out.below (HG.out.bel.mono hB)) hget
          obtain ⟨ak, ck, rfl⟩ := Lies.slice hvk
          have q0 := hcl 0 (by decide)
          simp at q0
          have HLD0 : Hid (leadsB bs t i = (leadsL b).contains (t : Int)) := by unfold Hid leadsB; rw [List.getD_eq_getElem?_getD, hget]; rfl
          obtain ⟨gB', cB', u, av, cv, he, _, _, hvt, hu, hcell, hfz⟩ := HG.out.grid.at htlt
          cases he
          subst hu
          have hbl := hvk.len
          unfold maxLen at hbl
          have HVK : Hid (_) := hvk
          clear hcl hget hvk
          obtain ⟨m, hm⟩ : ∃ m, m = b.length := ⟨_, rfl⟩
          rw [← hm] at HVK q0 hbl
          have HM : Hid (m = b.length) := hm
          clear hm
          rcases Nat.eq_zero_or_pos m with hm0 | hm0
          · subst hm0
            have HLD1 : Hid (leadsB bs t i = false) := by
              unfold Hid
              rw [HLD0.out]
              have : b = [] := List.eq_nil_of_length_eq_zero HM.out.symm
              subst this
              rfl
            go_wp2_with fail
            go_loopg [7, 8] 0 (fun g s7 s8 wr => s7 = .bool false ∧ s8 = .int .i64 0 ∧ wr = wm)
            case atStart => exact ⟨rfl, rfl, rfl⟩
            case round =>
              obtain ⟨rfl, rfl, rfl⟩ := hrel
              have HLD : Hid (leadsB bs t i = false) := HLD1
              have HP : Hid (AO w wr cB gB cB hd vs (stF bs t (i + 1))) := by unfold Hid; rw [← stF_skip HLD.out]; exact HG.out
              clear hcell hfz
              go_wp2_with fail
              go_roundg gi
              case measure => omega
              case rel => exact ⟨i + 1, _, by go_num, by omega, HP⟩
          · obtain ⟨x, hx⟩ : ∃ x, b[m - 1]? = some x := ⟨_, List.getElem?_eq_getElem (by have := HM.out; omega)⟩
            obtain ⟨g2, o2, cs2, rfl, _, _, ⟨vd, va, vt, rfl, _, _, hto, _⟩, hcl2⟩ := Lies.at HVK.out hx
            obtain ⟨at_, ct, rfl⟩ := Lies.slice hto
            have q5 := hcl2 5 (by decide)
            have hto2 := hto.len
            unfold maxLen at hto2
            have HTO : Hid (_) := hto
            have HLD1 : Hid (leadsB bs t i = x.to.contains (t : Int)) := by
              unfold Hid
              rw [HLD0.out]
              have : b.getLast? = some x := by rw [List.getLast?_eq_getElem?, ← HM.out]; exact hx
              unfold leadsL
              rw [this]
            obtain ⟨ld, hld0⟩ : ∃ ld, ld = leadsB bs t i := ⟨_, rfl⟩
            have hm1 : (0 : Int) < (m : Int) := by omega
            obtain ⟨m1, hm1e⟩ : ∃ m1, m = m1 + 1 := ⟨m - 1, by omega⟩
            subst hm1e
            simp at q5
            clear hcl2 hto
            go_wp2_with fail
            go_loopg [7, 8] x.to.length (fun g s7 s8 wr => ∃ k : Nat, s7 = .bool ((x.to.take k).contains (t : Int)) ∧ s8 = .int .i64 (k : Nat) ∧ k + g = x.to.length ∧ wr = wm)
            case atStart => exact ⟨0, rfl, rfl, by omega, rfl⟩
            case round =>
              obtain ⟨k, rfl, rfl, hk', rfl⟩ := hrel
              cases gk with
              | zero =>
                have hltK : ¬ (k : Int) < (x.to.length : Int) := by omega
                have e : x.to.take k = x.to := by rw [List.take_of_length_le (by omega)]
                rw [e, ← HLD1.out]
                rcases hld : leadsB bs t i with _ | _
                · have HLD : Hid (_) := hld
                  clear hld
                  have HP : Hid (AO w wr cB gB cB hd vs (stF bs t (i + 1))) := by unfold Hid; rw [← stF_skip HLD.out]; exact HG.out
                  clear hcell hfz
                  go_wp2_with fail
                  go_roundg gi
                  case measure => omega
                  case rel => exact ⟨i + 1, _, by go_num, by omega, HP⟩
                · have HLD : Hid (_) := hld
                  clear hld
                  have hfl : (stF bs t i t).length ≤ i := by rw [stF_here]; exact rowB_len _ _ _
                  obtain ⟨la, hla⟩ : ∃ la, la = (stF bs t i t).length := ⟨_, rfl⟩
                  rw [← hla] at hcell hfl
                  have HLA : Hid (la = (stF bs t i t).length) := hla
                  have HO : Hid (wr.ownsRow (w.heap.size + 1) 3 1 (.slice av la cv) la (numsL (stF bs t i t))) := by unfold Hid; rw [hla]; exact HG.out.grid.each t _ htlt hvt
                  obtain ⟨W1, hW1⟩ : ∃ W1, W1 = wr.alloc (.cells #[.int .i64 (i : Int)] 3) := ⟨_, rfl⟩
                  have HW1S : Hid (W1 = _) := hW1
                  have hb1 : Below wr.heap.size wr W1 := by rw [hW1]; exact below_alloc _ _
                  have hs1 : W1.heap.size = wr.heap.size + 1 := by rw [hW1]; simp
                  have HS1 : Hid (W1.heap.size = wr.heap.size + 1) := hs1
                  have HNW : Hid (∀ j u, [Value.int .i64 (i : Int)][j]? = some u → W1.cell? ((⟨wr.heap.size, 0, none⟩ : Addr).add j) = some u) := World.news_of_block (by rw [hW1]; exact heap_alloc_new wr _)
                  have HB1 : Hid (Below wr.heap.size wr W1) := hb1
                  have HO1 : Hid (W1.ownsRow (w.heap.size + 1) 3 1 (.slice av la cv) la (numsL (stF bs t i t))) := own_same HO.out fun g hg => hb1.block g (own_lt HO.out hg).2
                  have HLE : Hid (w.heap.size + 1 ≤ W1.heap.size) := by unfold Hid; have := lt_of_block HG.out.blk; omega
                  have HVT : Hid (vs[t]? = some (.slice av (stF bs t i t).length cv)) := hvt
                  clear hla hW1 hb1 hs1 hvt
                  go_wp2_with (at_builtin; rw [← HW1S.out]; refine wpList_append_lies _ rfl _ _ 23 (by rfl) (w.heap.size + 1) 3 i1 _ 1 8 Tryd.underlying23 hi1 hy0 hy1 hyb rfl (by decide) (.slice av la cv) la _ (by rfl) HO1.out ⟨wr.heap.size, 0, none⟩ 1 1 [.int .i64 (i : Int)] (by rfl) rfl HNW.out (by intro u hu; simp at hu; subst hu; rfl) (by decide) (by unfold maxLen; omega) (by omega) HLE.out (wr.heap.size + 1) HS1.out ?_)
                  intro g cp w1 hown hgrow hat hlt1
                  have HP : Hid (AO w (w1.setCell ⟨gB, t, none⟩ (.slice (some ⟨g, 0, none⟩) (la + 1) cp)) cB gB cB hd (vs.set t (.slice (some ⟨g, 0, none⟩) (la + 1) cp)) (stF bs t (i + 1))) := by
                    have hg2 : W1.grownBy w1 (Value.slice av (stF bs t i t).length cv).ownBlock := by rw [← HLA.out]; exact hgrow
                    have hK := HG.out.keep HB1.out
                    have := hK.push htlt HVT.out hg2 (u' := .slice (some ⟨g, 0, none⟩) (la + 1) cp) (x := (i : Int)) (by
                      rw [← HLA.out]
                      rcases hat with h1 | h1
                      · exact .inl h1.symm
                      · right; rw [HS1.out]; simp [Value.ownBlock, h1]) (by rw [← HLA.out]; exact hown)
                    rw [stF_push HLD.out] at this
                    exact this
                  have hw1B : w1.heap[gB]? = wr.heap[gB]? := (hgrow.block gB (by have := (own_lt HG.out.grid.row (g := gB) rfl).2; rw [HS1.out]; omega) (fun e => by
                    rw [HLA.out] at e
                    exact HG.out.grid.away t _ gB HVT.out e.symm rfl)).trans (HB1.out.block gB (own_lt HG.out.grid.row (g := gB) rfl).2)
                  have q1 : w1.cell? ⟨gB, t, none⟩ = some (.slice av la cv) := (World.cell?_of_block (a := ⟨gB, t, none⟩) hw1B).trans hcell
                  have q2 : w1.frozen? ⟨gB, t, none⟩ = false := (World.frozen?_of_block (a := ⟨gB, t, none⟩) hw1B).trans hfz
                  clear hown hgrow hat hw1B hcell hfz
                  go_wp2_with fail
                  go_roundg gi
                  case measure => omega
                  case rel => exact ⟨i + 1, _, by go_num, by omega, HP⟩
              | succ gk2 =>
                have hltK : (k : Int) < (x.to.length : Int) := by omega
                have hkl : k < x.to.length := by omega
                have hy : x.to[k]? = some x.to[k] := List.getElem?_eq_getElem hkl
                generalize x.to[k] = y at hy
                have HT2 : Hid ((x.to.take (k + 1)).contains (t : Int) = ((x.to.take k).contains (t : Int) || y == (t : Int))) := contains_take _ _ _ _ hy
                obtain ⟨g3, o3, cs3, rfl, _, _, ⟨rfl, _⟩, hcl3⟩ := Lies.at HTO.out hy
                have q6 := hcl3 0 (by decide)
                simp at q6
                clear hcl3 hy hkl
                rcases hc : (x.to.take k).contains (t : Int) with _ | _
                · have HC : Hid (_) := hc
                  clear hc
                  go_wp2_with fail
                  go_roundg gk2
                  case measure => omega
                  case rel => exact ⟨k + 1, by rw [HT2.out, HC.out]; simp, by go_num, by omega, rfl⟩
                · have HC : Hid (_) := hc
                  clear hc
                  go_wp2_with fail
                  go_roundg gk2
                  case measure => omega
                  case rel => exact ⟨k + 1, by rw [HT2.out, HC.out]; simp, by go_num, by omega, rfl⟩

end Go.Proofs.YthlngmknifpbjaaDoor
