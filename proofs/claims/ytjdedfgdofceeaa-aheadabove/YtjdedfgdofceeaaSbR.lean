/-
  Package ssa: Above.
-/
import Derived.Test.YtjdedfgdofceeaaSbR1
import Derived.Test.YtjdedfgdofceeaaSbR2
namespace Go.Proofs.Ytjdedfgdofceeaa
open Go.RowKit
set_option linter.unusedSimpArgs false
set_option linter.unusedVariables false

open Classical in
/-- the list of each block that was done: all above it and itself, sorted -/
noncomputable def abF (u : Nat → Option Nat) (n : Nat) (done : List Nat) : Nat → List Int := fun b => if b ∈ done then natsL ((List.range n).filter fun k => decide (Ch u k b)) else []

theorem natsL_countP (l : List Nat) (x : Nat) : (natsL l).countP (fun y => decide (y < (x : Int))) = l.countP (fun y => decide (y < x)) := by
  unfold natsL
  rw [List.countP_map]
  refine List.countP_congr fun y _ => ?_
  simp

open Classical in
theorem abF_put {u : Nat → Option Nat} {n b x : Nat} {o : List Nat} {P : Nat → Bool} (hx : o[b]? = some x) (hxn : x < n) (hnd : o.Nodup) (hP : P x = false) (hch : ∀ k, Ch u k x ↔ P k = true ∨ k = x) :
    ∀ j, j < n → upd (abF u n (o.take b)) x ((natsL ((List.range n).filter P)).take ((natsL ((List.range n).filter P)).countP (fun y => decide (y < (x : Int)))) ++ (x : Int) :: (natsL ((List.range n).filter P)).drop ((natsL ((List.range n).filter P)).countP (fun y => decide (y < (x : Int))))) j = abF u n (o.take (b + 1)) j := by
  intro j hj
  have ht : o.take (b + 1) = o.take b ++ [x] := by rw [List.take_add_one, hx]; rfl
  rw [natsL_countP]
  by_cases e : j = x
  · subst e
    rw [upd_same]
    have hm : j ∈ o.take (b + 1) := by rw [ht]; simp
    unfold abF
    rw [if_pos hm]
    have h1 := ins_filter (n := n) hxn hP
    have h2 : natsL (((List.range n).filter P).take (((List.range n).filter P).countP (fun x => decide (x < j))) ++ j :: ((List.range n).filter P).drop (((List.range n).filter P).countP (fun x => decide (x < j)))) = natsL ((List.range n).filter fun k => decide (Ch u k j)) := by
      rw [h1]
      congr 1
      refine List.filter_congr fun k _ => ?_
      rw [Bool.eq_iff_iff, Bool.or_eq_true, beq_iff_eq, decide_eq_true_iff, hch k]
    rw [← h2]
    simp [natsL, List.map_take, List.map_drop]
  · rw [upd_other _ _ e]
    unfold abF
    have hm : j ∈ o.take (b + 1) ↔ j ∈ o.take b := by rw [ht]; simp [e]
    by_cases h9 : j ∈ o.take b
    · rw [if_pos h9, if_pos (hm.2 h9)]
    · rw [if_neg h9, if_neg (fun h => h9 (hm.1 h))]

open Classical in
set_option maxHeartbeats 4000000 in
set_option maxRecDepth 20000 in
theorem above_any (c : Cod) (vb : Value) (B : Nat) (w : World) (hB : B ≤ w.heap.size) (hb : Blks B w vb c.blocks) (hsz : c.blocks.length ≤ 1048576) :
    Calls Try.prog 9 #[.agg #[.string ⟨c.name.toArray⟩, .int .i64 c.params, .int .i64 c.results, .int .i64 c.vars, .int .i64 c.slots, vb]] w fun e w' => ∃ (v : Value) (vs : List Value) (o : List Nat) (u : Nat → Option Nat), e = .returned v ∧ Grid w' w.heap.size c.blocks.length v vs (abF u c.blocks.length o) ∧
      (0 < c.blocks.length → Ordered (c.blocks.map leadsL) o ∧ UpOf (c.blocks.map leadsL) o u) ∧ (c.blocks.length = 0 → o = []) ∧ Below w.heap.size w w' := by
  obtain ⟨a3, k3, rfl⟩ := Lies.slice hb
  have HBK : Hid (Blks B w (.slice a3 c.blocks.length k3) c.blocks) := hb
  obtain ⟨bs, hbs⟩ : ∃ bs, bs = c.blocks := ⟨_, rfl⟩
  rw [← hbs] at hsz HBK ⊢
  obtain ⟨L, hL⟩ : ∃ L, L = bs.map leadsL := ⟨_, rfl⟩
  obtain ⟨n, hn⟩ : ∃ n, n = bs.length := ⟨_, rfl⟩
  have hLn : n = L.length := by rw [hL, List.length_map]; exact hn
  obtain ⟨W, hW⟩ : ∃ W, W = w.alloc (.cells #[.string ⟨c.name.toArray⟩, .int .i64 c.params, .int .i64 c.results, .int .i64 c.vars, .int .i64 c.slots, .slice a3 n k3] 24) := ⟨_, rfl⟩
  have HW : Hid (Below w.heap.size w W) := by rw [hW]; exact below_alloc _ _
  have hWs : W.heap.size = w.heap.size + 1 := by rw [hW]; simp
  have HC1 : Hid (W.heap[w.heap.size]? = some (.cells #[.string ⟨c.name.toArray⟩, .int .i64 c.params, .int .i64 c.results, .int .i64 c.vars, .int .i64 c.slots, .slice a3 n k3] 24)) := by rw [hW]; exact heap_alloc_new w _
  have HWS : Hid (W = _) := hW
  have HLD : Hid (_) := leadsOf_any bs _ B W (by omega) (HBK.out.below (HW.out.mono hB)) (by omega)
  rw [← hL, ← hn] at HLD
  rw [← hn] at hsz ⊢
  rw [← hL]
  have HLN : Hid (n = L.length) := hLn
  clear hb hbs hn hW hL hLn HBK
  go_enter Try.func9, Try.ntmps9
  go_wp2_with fail
  rw [← HWS.out]
  refine Calls.mono HLD.out ?_
  rintro e w1 ⟨v1, rfl, hr1, hb1⟩
  have hs1 := hb1.size
  obtain ⟨aL, kL, rfl⟩ := Lies.slice hr1
  rw [← HLN.out] at hr1 ⊢
  have HF : Hid (_) := flowOf_any L aL kL n w1.heap.size w1 (Nat.le_refl _) HLN.out hr1 hsz
  have HB1 : Hid (_) := hb1
  clear hr1 hb1 HLD
  go_wp2_with fail
  refine Calls.mono HF.out ?_
  rintro e w2 ⟨a9, k9, gx, a14, k14, gu, g4, g5, g6, m, o, u, rfl, hm, ho, hu, hou, ho0, hb2⟩
  have hs2 := hb2.size
  have HB2 : Hid (_) := hb2
  have HO : Hid (Nums w2.heap.size w2 (.slice a14 m k14) (natsL o)) := ho
  have HU : Hid (_) := hu
  have HOU : Hid (_) := hou
  have HO0 : Hid (_) := ho0
  subst hm
  obtain ⟨fo, hfo⟩ : ∃ fo, fo = Obj.cells #[.slice a9 n k9, .slice (some ⟨gx, 0, none⟩) n n, .slice a14 o.length k14, .slice (some ⟨gu, 0, none⟩) n n, .slice (some ⟨g4, 0, none⟩) o.length o.length, .slice (some ⟨g5, 0, none⟩) n n, .slice (some ⟨g6, 0, none⟩) n n] 44 := ⟨_, rfl⟩
  obtain ⟨w3, hw3⟩ : ∃ w3, w3 = w2.alloc fo := ⟨_, rfl⟩
  have hb3 : Below w2.heap.size w2 w3 := by rw [hw3]; exact below_alloc _ _
  have hs3 : w3.heap.size = w2.heap.size + 1 := by rw [hw3]; simp
  have HC2 : Hid (w3.heap[w.heap.size]? = _) := (hb3.block _ (by omega)).trans ((HB2.out.block _ (by omega)).trans ((HB1.out.block _ (by omega)).trans HC1.out))
  have HC3 : Hid (w3.heap[w2.heap.size]? = some (.cells #[.slice a9 n k9, .slice (some ⟨gx, 0, none⟩) n n, .slice a14 o.length k14, .slice (some ⟨gu, 0, none⟩) n n, .slice (some ⟨g4, 0, none⟩) o.length o.length, .slice (some ⟨g5, 0, none⟩) n n, .slice (some ⟨g6, 0, none⟩) n n] 44)) := by rw [hw3, hfo]; exact heap_alloc_new w2 _
  have p1 := cells6 HC2.out
  have p2 := cells7 HC3.out
  have HB3 : Hid (_) := hb3
  have HW3 : Hid (_) := hw3
  rw [hw3, hfo] at p1 p2
  rw [hfo] at HW3
  clear HF ho hu hou ho0 hb2 hb3 hw3 hfo HC1
  obtain ⟨i0, hi0, hz0, hz1, hzb⟩ := infoParts infoInts
  go_wp2_with (at_make; rw [← HW3.out]; refine wpList_make_full _ rfl _ _ _ rfl w3.heap.size 31 i0 _ 1 Try.underlying25 hi0 hz0 hz1 .i64 .i64 _ _ n (by rfl) (by rfl) rfl rfl (by rw [hzb]; omega) (by unfold maxLen; omega) (Nat.le_refl _) ?_)
  intro w4 hown hgrow
  have hex : ∃ gB vs, gB = w2.heap.size + 1 ∧ Grid w4 w3.heap.size n (.slice (some ⟨gB, 0, none⟩) n n) vs (abF u n (o.take 0)) ∧ Below w3.heap.size w3 w4 := by
    have h1 : (madeCells #[Value.slice none 0 0] n).toList = (madeCells (Value.slice none 0 0).cells (n * 1)).toList := by rw [Nat.mul_one]; rfl
    rw [h1] at hown
    have h2 := Grid.made hown
    refine ⟨_, List.replicate n (.slice none 0 0), rfl, ?_, (Below.refl _ _).grown hgrow (Nat.le_refl _) (fun k hk => by cases hk)⟩
    rw [hs3]
    exact h2.congr fun i _ => by simp [abF]
  obtain ⟨gB, vs0, e1, hG0, hb4⟩ := hex
  have HG0 : Hid (_) := hG0
  have HB4 : Hid (_) := hb4
  have q2 := cells7 ((hb4.block _ (by omega)).trans HC3.out)
  rw [← e1]
  clear hown hgrow e1 hG0 p1 p2 hi0 hz0 hz1 hzb hb4
  obtain ⟨m, hm⟩ : ∃ m, m = o.length := ⟨_, rfl⟩
  have HM : Hid (m = o.length) := hm
  rw [← hm] at q2 ⊢
  clear hm
  go_wp2_with fail
  go_loopg [21] m (fun g s21 wr => ∃ (b : Nat) (vs : List Value), s21 = .int .i64 (b : Nat) ∧ b + g = m ∧ Hid (Grid wr w3.heap.size n (.slice (some ⟨gB, 0, none⟩) n n) vs (abF u n (o.take b))) ∧ Hid (Below w3.heap.size w3 wr))
  case atStart => exact ⟨0, vs0, rfl, by omega, HG0, HB4⟩
  case round =>
    obtain ⟨b, vs, rfl, hb', HG, HBr⟩ := hrel
    cases gk with
    | zero =>
      have hlt : ¬ (b : Int) < (m : Int) := by omega
      go_wp2_with fail
      go_ret
      have e : o.take b = o := List.take_of_length_le (by have := HM.out; omega)
      have HG1 := HG.out
      rw [e] at HG1
      exact ⟨_, rfl, _, o, u, HG1.base (by have := HW.out.size; omega), HOU.out, HO0.out, HW.out.trans ((HB1.out.mono (by omega)).trans ((HB2.out.mono (by omega)).trans ((HB3.out.mono (by omega)).trans (HBr.out.mono (by omega)))))⟩
    | succ g =>
      have hlt : (b : Int) < (m : Int) := by omega
      have hbm : b < o.length := by have := HM.out; omega
      obtain ⟨x, hx⟩ : ∃ x, o[b]? = some x := ⟨_, List.getElem?_eq_getElem hbm⟩
      have HX : Hid (o[b]? = some x) := hx
      have HBG : Hid (b + (g + 1) = m) := hb'
      have hmn : m ≤ 1048576 := by
        rcases Nat.eq_zero_or_pos n with h0 | h0
        · rw [HO0.out h0] at hbm; exact absurd hbm (by simp)
        · have h1 := (HOU.out h0).1
          have h2 : o.length ≤ (List.range n).length := List.Nodup.length_le_of_subset h1.nodup (fun x hx => List.mem_range.2 (by rw [HLN.out]; exact h1.lt x hx))
          rw [List.length_range] at h2
          have := HM.out; omega
      have hbr2 : Below w2.heap.size w2 wr := HB3.out.trans (HBr.out.mono (by omega))
      obtain ⟨go, oo, rfl, _, hoo⟩ := nums_at (Nums.below HO.out hbr2) (by omega)
      have q3 := hoo b x hx
      clear hoo hx
      have hOx : Ordered L o ∧ UpOf L o u := HOU.out (by
        rcases Nat.eq_zero_or_pos n with h0 | h0
        · rw [HO0.out h0] at hbm; exact absurd hbm (by simp)
        · exact h0)
      have hxn : x < n := by rw [HLN.out]; exact hOx.1.lt x (List.mem_of_getElem? HX.out)
      have HXN : Hid (x < n) := hxn
      have hrow : ∃ (lv : Value) (P : Nat → Bool), wr.ownsRow 0 3 1 lv (natsL ((List.range n).filter P)).length (numsL (natsL ((List.range n).filter P))) ∧ P x = false ∧ (∀ k, Ch u k x ↔ P k = true ∨ k = x) ∧
          ((b = 0 ∧ lv = .slice none 0 0) ∨ (0 < b ∧ ∃ c : Nat, c < n ∧ upI u x = (c : Int) ∧ wr.cell? ⟨gB, c, none⟩ = some lv ∧ wr.frozen? ⟨gB, c, none⟩ = false)) := by
        rcases Nat.eq_zero_or_pos b with hb0 | hb0
        · subst hb0
          have hx0 : x = 0 := by
            have h1 := hOx.1.head
            rw [List.head?_eq_getElem?, HX.out] at h1
            exact Option.some.inj h1
          refine ⟨.slice none 0 0, fun _ => false, ?_, rfl, fun k => ?_, .inl ⟨rfl, rfl⟩⟩
          · have e : (List.range n).filter (fun _ => false) = [] := List.filter_eq_nil_iff.2 (fun _ _ h => by cases h)
            rw [e]
            exact World.ownsRow_nil _ _ _ _
          · rw [hx0, ch_top hOx.2.st.zero]; simp
        · have hxm : x ∈ o := List.mem_of_getElem? HX.out
          have hix : o.idxOf x = b := by
            have h1 := List.getElem?_eq_some_iff.1 HX.out
            obtain ⟨h2, h3⟩ := h1
            rw [← h3]
            exact hOx.1.nodup.idxOf_getElem _ _
          have hx0 : x ≠ 0 := by
            intro e
            have h1 := hOx.1.head
            rw [List.head?_eq_getElem?] at h1
            obtain ⟨h2, h3⟩ := List.getElem?_eq_some_iff.1 h1
            have h4 : o.idxOf o[0] = 0 := hOx.1.nodup.idxOf_getElem _ _
            rw [h3, ← e, hix] at h4; omega
          obtain ⟨c, hc⟩ : ∃ c, u x = some c := ⟨_, hOx.2.tree2 hOx.1 hxm hx0⟩
          have hup := hOx.2.st.up x c hc
          have hcm : c ∈ o := (hOx.1.mem c).2 hup.2.1
          have hci : o.idxOf c < b := by have h1 := hup.2.2.2; rw [← hix]; exact h1
          have hct : c ∈ o.take b := by
            have h1 := List.idxOf_lt_length_of_mem hcm
            have h2 : o[o.idxOf c] = c := List.getElem_idxOf h1
            rw [List.mem_take_iff_getElem]
            exact ⟨o.idxOf c, by omega, h2⟩
          have hcn : c < n := by rw [HLN.out]; exact hOx.1.lt c hcm
          obtain ⟨gB', _, uv, av, kv, he, _, _, hut, hus, hcell, hfz⟩ := HG.out.at hcn
          cases he
          have heach := HG.out.each c uv hcn hut
          have hab : abF u n (o.take b) c = natsL ((List.range n).filter fun k => decide (Ch u k c)) := by unfold abF; rw [if_pos hct]
          rw [hab] at heach
          refine ⟨uv, fun k => decide (Ch u k c), own_base' heach (Nat.zero_le _), ?_, fun k => ?_, .inr ⟨hb0, c, hcn, upI_some hc, hcell, hfz⟩⟩
          · rw [decide_eq_false_iff_not]
            intro h1
            have h2 := (hOx.2.st.rank h1).1
            have h3 := hup.2.2.2
            omega
          · rw [ch_up hc, decide_eq_true_iff]
            exact Or.comm
      obtain ⟨lv, P, hlv, hPx, hch, hcase⟩ := hrow
      have HLV : Hid (wr.ownsRow 0 3 1 lv (natsL ((List.range n).filter P)).length (numsL (natsL ((List.range n).filter P)))) := hlv
      have HPX : Hid (P x = false) := hPx
      have HCH : Hid (∀ k, Ch u k x ↔ P k = true ∨ k = x) := hch
      obtain ⟨l, hl⟩ : ∃ l, l = natsL ((List.range n).filter P) := ⟨_, rfl⟩
      have hll : l.length ≤ n := by rw [hl]; unfold natsL; rw [List.length_map]; exact Nat.le_trans (List.length_filter_le _ _) (by simp)
      have hsort : l.Pairwise (· ≤ ·) := by
        rw [hl]; unfold natsL
        refine List.Pairwise.map _ (fun a b h => ?_) (filter_sorted n P)
        exact_mod_cast h
      rw [← hl] at hlv
      have HL : Hid (l = _) := hl
      have HLO : Hid (wr.ownsRow 0 3 1 lv l.length (numsL l)) := hlv
      have HSO : Hid (_) := search_own 0 lv l (x : Int) wr hlv (by omega) hsort
      have HLL : Hid (l.length ≤ n) := hll
      have q4 := cells7 ((HBr.out.block _ (by have := HB3.out.size; omega)).trans HC3.out)
      have q5 := (HU.out.below hbr2 HU.out.lt.2).get hxn
      have HCL : Hid (∀ q, Calls Try.prog 20 #[lv] (wr.drewN q) fun e w' => ∃ v', e = .returned v' ∧ w'.ownsRow wr.heap.size 3 1 v' l.length (numsL l) ∧ Below wr.heap.size wr w') := by
        intro q
        have hbq : Below wr.heap.size wr (wr.drewN q) := below_drewN (Below.refl _ _) q
        have hsq : (wr.drewN q).heap.size = wr.heap.size := by simp
        refine Calls.mono (clone_own 0 lv l (wr.drewN q) (own_same hlv fun g hg => hbq.block g (own_lt hlv hg).2) (by omega)) ?_
        rintro e w' ⟨v', rfl, h1, h2⟩
        rw [hsq] at h1 h2
        exact ⟨v', rfl, h1, hbq.trans h2⟩
      obtain ⟨cn, hcn0⟩ : ∃ cn, cn = l.countP (fun y => decide (y < (x : Int))) := ⟨_, rfl⟩
      have HIN : Hid (∀ (w5 : World) (v5 : Value), w5.ownsRow wr.heap.size 3 1 v5 l.length (numsL l) → Below wr.heap.size wr w5 →
          Calls Try.prog 19 #[v5, .int .i64 (l.countP (fun y => decide (y < (x : Int))) : Nat), .slice (some ⟨w5.heap.size, 0, none⟩) 1 1] (w5.alloc (.cells #[.int .i64 (x : Int)] 3)) fun e w' => ∃ a6 n6 k6, e = .returned (.slice a6 n6 k6) ∧
            Grid (w'.setCell ⟨gB, x, none⟩ (.slice a6 n6 k6)) w3.heap.size n (.slice (some ⟨gB, 0, none⟩) n n) (vs.set x (.slice a6 n6 k6)) (abF u n (o.take (b + 1))) ∧ Below w3.heap.size w3 (w'.setCell ⟨gB, x, none⟩ (.slice a6 n6 k6)) ∧
            (∃ z, w'.cell? ⟨gB, x, none⟩ = some z) ∧ w'.frozen? ⟨gB, x, none⟩ = false) := by
        intro w5 v5 ho5 hb5
        rw [← hcn0]
        have hcl : cn ≤ l.length := by rw [hcn0]; exact List.countP_le_length
        have hba : Below wr.heap.size w5 (w5.alloc (.cells #[.int .i64 (x : Int)] 3)) := (below_alloc _ _).mono hb5.size
        have ho5' : (w5.alloc (.cells #[.int .i64 (x : Int)] 3)).ownsRow wr.heap.size 3 1 v5 l.length (numsL l) := ho5.alloc _
        refine Calls.mono (ins_own wr.heap.size cn w5.heap.size v5 l (x : Int) _ (Nat.le_trans hb5.size (by simp)) ho5' hcl (heap_alloc_new _ _) (fun e => by have := (own_lt ho5 e).2; omega) (by omega)) ?_
        rintro e w6 ⟨v6, rfl, ho6, hb6⟩
        obtain ⟨a6, k6, rfl⟩ := own_slice ho6
        have hb7 : Below wr.heap.size wr w6 := hb5.trans (hba.trans hb6)
        have hwr : w3.heap.size ≤ wr.heap.size := HBr.out.size
        obtain ⟨gB', _, _, _, _, he, _, hgl, _, _, hcell, hfz⟩ := HG.out.at hxn
        cases he
        have hln : (l.take cn ++ (x : Int) :: l.drop cn).length = l.length + 1 := insL_len _ hcl
        have hput := HG.out.put (u' := .slice a6 (l.length + 1) k6) (x := l.take cn ++ (x : Int) :: l.drop cn) hxn hb7 (fun k hk => (own_lt ho6 hk).1) (by rw [hln]; exact own_base' ho6 hwr)
        refine ⟨_, _, _, rfl, ?_, HBr.out.trans (hput.2 w3.heap.size (Nat.le_refl _) hwr), ⟨_, (World.cell?_of_block (a := ⟨gB, x, none⟩) (hb7.block gB hgl)).trans hcell⟩, (World.frozen?_of_block (a := ⟨gB, x, none⟩) (hb7.block gB hgl)).trans hfz⟩
        refine hput.1.congr fun j hj => ?_
        have h9 := abF_put HX.out hxn hOx.1.nodup hPx hch j hj
        rw [← hl, ← hcn0] at h9
        exact h9
      clear hl hlv hPx hch hsort hll hxn hOx hbr2 hcn0
      rcases hcase with ⟨hb0, rfl⟩ | ⟨hb0, c, hcn, huc, hcell, hfz⟩
      · subst hb0
        simp only [Nat.add_zero] at q3
        have hlt0 : ¬ (0 : Int) < (((0 : Nat) : Nat) : Int) := by omega
        go_wp2_with fail
        refine Calls.mono HSO.out ?_
        rintro e ws ⟨rfl, q, rfl⟩
        go_wp2_with fail
        refine Calls.mono (HCL.out q) ?_
        rintro e w5 ⟨v5, rfl, ho5, hb5⟩
        have hs5 := hb5.size
        have HB5 : Hid (Below wr.heap.size wr w5) := hb5
        obtain ⟨a5, k5, rfl⟩ := own_slice ho5
        have HO5 : Hid (_) := ho5
        clear ho5 hb5
        go_wp2_with fail
        refine Calls.mono (HIN.out w5 _ HO5.out HB5.out) ?_
        rintro e w6 ⟨a6, n6, k6, rfl, hg6, hb6, ⟨z, hz6⟩, hf6⟩
        have HG6 : Hid (_) := hg6
        have HB6 : Hid (_) := hb6
        clear hg6 hb6
        go_wp2_with fail
        go_roundg g
        case measure => omega
        case rel => exact ⟨0 + 1, _, by go_num, by omega, HG6, HB6⟩
      · have hlt0 : (0 : Int) < (b : Int) := by omega
        rw [huc] at q5
        go_wp2_with fail
        refine Calls.mono HSO.out ?_
        rintro e ws ⟨rfl, q, rfl⟩
        go_wp2_with fail
        refine Calls.mono (HCL.out q) ?_
        rintro e w5 ⟨v5, rfl, ho5, hb5⟩
        have hs5 := hb5.size
        have HB5 : Hid (Below wr.heap.size wr w5) := hb5
        obtain ⟨a5, k5, rfl⟩ := own_slice ho5
        have HO5 : Hid (_) := ho5
        clear ho5 hb5
        go_wp2_with fail
        refine Calls.mono (HIN.out w5 _ HO5.out HB5.out) ?_
        rintro e w6 ⟨a6, n6, k6, rfl, hg6, hb6, ⟨z, hz6⟩, hf6⟩
        have HG6 : Hid (_) := hg6
        have HB6 : Hid (_) := hb6
        clear hg6 hb6
        go_wp2_with fail
        go_roundg g
        case measure => omega
        case rel => exact ⟨b + 1, _, by go_num, by have := HBG.out; omega, HG6, HB6⟩

end Go.Proofs.Ytjdedfgdofceeaa
