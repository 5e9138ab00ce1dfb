/-
  Package ssa: the look for an order (orderOf): its walk.
-/
import Derived.Test.YtjdedfgdofceeaaSbI
namespace Go.Proofs.Ytjdedfgdofceeaa
open Go.RowKit
set_option linter.unusedSimpArgs false
set_option linter.unusedVariables false

def natsL (l : List Nat) : List Int := l.map fun i => ((i : Nat) : Int)

set_option maxHeartbeats 600000 in
set_option maxRecDepth 20000 in
theorem orderOf_any (L : List (List Int)) (v : Value) (B : Nat) (w : World) (hB : B ≤ w.heap.size) (hb : Rws B w v L) (hsz : L.length * 24 ≤ 140737488351232)
    (hrev : ∀ (base : Nat) (u : Value) (l : List Int) (W : World), W.ownsRow base 3 1 u l.length (numsL l) → Calls Try.prog 34 #[u] W fun e w' => e = .returned (.tuple #[]) ∧ w'.ownsRow base 3 1 u l.length (numsL l.reverse) ∧ Below base W w') :
    Calls Try.prog 25 #[v] w fun e w' => ∃ u o, e = .returned u ∧ w'.ownsRow w.heap.size 3 1 u o.length (numsL (natsL o)) ∧ (0 < L.length → Ordered L o) ∧ (L.length = 0 → o = []) ∧ Below w.heap.size w w' := by
  obtain ⟨a3, k3, rfl⟩ := Lies.slice hb
  have HBK : Hid (Rws B w (.slice a3 L.length k3) L) := hb
  obtain ⟨n, hn⟩ : ∃ n, n = L.length := ⟨_, rfl⟩
  rw [← hn] at hsz HBK ⊢
  have HN : Hid (n = L.length) := hn
  have HREV : Hid (_) := hrev
  obtain ⟨i0, hi0, hz0, hz1, hzb⟩ := infoParts infoBool
  obtain ⟨i1, hi1, hy0, hy1, hyb⟩ := infoParts infoInt
  obtain ⟨S, hS⟩ : ∃ S, S = w.heap.size := ⟨_, rfl⟩
  obtain ⟨W1, hW1⟩ : ∃ W1, W1 = w.alloc (.cells #[.slice a3 n k3] 25) := ⟨_, rfl⟩
  obtain ⟨W2, hW2⟩ : ∃ W2, W2 = W1.alloc (.cells #[.slice none 0 0] 31) := ⟨_, rfl⟩
  have hs1 : W1.heap.size = S + 1 := by rw [hW1, hS]; simp
  have hs2 : W2.heap.size = S + 2 := by rw [hW2]; simp [hs1]
  have hb1 : Below w.heap.size w W1 := by rw [hW1]; exact below_alloc _ _
  have hb2 : Below W1.heap.size W1 W2 := by rw [hW2]; exact below_alloc _ _
  have HBW2 : Hid (Below S w W2) := by rw [hS]; exact hb1.trans (hb2.mono hb1.size)
  have HL2 : Hid (W2.heap[S]? = some (.cells #[.slice a3 n k3] 25)) := (hb2.block S (by omega)).trans (by rw [hW1, hS]; exact heap_alloc_new w _)
  have HW2 : Hid (W2.heap[S + 1]? = some (.cells #[.slice none 0 0] 31)) := by rw [hW2, ← hs1]; exact heap_alloc_new W1 _
  have HWE : Hid (W2 = (w.alloc (.cells #[.slice a3 n k3] 25)).alloc (.cells #[.slice none 0 0] 31)) := by unfold Hid; rw [hW2, hW1]
  have HSE : Hid (S = w.heap.size) := hS
  clear hb hn hrev hW1 hW2 hb1 hb2
  rw [← hS]
  go_enter Try.func25, Try.ntmps25
  go_wp2_with (at_make; rw [← HWE.out]; refine wpList_make_full _ rfl _ _ _ rfl W2.heap.size 4 i0 _ 1 Try.underlying50 hi0 hz0 hz1 .i64 .i64 _ _ n (by rfl) (by rfl) rfl rfl (by rw [hzb]; omega) (by unfold maxLen; omega) (Nat.le_refl _) ?_)
  intro w0 hown hgrow
  obtain ⟨M, hM⟩ : ∃ M, M = w0.heap.size := ⟨_, rfl⟩
  have hM2 : S + 2 < M := by have := (own_lt hown (g := w.heap.size + 2) rfl).2; omega
  have hb0 : Below W2.heap.size W2 w0 := (Below.refl _ _).grown hgrow (Nat.le_refl _) (fun k hk => by cases hk)
  obtain ⟨W3, hW3⟩ : ∃ W3, W3 = w0.alloc (.cells #[.slice (some ⟨S + 2, 0, none⟩) n n] 50) := ⟨_, rfl⟩
  have hs3 : W3.heap.size = M + 1 := by rw [hW3, hM]; simp
  have hb3 : Below w0.heap.size w0 W3 := by rw [hW3]; exact below_alloc _ _
  have h1 : (madeCells #[Value.bool false] n).toList = List.replicate n (.bool false) := toList_madeCells_one _ _
  rw [h1, ← bools_none, ← HSE.out] at hown
  have HOM : Hid (W3.ownsRow (S + 2) 4 1 (.slice (some ⟨S + 2, 0, none⟩) n n) n (bools n (fun _ => false))) := own_same hown fun g hg => hb3.block g (own_lt hown hg).2
  have HBW3 : Hid (Below S w W3) := HBW2.out.trans ((hb0.mono (by omega)).trans (hb3.mono (by omega)))
  have HL3 : Hid (W3.heap[S]? = some (.cells #[.slice a3 n k3] 25)) := (hb3.block S (by omega)).trans ((hb0.block S (by omega)).trans HL2.out)
  have HW3 : Hid (W3.heap[S + 1]? = some (.cells #[.slice none 0 0] 31)) := (hb3.block _ (by omega)).trans ((hb0.block _ (by omega)).trans HW2.out)
  have HM3 : Hid (W3.heap[M]? = some (.cells #[.slice (some ⟨S + 2, 0, none⟩) n n] 50)) := by rw [hW3, hM]; exact heap_alloc_new w0 _
  have HWE3 : Hid (W3 = w0.alloc (.cells #[.slice (some ⟨w.heap.size + 2, 0, none⟩) n n] 50)) := by unfold Hid; rw [hW3, HSE.out]
  have p3 := cellOne HL3.out
  rw [HSE.out, HWE3.out] at p3
  have HMM : Hid (M = w0.heap.size) := hM
  clear hW3 hb0 hb3 hown hgrow HW2 HL2 HWE HBW2 h1 hM
  go_wp2_with (at_make; rw [← HWE3.out]; refine wpList_make_full _ rfl _ _ _ rfl W3.heap.size 3 i1 _ 1 Try.underlying31 hi1 hy0 hy1 .i64 .i64 _ _ n (by rfl) (by rfl) rfl rfl (by rw [hyb]; omega) (by unfold maxLen; omega) (Nat.le_refl _) ?_)
  intro w4 hown hgrow
  have hs3' : W3.heap.size = w0.heap.size + 1 := by rw [hs3, HMM.out]
  have HD0 : Hid (OD w4 n S M (.slice a3 n k3) (.slice none 0 0) (.slice none 0 0) [] [] (lkL n (fun _ => 0)) (fun _ => false) ∧ Below S w w4) := by
    have hb4 : Below W3.heap.size W3 w4 := (Below.refl _ _).grown hgrow (Nat.le_refl _) (fun k hk => by cases hk)
    have h1 : (madeCells #[Value.int .i64 0] n).toList = List.replicate n (.int .i64 0) := toList_madeCells_one _ _
    rw [h1, ← lkL_zero] at hown
    have hlt := (own_lt hown (g := M + 1) rfl).2
    refine ⟨⟨(hb4.block _ (by omega)).trans HL3.out, (hb4.block _ (by omega)).trans HW3.out, (hb4.block _ (by omega)).trans HM3.out, own_same HOM.out fun g hg => hb4.block g (own_lt HOM.out hg).2, hown, World.ownsRow_nil _ _ _ _, World.ownsRow_nil _ _ _ _, fun g hg => (by cases hg), by omega, by omega⟩, HBW3.out.trans (hb4.mono (by omega))⟩
  clear hown hgrow HBW3 HL3 HW3 HM3 HOM HWE3 p3 hs3' hs3
  rw [← HSE.out, ← HMM.out]
  clear hS
  have hcome : ∃ ws0 met0 looked0, Hid (Calls Try.prog 33 #[.int .i64 0, .pointer (some ⟨S, 0, none⟩), .pointer (some ⟨M, 0, none⟩), .pointer (some ⟨S + 1, 0, none⟩)] w4 fun e w' =>
      ∃ vw', e = .returned (.tuple #[]) ∧ OD w' n S M (.slice a3 n k3) vw' (.slice none 0 0) (natsL ws0) [] (lkL n looked0) met0 ∧ Below S w w') ∧ Hid ((0 < n → Dfs L [] ws0 met0 looked0) ∧ (n = 0 → ws0 = []) ∧ (∀ b, b < n → looked0 b ≤ (L.getD b []).length) ∧ ws0.length + unseen n met0 = n ∧ 2 * leftL L n looked0 + ws0.length ≤ 2 * leftL L n (fun _ => 0) + 1) := by
    by_cases hn0 : n = 0
    · refine ⟨[], fun _ => false, fun _ => 0, ?_, ⟨fun h => by omega, fun _ => rfl, fun b _ => Nat.zero_le _, ?_, by simp⟩⟩
      · refine (come_old n S M 0 a3 k3 _ _ _ _ _ _ w4 HD0.out.1 (fun h => by omega)).mono ?_
        rintro e w' ⟨rfl, rfl⟩
        exact ⟨_, rfl, HD0.out.1, HD0.out.2⟩
      · subst hn0; rfl
    · have hu : unseen n (metAt (fun _ => false) 0) + 1 = n := by
        have h1 : ∀ m, unseen m (fun _ => false) = m := fun m => by
          induction m with
          | zero => rfl
          | succ m ih => unfold unseen; rw [ih]; rfl
        have := unseen_met (y := 0) (fun _ => false) rfl n (by omega)
        rw [h1] at this; exact this
      refine ⟨[0], metAt (fun _ => false) 0, fun _ => 0, ?_, ⟨fun h => ?_, fun h => by omega, fun b _ => Nat.zero_le _, by simp; omega, by simp⟩⟩
      · have hSb : S ≤ w4.heap.size := by have := HD0.out.1.sz; have := HD0.out.1.lt; omega
        refine (come_new n S M 0 a3 k3 _ _ _ _ _ _ w4 (by unfold maxLen; omega) hSb HD0.out.1 (by omega) rfl (by simp) (by simp)).mono ?_
        rintro e w' ⟨vw', rfl, h1, h2⟩
        exact ⟨vw', rfl, h1, HD0.out.2.trans h2⟩
      · have e : metAt (fun _ => false) 0 = fun x => x == 0 := by funext x; unfold metAt; by_cases hx : x = 0 <;> simp [hx]
        rw [e]
        exact Dfs.start (by rw [← HN.out]; exact h)
  obtain ⟨ws0, met0, looked0, HC, HM0⟩ := hcome
  go_wp2_with fail
  refine HC.out.mono ?_
  rintro e w5 ⟨vw0, rfl, hd5, hb5⟩
  have HD5 : Hid (_) := hd5
  have HB5 : Hid (_) := hb5
  clear hd5 hb5 HC HD0
  go_wp2_with fail
  go_loopg [3] (2 * leftL L n (fun _ => 0) + 1) (fun g s3 wr => ∃ (vo vw : Value) (ord ws : List Nat) (met : Nat → Bool) (looked : Nat → Nat), s3 = vo ∧ 2 * leftL L n looked + ws.length ≤ g ∧ Hid (OD wr n S M (.slice a3 n k3) vw vo (natsL ws) (natsL ord) (lkL n looked) met) ∧ Hid (Below S w wr) ∧ Hid (0 < n → Dfs L ord ws met looked) ∧ Hid (n = 0 → ws = [] ∧ ord = []) ∧ Hid (∀ b, b < n → looked b ≤ (L.getD b []).length) ∧ ord.length + ws.length + unseen n met = n)
  case atStart => exact ⟨_, vw0, [], ws0, met0, looked0, rfl, HM0.out.2.2.2.2, HD5, HB5, HM0.out.1, fun h => ⟨HM0.out.2.1 h, rfl⟩, HM0.out.2.2.1, by have := HM0.out.2.2.2.1; simpa using this⟩
  case round =>
    clear HD5 HB5 HM0 vw0 ws0 met0 looked0
    obtain ⟨vo, vw, ord, ws, met, looked, rfl, hg, HD, HB, HF, HZ, HLK, hcnt⟩ := hrel
    have pL := cellOne HD.out.bL
    have pW := cellOne HD.out.bW
    have pW2 := thawOne HD.out.bW
    rcases List.eq_nil_or_concat ws with rfl | ⟨ws', b, rfl⟩
    · obtain ⟨aw, cw, hvw⟩ := own_slice HD.out.rW
      subst hvw
      have hz : ¬ ((0 : Int) > 0) := by omega
      have HRO : Hid (wr.ownsRow (M + 2) 3 1 u3 (natsL ord).length (numsL (natsL ord))) := HD.out.rO
      have HLT : Hid (S + 2 < M) := HD.out.lt
      go_wp2_with fail
      refine (HREV.out (M + 2) u3 (natsL ord) wr HRO.out).mono ?_
      rintro e w6 ⟨rfl, ho6, hb6⟩
      have HO6 : Hid (_) := ho6
      have HB6 : Hid (_) := hb6
      clear ho6 hb6 pL pW pW2
      go_wp2_with fail
      go_ret
      refine ⟨_, ord.reverse, rfl, ?_, fun h => ?_, fun h => ?_, HB.out.trans (HB6.out.mono (by have := HLT.out; omega))⟩
      · have e : natsL ord.reverse = (natsL ord).reverse := by unfold natsL; rw [List.map_reverse]
        rw [e, List.length_reverse]
        have e2 : (natsL ord).length = ord.length := by simp [natsL]
        have h6 := HO6.out
        rw [e2] at h6
        exact own_base' h6 (by have := HLT.out; omega)
      · exact (HF.out h).end
      · rw [(HZ.out h).2]; rfl
    · rw [List.concat_eq_append] at HD HF HZ hcnt hg
      have hlen : (ws' ++ [b]).length = ws'.length + 1 := by simp
      have hn0 : 0 < n := by rw [hlen] at hcnt; omega
      have HDF : Hid (Dfs L ord (ws' ++ [b]) met looked) := HF.out hn0
      have hbn : b < n := by rw [HN.out]; exact (HDF.out.ok b (.inr (by simp))).1
      have HD2 : Hid (OD wr n S M (.slice a3 n k3) vw u3 (natsL ws' ++ [((b : Nat) : Int)]) (natsL ord) (lkL n looked) met) := by
        have e : natsL (ws' ++ [b]) = natsL ws' ++ [((b : Nat) : Int)] := by simp [natsL]
        unfold Hid; rw [← e]; exact HD.out
      obtain ⟨gw, cw, hvw, hgw, r1⟩ := HD2.out.top
      have hml : (natsL ws').length = ws'.length := by simp [natsL]
      rw [hml] at hvw r1
      obtain ⟨m, hm⟩ : ∃ m, m = ws'.length := ⟨_, rfl⟩
      rw [← hm] at hvw r1
      subst hvw
      have HML : Hid (m = (natsL ws').length) := by unfold Hid; rw [hml, hm]
      have HM : Hid (m = ws'.length) := hm
      have hmb : m < n := by rw [hlen] at hcnt; omega
      have HCNT : Hid (ord.length + (m + 1) + unseen n met = n) := by rw [hlen, ← hm] at hcnt; exact hcnt
      have hg' : 2 * leftL L n looked + (m + 1) ≤ gk := by rw [hlen, ← hm] at hg; exact hg
      obtain ⟨r3, r4⟩ := HD2.out.look? hbn
      have hget : L[b]? = some L[b] := List.getElem?_eq_getElem (by have := HN.out; omega)
      generalize L[b] = l at hget
      have HGD : Hid (L.getD b [] = l) := by unfold Hid; rw [List.getD_eq_getElem?_getD, hget]; rfl
      have hlk := HLK.out b hbn
      rw [HGD.out] at hlk
      obtain ⟨gL, oL, cs, rfl, hgL, _, ⟨ul, rfl, hul⟩, hcl⟩ := Lies.at HBK.out hget
      obtain ⟨al, kl, rfl⟩ := Lies.slice hul
      have HBw : Hid (Below B w wr) := HB.out.mono (by rw [HSE.out]; exact hB)
      have q0 := (HBw.out.cell (p := ⟨gL, oL + b * 1 + 0, none⟩) (by show gL < _; omega)).trans (hcl 0 (by decide))
      have hq0 := hcl 0 (by decide)
      simp at q0
      have hll := hul.len
      unfold maxLen at hll
      have HUL : Hid (Nums B wr (.slice al l.length kl) l) := hul.below HBw.out
      have hm1 : ((m : Int) + 1 > 0) := by omega
      have hm2 : ((m : Int) + 1 - 1) = (m : Int) := by omega
      obtain ⟨ao, co, hu3⟩ := own_slice HD2.out.rO
      subst hu3
      have hol : (natsL ord).length + 1 ≤ n := by have := HCNT.out; simp [natsL]; omega
      have hcw : m + 1 ≤ cw := by
        have h1 := HD2.out.rW
        have e : (natsL ws' ++ [((b : Nat) : Int)]).length = m + 1 := by rw [List.length_append, List.length_singleton, HML.out]
        rw [e] at h1
        exact (own_cap h1).1
      clear hcl hget hul HD HF hml hlen hm hcnt hg
      rcases Nat.lt_or_ge (looked b) l.length with hlt | hge
      · have hltI : ((looked b : Nat) : Int) < (l.length : Int) := by omega
        go_wp2_with fail
        go_quiet (fail)
        have HD3 : Hid (OD (wr.drewN nq) n S M (.slice (some ⟨gL, oL, none⟩) n k3) (.slice (some ⟨gw, 0, none⟩) (m + 1) cw) (.slice ao (natsL ord).length co) (natsL ws' ++ [((b : Nat) : Int)]) (natsL ord) (lkL n looked) met) := HD2.out.keep (below_drewN (Below.refl _ _) nq)
        have HB3 : Hid (Below S w (wr.drewN nq)) := below_drewN HB.out nq
        obtain ⟨W9, hW9⟩ : ∃ W9, W9 = (wr.drewN nq).setCell ⟨M + 1, b, none⟩ (.int .i64 (((looked b : Nat) : Int) + 1)) := ⟨_, rfl⟩
        have HD9 : Hid (OD W9 n S M (.slice (some ⟨gL, oL, none⟩) n k3) (.slice (some ⟨gw, 0, none⟩) (m + 1) cw) (.slice ao (natsL ord).length co) (natsL ws' ++ [((b : Nat) : Int)]) (natsL ord) (lkL n (lookAt looked b)) met) := by
          unfold Hid; rw [hW9]; exact HD3.out.looked hbn
        have hb9 : Below S (wr.drewN nq) W9 := by
          have hlt0 := HD3.out.lt
          rw [hW9]; exact ⟨rfl, rfl, rfl, by simp [World.setCell], fun k hk => Below.heap_setCell _ _ _ _ (by show k ≠ M + 1; omega)⟩
        have HB9 : Hid (Below S w W9) := HB3.out.trans hb9
        have s0 : W9.cell? ⟨gL, oL + b, none⟩ = some (.slice al l.length kl) := by
          have := (HB9.out.cell (p := ⟨gL, oL + b * 1 + 0, none⟩) (by show gL < _; have := HSE.out; omega)).trans hq0
          simpa using this
        have s1 := cellOne HD9.out.bL
        obtain ⟨s2, _⟩ := HD9.out.look? hbn
        have hl9 : lookAt looked b b = looked b + 1 := by unfold lookAt; rw [if_pos rfl]
        rw [hl9] at s2
        have hgy : l[looked b]? = some l[looked b] := List.getElem?_eq_getElem hlt
        generalize l[looked b] = y at hgy
        obtain ⟨g5, o5, cs5, he5, hg5, _, ⟨rfl, _⟩, hcl5⟩ := Lies.at HUL.out hgy
        subst he5
        have s3 : W9.cell? ⟨g5, o5 + looked b, none⟩ = some (.int .i64 y) := by
          have h0 := hcl5 0 (by decide)
          have h1 : W9.cell? ⟨g5, o5 + looked b * 1 + 0, none⟩ = wr.cell? ⟨g5, o5 + looked b * 1 + 0, none⟩ := by
            have h2 := (below_drewN (Below.refl S wr) nq).trans hb9
            exact h2.cell (p := ⟨g5, o5 + looked b * 1 + 0, none⟩) (by show g5 < _; have := HSE.out; omega)
          rw [h0] at h1
          simpa using h1
        have hsub : ((looked b : Nat) : Int) + 1 - 1 = ((looked b : Nat) : Int) := by omega
        have hcast : (((looked b + 1 : Nat)) : Int) = ((looked b : Nat) : Int) + 1 := by omega
        rw [hcast] at s2
        have HGY : Hid ((L.getD b [])[looked b]? = some y) := by unfold Hid; rw [HGD.out]; exact hgy
        have HLE2 : Hid (∀ x, x < n → lookAt looked b x ≤ (L.getD x []).length) := by
          intro x hx
          unfold lookAt
          by_cases hxb : x = b
          · rw [if_pos hxb, hxb, HGD.out]; omega
          · rw [if_neg hxb]; exact HLK.out x hx
        have hleft := leftL_look (L := L) looked (b := b) (by rw [HGD.out]; exact hlt) n hbn
        have HSW : Hid (S ≤ W9.heap.size) := by have := HD9.out.sz; have := HD9.out.lt; unfold Hid; omega
        clear hb9 HB3 HD3 hcl5 hgy hl9 hcast hsub
        go_wp2_with fail
        rw [← hW9]
        clear hW9
        have hwr1 : IntKind.i64.wrap ((looked b : Nat) : Int) = ((looked b : Nat) : Int) := by rw [IntKind.wrap_i64]; omega
        by_cases hnew : 0 ≤ y ∧ y < (n : Int) ∧ met y.toNat = false
        · obtain ⟨z, rfl⟩ : ∃ z : Nat, y = z := ⟨y.toNat, by omega⟩
          have hzn : z < n := by omega
          have hmz : met z = false := by simpa using hnew.2.2
          have HMZ : Hid (met z = false) := hmz
          have HCA : Hid (∀ k, Calls Try.prog 33 #[.int .i64 ((z : Nat) : Int), .pointer (some ⟨S, 0, none⟩), .pointer (some ⟨M, 0, none⟩), .pointer (some ⟨S + 1, 0, none⟩)] (W9.drewN k) fun e w' =>
              ∃ vw', e = .returned (.tuple #[]) ∧ OD w' n S M (.slice (some ⟨gL, oL, none⟩) n k3) vw' (.slice ao (natsL ord).length co) (natsL (ws' ++ [b, z])) (natsL ord) (lkL n (lookAt looked b)) (metAt met z) ∧ Below S w w') := by
            intro k
            have e : natsL (ws' ++ [b, z]) = natsL ws' ++ [((b : Nat) : Int)] ++ [((z : Nat) : Int)] := by simp [natsL]
            have hwl : (natsL ws' ++ [((b : Nat) : Int)]).length ≤ n := by rw [List.length_append, List.length_singleton, ← HML.out]; omega
            rw [e]
            refine (come_new n S M z _ k3 _ _ _ _ _ _ (W9.drewN k) (by unfold maxLen; omega) HSW.out (HD9.out.keep (below_drewN (Below.refl _ _) k)) hzn HMZ.out (by omega) (by omega)).mono ?_
            rintro e' w' ⟨vw', rfl, h1, h2⟩
            exact ⟨vw', rfl, h1, (below_drewN HB9.out k).trans h2⟩
          have HFP : Hid (Dfs L ord (ws' ++ [b, z]) (metAt met z) (lookAt looked b)) := HDF.out.push HGY.out (by rw [← HN.out]; exact hzn) HMZ.out
          have hu := unseen_met met HMZ.out n hzn
          go_region_with (go_at_call 33; refine (HCA.out _).mono ?_; rintro e w13 ⟨vw', rfl, h13, hb13⟩; have HD13 : Hid (_) := h13; have HB13 : Hid (_) := hb13; clear h13 hb13)
          all_goals
            (go_wp2_with fail
             go_roundg (gk - 1)
             case measure => omega
             case rel => exact ⟨_, vw', ord, ws' ++ [b, z], metAt met z, lookAt looked b, rfl, by (have := HM.out; simp; omega), HD13.out, HB13.out, fun _ => HFP.out, fun h => by omega, HLE2.out, by (have := HM.out; have := HCNT.out; simp; omega)⟩)
        · have HNEW : Hid (¬ (0 ≤ y ∧ y < (n : Int) ∧ met y.toNat = false)) := hnew
          have HCA : Hid (∀ k, Calls Try.prog 33 #[.int .i64 y, .pointer (some ⟨S, 0, none⟩), .pointer (some ⟨M, 0, none⟩), .pointer (some ⟨S + 1, 0, none⟩)] (W9.drewN k) fun e w' =>
              ∃ w0, e = .returned (.tuple #[]) ∧ w' = w0 ∧ OD w0 n S M (.slice (some ⟨gL, oL, none⟩) n k3) (.slice (some ⟨gw, 0, none⟩) (m + 1) cw) (.slice ao (natsL ord).length co) (natsL (ws' ++ [b])) (natsL ord) (lkL n (lookAt looked b)) met ∧ Below S w w0) := by
            intro k
            have e : natsL (ws' ++ [b]) = natsL ws' ++ [((b : Nat) : Int)] := by simp [natsL]
            rw [e]
            refine (come_old n S M y _ k3 _ _ _ _ _ _ (W9.drewN k) (HD9.out.keep (below_drewN (Below.refl _ _) k)) HNEW.out).mono ?_
            rintro e' w' ⟨rfl, h1⟩
            exact ⟨w', rfl, rfl, by rw [h1]; exact HD9.out.keep (below_drewN (Below.refl _ _) k), by rw [h1]; exact below_drewN HB9.out k⟩
          have HFP : Hid (Dfs L ord (ws' ++ [b]) met (lookAt looked b)) := HDF.out.pass HGY.out (by rw [← HN.out]; exact HNEW.out)
          go_region_with (go_at_call 33; refine (HCA.out _).mono ?_; rintro e w13 ⟨w14, rfl, rfl, h13, hb13⟩; have HD13 : Hid (_) := h13; have HB13 : Hid (_) := hb13; clear h13 hb13)
          all_goals
            (go_wp2_with fail
             go_roundg (gk - 1)
             case measure => omega
             case rel => exact ⟨_, _, ord, ws' ++ [b], met, lookAt looked b, rfl, by (have := HM.out; simp; omega), HD13.out, HB13.out, fun _ => HFP.out, fun h => by omega, HLE2.out, by (have := HM.out; have := HCNT.out; simp; omega)⟩)
      · have hltI : ¬ ((looked b : Nat) : Int) < (l.length : Int) := by omega
        go_wp2_with fail
        go_quiet (fail)
        have HD3 : Hid (OD (wr.drewN nq) n S M (.slice (some ⟨gL, oL, none⟩) n k3) (.slice (some ⟨gw, 0, none⟩) (m + 1) cw) (.slice ao (natsL ord).length co) (natsL ws' ++ [((b : Nat) : Int)]) (natsL ord) (lkL n looked) met) := HD2.out.keep (below_drewN (Below.refl _ _) nq)
        have HB3 : Hid (Below S w (wr.drewN nq)) := below_drewN HB.out nq
        obtain ⟨W10, hW10⟩ : ∃ W10, W10 = (wr.drewN nq).setCell ⟨S + 1, 0, none⟩ (.slice (some ⟨gw, 0, none⟩) m cw) := ⟨_, rfl⟩
        have HD10 : Hid (OD W10 n S M (.slice (some ⟨gL, oL, none⟩) n k3) (.slice (some ⟨gw, 0, none⟩) m cw) (.slice ao (natsL ord).length co) (natsL ws') (natsL ord) (lkL n looked) met) := by
          have h3 := HD3.out
          rw [HML.out] at h3
          have h4 := h3.pop
          rw [← HML.out, ← hW10] at h4
          exact h4
        have HB10 : Hid (Below S w W10) := HB3.out.trans (by rw [hW10]; exact ⟨rfl, rfl, rfl, by simp [World.setCell], fun k hk => Below.heap_setCell _ _ _ _ (by show k ≠ S + 1; have := HB3.out.size; omega)⟩)
        obtain ⟨W11, hW11⟩ : ∃ W11, W11 = W10.alloc (.cells #[.int .i64 ((b : Nat) : Int)] 3) := ⟨_, rfl⟩
        have hs10 : W10.heap.size = wr.heap.size := by rw [hW10]; simp [World.setCell]
        have hb11 : Below W10.heap.size W10 W11 := by rw [hW11]; exact below_alloc _ _
        have HS11 : Hid (W11.heap.size = wr.heap.size + 1) := by unfold Hid; rw [hW11, ← hs10]; simp
        have HNW : Hid (∀ j u, [Value.int .i64 ((b : Nat) : Int)][j]? = some u → W11.cell? ((⟨wr.heap.size, 0, none⟩ : Addr).add j) = some u) := by
          rw [← hs10]; exact World.news_of_block (by rw [hW11]; exact heap_alloc_new W10 _)
        have HD11 : Hid (OD W11 n S M (.slice (some ⟨gL, oL, none⟩) n k3) (.slice (some ⟨gw, 0, none⟩) m cw) (.slice ao (natsL ord).length co) (natsL ws') (natsL ord) (lkL n looked) met) := HD10.out.keep hb11
        have HB11 : Hid (Below S w W11) := HB10.out.trans (hb11.mono (by have := HB10.out.size; have := HSE.out; omega))
        have HLE : Hid (M + 2 ≤ W11.heap.size) := HD11.out.sz
        have HWE : Hid (W11 = ((wr.drewN nq).setCell ⟨S + 1, 0, none⟩ (.slice (some ⟨gw, 0, none⟩) m cw)).alloc (.cells #[.int .i64 ((b : Nat) : Int)] 3)) := by unfold Hid; rw [hW11, hW10]
        clear hW10 hW11 hs10 hb11 HD10 HB10 HB3 HD3
        go_wp2_with (at_builtin; rw [← HWE.out]; refine wpList_append_lies _ rfl _ _ 31 (by rfl) (M + 2) 3 i1 _ 1 8 Try.underlying31 hi1 hy0 hy1 hyb rfl (by decide) (.slice ao (natsL ord).length co) (natsL ord).length _ (by rfl) HD11.out.rO ⟨wr.heap.size, 0, none⟩ 1 1 [.int .i64 ((b : Nat) : Int)] (by rfl) rfl HNW.out (by intro u hu; simp at hu; subst hu; rfl) (by decide) (by unfold maxLen; omega) (by omega) HLE.out (wr.heap.size + 1) HS11.out ?_)
        intro g cp w12 hown hgrow hat hlt1
        have hat2 : (Value.slice (some ⟨g, 0, none⟩) ((natsL ord).length + 1) cp).ownBlock = (Value.slice ao (natsL ord).length co).ownBlock ∨ (Value.slice (some ⟨g, 0, none⟩) ((natsL ord).length + 1) cp).ownBlock = some W11.heap.size := by
          rcases hat with h1 | h1
          · exact .inl h1.symm
          · right; rw [HS11.out]; simp [Value.ownBlock, h1]
        have HE : Hid (OD w12 n S M (.slice (some ⟨gL, oL, none⟩) n k3) (.slice (some ⟨gw, 0, none⟩) m cw) (.slice (some ⟨g, 0, none⟩) ((natsL ord).length + 1) cp) (natsL ws') (natsL (ord ++ [b])) (lkL n looked) met) := by
          have e : natsL (ord ++ [b]) = natsL ord ++ [((b : Nat) : Int)] := by simp [natsL]
          unfold Hid; rw [e]; exact HD11.out.out hgrow hat2 hown
        have HBF : Hid (Below S w w12) := by
          refine HB11.out.trans ⟨hgrow.os, hgrow.tape, hgrow.output, hgrow.size, fun k hk => ?_⟩
          exact hgrow.block k (by have := HLE.out; have := HD11.out.lt; omega) fun e => by have := (own_lt HD11.out.rO e.symm).1; have := HD11.out.lt; omega
        have HFP : Hid (Dfs L (ord ++ [b]) ws' met looked) := HDF.out.pop (by rw [HGD.out]; exact hge)
        clear hown hgrow hat hat2
        go_wp2_with fail
        go_roundg (gk - 1)
        case measure => omega
        case rel => exact ⟨_, _, ord ++ [b], ws', met, looked, rfl, by have := HM.out; omega, HE, HBF, fun _ => HFP.out, fun h => by omega, HLK, by have := HM.out; have := HCNT.out; simp; omega⟩

end Go.Proofs.Ytjdedfgdofceeaa
