/-
  slices.Repeat of one number.
-/
import Derived.Test.YtjdedfgdofceeaaSbK
import Derived.Laws.CopyOwn
namespace Go.Proofs.Ytjdedfgdofceeaa
open Go.RowKit
set_option linter.unusedSimpArgs false
set_option linter.unusedVariables false

theorem intSize : (Try.prog.info? 3).map (·.size) = some 1 := by kernel_rfl

theorem rowI_of_block {w : World} {S g n : Nat} {f : Nat → Int} (h : w.heap[g]? = some (.cells (numsL (fnL n f)).toArray 3 (0, 0))) (hS : S ≤ g) (hn : n ≤ maxLen) : RowI w S g n f :=
  ⟨by rw [numsL_len, fnL_len, Nat.mul_one], .inr ⟨g, n, _, rfl, hS, h, Nat.le_refl _, hn, by simp [numsL_len, fnL_len], by
    rw [Nat.mul_one, List.take_of_length_le (by simp [numsL_len, fnL_len])]⟩⟩

theorem splice_fill {n m : Nat} (x : Int) (k : Nat) (hk : m + k ≤ n) :
    splice (numsL (fnL n (fun i => if i < m then x else 0))) m (List.replicate k (.int .i64 x)) = numsL (fnL n (fun i => if i < m + k then x else 0)) := by
  refine List.ext_getElem? fun j => ?_
  have hl : (numsL (fnL n (fun i => if i < m then x else 0))).length = n := by rw [numsL_len, fnL_len]
  unfold splice
  by_cases h1 : j < n
  · rw [fnL_get _ h1]
    by_cases h2 : j < m
    · rw [List.getElem?_append_left (by rw [List.length_take, hl]; omega), List.getElem?_take, if_pos h2, fnL_get _ h1, if_pos h2, if_pos (by omega)]
    · rw [List.getElem?_append_right (by rw [List.length_take, hl]; omega), List.length_take, hl, Nat.min_eq_left (by omega)]
      by_cases h3 : j < m + k
      · rw [List.getElem?_append_left (by rw [List.length_replicate]; omega), List.getElem?_replicate, if_pos (by omega), if_pos h3]
      · rw [List.getElem?_append_right (by rw [List.length_replicate]; omega), List.getElem?_drop, List.length_replicate, show m + k + (j - m - k) = j by omega, fnL_get _ h1, if_neg h2, if_neg h3]
  · rw [List.getElem?_eq_none (by simp [hl]; omega), List.getElem?_eq_none (by rw [numsL_len, fnL_len]; omega)]

theorem RowI.block {w : World} {S g n : Nat} {f : Nat → Int} (h : RowI w S g n f) : w.heap[g]? = some (.cells (numsL (fnL n f)).toArray 3 (0, 0)) := by
  rcases h.own.2 with ⟨h2, _⟩ | ⟨g', cap, cur, hv, hb, hh, hn, hc, hs, ht⟩
  · cases h2
  · cases hv
    rw [hh, ← ht, List.take_of_length_le (by simp [hs])]

def fill0 (x : Int) (m : Nat) : Nat → Int := fun i => if i < m then x else 0

set_option maxHeartbeats 4000000 in
set_option maxRecDepth 20000 in
theorem repeat_any (g n c : Nat) (x : Int) (w : World) (hg : g < w.heap.size) (hn : n * 8 ≤ 140737488351232) (hx : w.cell? ⟨g, 0, none⟩ = some (.int .i64 x)) :
    Calls Try.prog 35 #[.slice (some ⟨g, 0, none⟩) 1 c, .int .i64 (n : Nat)] w fun e w' => ∃ g', e = .returned (.slice (some ⟨g', 0, none⟩) n n) ∧ RowI w' w.heap.size g' n (fun _ => x) ∧ Below w.heap.size w w' := by
  obtain ⟨i1, hi1, hy0, hy1, hyb⟩ := infoParts infoInt
  have h0 : ¬ ((n : Int) < 0) := by omega
  have h63 : (n : Int) ≤ 9223372036854775807 := by omega
  have hw1 : IntKind.u64.wrap (1 : Int) = ((1 : Nat) : Int) := by rw [IntKind.wrap_u64]; omega
  have hw2 : IntKind.u64.wrap (n : Int) = ((n : Nat) : Int) := by rw [IntKind.wrap_u64]; omega
  have HM := Try.bits_Mul 1 n (by omega) (by omega) w
  have e1 : 1 * n / 18446744073709551616 = 0 := by omega
  have e2 : 1 * n % 18446744073709551616 = n := by omega
  rw [e1, e2] at HM
  have HMH : Hid (_) := HM
  have HX : Hid (_) := hx
  clear HM hx e1 e2
  go_enter Try.func35, Try.ntmps35
  go_wp2_with fail
  refine Calls.mono HMH.out ?_
  rintro e w' ⟨rfl, rfl⟩
  clear HMH
  go_wp2_with (at_make; refine wpList_make_full _ rfl _ _ _ rfl w'.heap.size 3 i1 _ 1 Try.underlying31 hi1 hy0 hy1 .i64 .i64 _ _ n (by rfl) (by rfl) rfl rfl (by rw [hyb]; omega) (by unfold maxLen; omega) (Nat.le_refl _) ?_)
  intro w1 hown hgrow
  obtain ⟨G, hG⟩ : ∃ G, G = w'.heap.size := ⟨_, rfl⟩
  rw [← hG] at hown hg ⊢
  have HE : Hid (G = w'.heap.size) := hG
  have h1 : (madeCells #[Value.int .i64 0] n).toList = List.replicate n (.int .i64 0) := toList_madeCells_one _ _
  rw [h1, ← fnL_const n 0] at hown
  have e0 : fnL n (fun _ => (0 : Int)) = fnL n (fill0 x 0) := by unfold fill0; exact fnL_congr fun i _ => by simp
  rw [e0] at hown
  have HR1 : Hid (RowI w1 G G n (fill0 x 0)) := ⟨hown⟩
  have HB1 : Hid (Below G w' w1) := by rw [hG]; exact (Below.refl _ _).grown hgrow (Nat.le_refl _) (fun k hk => by cases hk)
  obtain ⟨L0, hL0⟩ : ∃ L0, L0 = numsL (fnL n (fill0 x 0)) := ⟨_, rfl⟩
  have HL0 : Hid (L0 = numsL (fnL n (fill0 x 0))) := hL0
  obtain ⟨m0, hm0⟩ : ∃ m0, m0 = Nat.min 1 n := ⟨_, rfl⟩
  have hm1 : m0 ≤ 1 := by rw [hm0]; exact Nat.min_le_left _ _
  have hm2 : m0 ≤ n := by rw [hm0]; exact Nat.min_le_right _ _
  have hm3 : n = 0 ∨ 0 < m0 := by rw [hm0]; rcases Nat.eq_zero_or_pos n with h | h; exact .inl h; exact .inr (by show 0 < min 1 n; omega)
  have HBK : Hid (w1.heap[G]? = some (.cells L0.toArray 3 (0, 0))) := by rw [hL0]; exact HR1.out.block
  have HX1 : Hid (w1.cell? ⟨g, 0, none⟩ = some (.int .i64 x)) := (HB1.out.cell (p := ⟨g, 0, none⟩) hg).trans HX.out
  have hLl : L0.length = n := by rw [hL0, numsL_len, fnL_len]
  have a1 : (List.replicate m0 (Value.int .i64 x)).length = Nat.min 1 n := by rw [List.length_replicate]; exact hm0
  have a2 : 0 < (List.replicate m0 (Value.int .i64 x)).length → (some (⟨G, 0, none⟩ : Addr)) = some ⟨G, 0, none⟩ ∧ ∃ ad, (some (⟨g, 0, none⟩ : Addr)) = some ad ∧ ∀ j v, (List.replicate m0 (Value.int .i64 x))[j]? = some v → w1.cell? (ad.add j) = some v := by
    refine fun hp => ⟨rfl, _, rfl, fun j v hv => ?_⟩
    rw [List.getElem?_replicate] at hv
    split at hv
    · cases hv
      have : j = 0 := by omega
      subst this
      exact HX1.out
    · cases hv
  have a3 : 0 + (List.replicate m0 (Value.int .i64 x)).length ≤ L0.length := by rw [List.length_replicate]; omega
  have a4 : ∀ v ∈ List.replicate m0 (Value.int .i64 x), v.oneCell' = true := fun v hv => by rw [List.eq_of_mem_replicate hv]; rfl
  obtain ⟨R0, hR0⟩ : ∃ R0, R0 = List.replicate m0 (Value.int .i64 x) := ⟨_, rfl⟩
  rw [← hR0] at a1 a2 a3 a4
  have HA : Hid (_) := And.intro a1 (And.intro a2 (And.intro a3 a4))
  have HR0 : Hid (R0 = List.replicate m0 (Value.int .i64 x)) := hR0
  have HRL : R0.length = m0 := by rw [hR0, List.length_replicate]
  clear hown hgrow hG h1 e0 hL0 a1 a2 a3 a4 hR0
  go_wp2_with (refine wpList_copy_splice rfl (.tmp 31) (.tmp 32) 31 31 rfl 3 (by kernel_rfl) intSize (some ⟨G, 0, none⟩) (some ⟨g, 0, none⟩) n n 1 c (by rfl) (by rfl) G 0 L0 3 HBK.out R0 HA.out.1 HA.out.2.1 HA.out.2.2.1 HA.out.2.2.2 G w' HB1.out (Nat.le_refl _) ?_; rw [HRL])
  intro w2 h2 hb2
  have HS2 : Hid (w2.heap[G]? = some (.cells (numsL (fnL n (fill0 x m0))).toArray 3 (0, 0))) := by
    have h3 := h2.out
    have h4 := splice_fill (n := n) (m := 0) x m0 (by omega)
    rw [HL0.out, HR0.out] at h3
    have e5 : (fun i => if i < 0 + m0 then x else 0) = fill0 x m0 := by funext i; unfold fill0; simp
    rw [e5] at h4
    have e6 : (fun i => if i < 0 then x else 0) = fill0 x 0 := by funext i; unfold fill0; simp
    rw [e6] at h4
    rw [h4] at h3
    exact h3
  have HB2 : Hid (Below G w' w2) := hb2
  clear h2 hb2 HA HRL HR0 HBK HX1 HR1 HB1 HX hLl HL0 hm1
  go_wp2_with fail
  go_loopg [8] n (fun g s8 wr => ∃ m : Nat, s8 = .int .i64 (m : Nat) ∧ m ≤ n ∧ n ≤ m + g ∧ (n = 0 ∨ 0 < m) ∧ Hid (wr.heap[G]? = some (.cells (numsL (fnL n (fill0 x m))).toArray 3 (0, 0))) ∧ Hid (Below G w' wr))
  case atStart => exact ⟨m0, by rw [hm0], hm2, by omega, hm3, HS2, HB2⟩
  case round =>
    clear HS2 HB2 hm0 hm2 hm3 L0 R0 m0
    obtain ⟨m, rfl, hm2, hmg, hm3, HS, HB⟩ := hrel
    by_cases hlt : m < n
    · have hltI : (m : Int) < (n : Int) := by omega
      obtain ⟨k, hk⟩ : ∃ k, k = Nat.min m (n - m) := ⟨_, rfl⟩
      have hk1 : k ≤ m := by rw [hk]; exact Nat.min_le_left _ _
      have hk2 : k ≤ n - m := by rw [hk]; exact Nat.min_le_right _ _
      have hk3 : 0 < k := by rw [hk]; show 0 < min m (n - m); omega
      obtain ⟨L0, hL0⟩ : ∃ L0, L0 = numsL (fnL n (fill0 x m)) := ⟨_, rfl⟩
      have HL0 : Hid (L0 = numsL (fnL n (fill0 x m))) := hL0
      have hLl : L0.length = n := by rw [hL0, numsL_len, fnL_len]
      obtain ⟨R0, hR0⟩ : ∃ R0, R0 = List.replicate k (Value.int .i64 x) := ⟨_, rfl⟩
      have HR0 : Hid (R0 = List.replicate k (Value.int .i64 x)) := hR0
      have HRL : Hid (R0.length = k) := by unfold Hid; rw [hR0, List.length_replicate]
      have HBK : Hid (wr.heap[G]? = some (.cells L0.toArray 3 (0, 0))) := by unfold Hid; rw [hL0]; exact HS.out
      have HA1 : Hid (R0.length = Nat.min m (n - m)) := by unfold Hid; rw [HRL.out]; exact hk
      have HA2 : Hid (∀ j v, R0[j]? = some v → wr.drew.cell? ((⟨G, 0, none⟩ : Addr).add j) = some v) := by
        intro j v hv
        rw [hR0, List.getElem?_replicate] at hv
        split at hv
        · cases hv
          have hj : j < n := by omega
          have h5 := fnL_get (fill0 x m) hj
          rw [← hL0] at h5
          have h6 : fill0 x m j = x := by unfold fill0; rw [if_pos (by omega)]
          rw [h6] at h5
          show wr.cell? _ = _
          rw [show (⟨G, 0, none⟩ : Addr).add j = ⟨G, j, none⟩ from by unfold Addr.add; split <;> simp_all]
          simp [World.cell?, HBK.out, h5]
        · cases hv
      have HA3 : Hid (m + R0.length ≤ L0.length) := by unfold Hid; rw [HRL.out]; omega
      have HA4 : Hid (∀ v ∈ R0, v.oneCell' = true) := fun v hv => by rw [hR0] at hv; rw [List.eq_of_mem_replicate hv]; rfl
      have HBQ : Hid (wr.drew.heap[G]? = some (.cells L0.toArray 3 (0, 0)) ∧ Below G w' wr.drew) := ⟨HBK.out, ⟨HB.out.os, HB.out.tape, HB.out.output, HB.out.size, HB.out.block⟩⟩
      have hne : ¬ n = m := by omega
      clear hL0 hR0 hk
      go_wp2_with fail
      go_region_law (refine step_copy_splice rfl (.tmp 41) (.tmp 44) 31 31 rfl 3 (by kernel_rfl) intSize (some ⟨G, m, none⟩) (some ⟨G, 0, none⟩) (n - m) (n - m) m n (by simp [Act.eval, Act.put]) (by simp [Act.eval, Act.put]) G m L0 3 HBQ.out.1 R0 HA1.out (fun _ => ⟨rfl, _, rfl, HA2.out⟩) HA3.out HA4.out G w' HBQ.out.2 (Nat.le_refl _) ?_; intro w4 hg4 hb4)
      have HS4 : Hid (w4.heap[G]? = some (.cells (numsL (fnL n (fill0 x (m + k)))).toArray 3 (0, 0))) := by
        have h3 := hg4.out
        have h4 := splice_fill (n := n) (m := m) x k (by omega)
        rw [HL0.out, HR0.out] at h3
        have e5 : (fun i => if i < m + k then x else 0) = fill0 x (m + k) := by funext i; rfl
        have e6 : (fun i => if i < m then x else 0) = fill0 x m := by funext i; rfl
        rw [e5, e6] at h4
        rw [h4] at h3
        exact h3
      have HB4 : Hid (Below G w' w4) := hb4
      have HK : Hid (R0.length = k) := HRL
      have hwk : IntKind.i64.wrap ((m : Int) + (R0.length : Int)) = ((m + k : Nat) : Int) := by rw [HRL.out, IntKind.wrap_i64]; omega
      clear hg4 hb4
      go_wp2_with fail
      obtain ⟨gt, rfl⟩ : ∃ gt, gk = gt + 1 := ⟨gk - 1, by omega⟩
      go_roundg gt
      case measure => omega
      case rel => exact ⟨m + k, by first | rfl | (rw [hwk]) | (simp [hwk]) | (have := HRL.out; simp; omega), by omega, by omega, by omega, HS4, HB4⟩
    · have hltI : ¬ (m : Int) < (n : Int) := by omega
      have hmn : m = n := by omega
      subst hmn
      go_wp2_with fail
      go_ret
      refine ⟨G, rfl, ?_, by rw [← HE.out]; exact HB.out⟩
      rw [← HE.out]
      exact (rowI_of_block HS.out (Nat.le_refl _) (by unfold maxLen; omega)).congr fun i hi => by unfold fill0; rw [if_pos hi]

end Go.Proofs.Ytjdedfgdofceeaa
