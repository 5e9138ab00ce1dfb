/-
  Package ssa: the climber in memory; where two ways up meet.
-/
import Derived.Test.YthlngmknifpbjaaDoorJSbJ
import Derived.Test.YthlngmknifpbjaaDoorShelf
import Derived.Lib.OwnBridge
import Derived.Laws.CopyOwn
namespace Go.Proofs.YthlngmknifpbjaaDoor
section
open Go.RowKit
set_option linter.unusedSimpArgs false
set_option linter.unusedVariables false

theorem rev_own (base : Nat) (u : Value) (l : List Int) (W : World) (h : W.ownsRow base 3 1 u l.length (numsL l)) :
    Calls Tryd.prog 45 #[u] W fun e w' => e = .returned (.tuple #[]) ∧ w'.ownsRow base 3 1 u l.length (numsL l.reverse) ∧ Below base W w' := by
  by_cases hu : u = .slice none 0 0
  · subst hu
    have hl : l.length = 0 := by
      rcases h.2 with ⟨_, h0⟩ | ⟨g, cap, cur, hv, _⟩
      · exact h0
      · cases hv
    refine (Tryd.slices_Reverse_int_empty none 0 W).mono ?_
    rintro e w' ⟨rfl, rfl⟩
    have : l = [] := List.length_eq_zero_iff.1 hl
    subst this
    exact ⟨rfl, h, Below.refl _ _⟩
  · obtain ⟨g, cap, rfl, hb, hlt, hn, hm, hl, hH⟩ := Go.Lib.holds_of_ownsRow (enc := Value.int .i64) (zs := l) h hu
    refine (Tryd.slices_Reverse_int g 0 cap l W hH (by unfold maxLen at hm; omega)).mono ?_
    rintro e w' ⟨rfl, q, rfl⟩
    have h2 := Go.Lib.ownsRow_putRow (enc := Value.int .i64) (q := q) (k := l.length) (ys := l.reverse) h (by simp) (Nat.le_refl _)
    rw [List.take_of_length_le (by simp)] at h2
    exact ⟨rfl, h2, Go.Lib.below_putRow (Below.refl _ _) hb⟩

/-- numbers by their places -/
def fnL (n : Nat) (f : Nat → Int) : List Int := (List.range n).map f
theorem fnL_len (n : Nat) (f : Nat → Int) : (fnL n f).length = n := by simp [fnL]
theorem fnL_get {n i : Nat} (f : Nat → Int) (h : i < n) : (numsL (fnL n f))[i]? = some (.int .i64 (f i)) := by
  refine numsL_get _ _ _ ?_
  unfold fnL; rw [List.getElem?_map, List.getElem?_range h]; rfl
def fset (f : Nat → Int) (i : Nat) (x : Int) : Nat → Int := fun j => if j = i then x else f j
theorem fset_same (f : Nat → Int) (i : Nat) (x : Int) : fset f i x i = x := by simp [fset]
theorem fset_other (f : Nat → Int) {i j : Nat} (x : Int) (h : j ≠ i) : fset f i x j = f j := by simp [fset, h]
theorem fnL_congr {n : Nat} {f f' : Nat → Int} (h : ∀ i, i < n → f i = f' i) : fnL n f = fnL n f' := by
  unfold fnL; exact List.map_congr_left fun i hi => h i (List.mem_range.1 hi)
theorem fnL_set {n i : Nat} (f : Nat → Int) (x : Int) (h : i < n) : (numsL (fnL n f)).set i (.int .i64 x) = numsL (fnL n (fset f i x)) := by
  refine List.ext_getElem? fun k => ?_
  by_cases hk : k < n
  · by_cases e : i = k
    · subst e
      rw [List.getElem?_set_self (by rw [numsL_len, fnL_len]; exact h), fnL_get _ hk, fset_same]
    · rw [List.getElem?_set_ne e, fnL_get _ hk, fnL_get _ hk, fset_other _ _ (fun h => e h.symm)]
  · rw [List.getElem?_eq_none (by rw [List.length_set, numsL_len, fnL_len]; omega), List.getElem?_eq_none (by rw [numsL_len, fnL_len]; omega)]
theorem fnL_const (n : Nat) (x : Int) : numsL (fnL n (fun _ => x)) = List.replicate n (.int .i64 x) := by
  unfold numsL fnL; rw [List.map_map]
  refine List.ext_getElem? fun k => ?_
  by_cases hk : k < n
  · rw [List.getElem?_map, List.getElem?_range hk, List.getElem?_replicate, if_pos hk]; rfl
  · rw [List.getElem?_eq_none (by simp; omega), List.getElem?_eq_none (by simp; omega)]

/-- a row of numbers of one's own, as long as it has room -/
structure RowI (w : World) (S g n : Nat) (f : Nat → Int) : Prop where
  own : w.ownsRow S 3 1 (.slice (some ⟨g, 0, none⟩) n n) n (numsL (fnL n f))

variable {w w' : World} {S g n : Nat} {f : Nat → Int}
theorem RowI.lt (h : RowI w S g n f) : S ≤ g ∧ g < w.heap.size := own_lt h.own rfl
theorem RowI.get (h : RowI w S g n f) {i : Nat} (hi : i < n) : w.cell? ⟨g, i, none⟩ = some (.int .i64 (f i)) ∧ w.frozen? ⟨g, i, none⟩ = false := by
  obtain ⟨g', c, he, _, _, _, _, hfz, hat⟩ := own_at h.own (by omega)
  cases he
  exact ⟨hat i _ (fnL_get f hi), hfz i⟩
theorem RowI.set (h : RowI w S g n f) {i : Nat} (hi : i < n) (x : Int) : RowI (w.setCell ⟨g, i, none⟩ (.int .i64 x)) S g n (fset f i x) := by
  have h1 := own_set h.own i (.int .i64 x) (by omega)
  rw [fnL_set f x hi] at h1
  exact ⟨h1⟩
theorem RowI.keep (h : RowI w S g n f) (k : w'.heap[g]? = w.heap[g]?) : RowI w' S g n f := ⟨own_same h.own fun g' hg => by
  have : g' = g := by simpa [Value.ownBlock] using hg.symm
  rw [this]; exact k⟩
theorem RowI.off (h : RowI w S g n f) {g' i : Nat} (hg : g' ≠ g) (v : Value) : RowI (w.setCell ⟨g', i, none⟩ v) S g n f := h.keep (Below.heap_setCell _ _ _ _ (fun e => hg e.symm))
theorem RowI.below (h : RowI w S g n f) {B : Nat} (k : Below B w w') (hg : g < B) : RowI w' S g n f := h.keep (k.block g hg)
theorem RowI.base (h : RowI w S g n f) {S' : Nat} (hS : S' ≤ S) : RowI w S' g n f := ⟨own_base' h.own hS⟩
theorem RowI.congr (h : RowI w S g n f) {f' : Nat → Int} (k : ∀ i, i < n → f i = f' i) : RowI w S g n f' := ⟨by rw [← fnL_congr k]; exact h.own⟩
theorem below_set {B : Nat} {a w : World} (h : Below B a w) {g i : Nat} (hg : B ≤ g) (v : Value) : Below B a (w.setCell ⟨g, i, none⟩ v) :=
  h.trans ⟨rfl, rfl, rfl, by simp [World.setCell], fun k hk => Below.heap_setCell _ _ _ _ (by show k ≠ g; omega)⟩
theorem below_keep {B g : Nat} {w w' : World} (k : Below B w w') (hg : g < B) : w'.heap[g]? = w.heap[g]? := k.block g hg
end

section
open Go.RowKit
set_option linter.unusedSimpArgs false
set_option linter.unusedVariables false

theorem intSize : (Tryd.prog.info? 3).map (·.size) = some 1 := by kernel_rfl

theorem rowI_of_block {w : World} {S g n : Nat} {f : Nat → Int} (h : w.heap[g]? = some (.cells (numsL (fnL n f)).toArray 3 (0, 0))) (hS : S ≤ g) (hn : n ≤ maxLen) : RowI w S g n f :=
  ⟨by rw [numsL_len, fnL_len, Nat.mul_one], .inr ⟨g, n, _, rfl, hS, h, Nat.le_refl _, hn, by simp [numsL_len, fnL_len], by
    rw [Nat.mul_one, List.take_of_length_le (by simp [numsL_len, fnL_len])]⟩⟩

theorem splice_fill {n m : Nat} (x : Int) (k : Nat) (hk : m + k ≤ n) :
    splice (numsL (fnL n (fun i => if i < m then x else 0))) m (List.replicate k (.int .i64 x)) = numsL (fnL n (fun i => if i < m + k then x else 0)) := by
  refine List.ext_getElem? fun j => ?_
  have hl : (numsL (fnL n (fun i => if i < m then x else 0))).length = n := by rw [numsL_len, fnL_len]
  unfold splice
  by_cases h1 : j < n
  · rw [fnL_get _ h1]
    by_cases h2 : j < m
    · rw [List.getElem?_append_left (by rw [List.length_take, hl]; omega), List.getElem?_take, if_pos h2, fnL_get _ h1, if_pos h2, if_pos (by omega)]
    · rw [List.getElem?_append_right (by rw [List.length_take, hl]; omega), List.length_take, hl, Nat.min_eq_left (by omega)]
      by_cases h3 : j < m + k
      · rw [List.getElem?_append_left (by rw [List.length_replicate]; omega), List.getElem?_replicate, if_pos (by omega), if_pos h3]
      · rw [List.getElem?_append_right (by rw [List.length_replicate]; omega), List.getElem?_drop, List.length_replicate, show m + k + (j - m - k) = j by omega, fnL_get _ h1, if_neg h2, if_neg h3]
  · rw [List.getElem?_eq_none (by simp [hl]; omega), List.getElem?_eq_none (by rw [numsL_len, fnL_len]; omega)]

theorem RowI.block {w : World} {S g n : Nat} {f : Nat → Int} (h : RowI w S g n f) : w.heap[g]? = some (.cells (numsL (fnL n f)).toArray 3 (0, 0)) := by
  rcases h.own.2 with ⟨h2, _⟩ | ⟨g', cap, cur, hv, hb, hh, hn, hc, hs, ht⟩
  · cases h2
  · cases hv
    rw [hh, ← ht, List.take_of_length_le (by simp [hs])]

def fill0 (x : Int) (m : Nat) : Nat → Int := fun i => if i < m then x else 0

set_option maxHeartbeats 4000000 in
set_option maxRecDepth 20000 in
theorem repeat_any (g n c : Nat) (x : Int) (w : World) (hg : g < w.heap.size) (hn : n * 8 ≤ 140737488351232) (hx : w.cell? ⟨g, 0, none⟩ = some (.int .i64 x)) :
    Calls Tryd.prog 46 #[.slice (some ⟨g, 0, none⟩) 1 c, .int .i64 (n : Nat)] w fun e w' => ∃ g', e = .returned (.slice (some ⟨g', 0, none⟩) n n) ∧ RowI w' w.heap.size g' n (fun _ => x) ∧ Below w.heap.size w w' := by
  obtain ⟨i1, hi1, hy0, hy1, hyb⟩ := infoParts infoInt
  have h0 : ¬ ((n : Int) < 0) := by omega
  have h63 : (n : Int) ≤ 9223372036854775807 := by omega
  have hw1 : IntKind.u64.wrap (1 : Int) = ((1 : Nat) : Int) := by rw [IntKind.wrap_u64]; omega
  have hw2 : IntKind.u64.wrap (n : Int) = ((n : Nat) : Int) := by rw [IntKind.wrap_u64]; omega
  have HM := Tryd.bits_Mul 1 n (by omega) (by omega) w
  have e1 : 1 * n / 18446744073709551616 = 0 := by omega
  have e2 : 1 * n % 18446744073709551616 = n := by omega
  rw [e1, e2] at HM
  have HMH : Hid (_) := HM
  have HX : Hid (_) := hx
  clear HM hx e1 e2
  go_enter Tryd.func46, Tryd.ntmps46
  go_wp2_with fail
  refine Calls.mono HMH.out ?_
  rintro e w' ⟨rfl, rfl⟩
  clear HMH
  go_wp2_with (at_make; refine wpList_make_full _ rfl _ _ _ rfl w'.heap.size 3 i1 _ 1 Tryd.underlying23 hi1 hy0 hy1 .i64 .i64 _ _ n (by rfl) (by rfl) rfl rfl (by rw [hyb]; omega) (by unfold maxLen; omega) (Nat.le_refl _) ?_)
  intro w1 hown hgrow
  obtain ⟨G, hG⟩ : ∃ G, G = w'.heap.size := ⟨_, rfl⟩
  rw [← hG] at hown hg ⊢
  have HE : Hid (G = w'.heap.size) := hG
  have h1 : (madeCells #[Value.int .i64 0] n).toList = List.replicate n (.int .i64 0) := toList_madeCells_one _ _
  rw [h1, ← fnL_const n 0] at hown
  have e0 : fnL n (fun _ => (0 : Int)) = fnL n (fill0 x 0) := by unfold fill0; exact fnL_congr fun i _ => by simp
  rw [e0] at hown
  have HR1 : Hid (RowI w1 G G n (fill0 x 0)) := ⟨hown⟩
  have HB1 : Hid (Below G w' w1) := by rw [hG]; exact (Below.refl _ _).grown hgrow (Nat.le_refl _) (fun k hk => by cases hk)
  obtain ⟨L0, hL0⟩ : ∃ L0, L0 = numsL (fnL n (fill0 x 0)) := ⟨_, rfl⟩
  have HL0 : Hid (L0 = numsL (fnL n (fill0 x 0))) := hL0
  obtain ⟨m0, hm0⟩ : ∃ m0, m0 = Nat.min 1 n := ⟨_, rfl⟩
  have hm1 : m0 ≤ 1 := by rw [hm0]; exact Nat.min_le_left _ _
  have hm2 : m0 ≤ n := by rw [hm0]; exact Nat.min_le_right _ _
  have hm3 : n = 0 ∨ 0 < m0 := by rw [hm0]; rcases Nat.eq_zero_or_pos n with h | h; exact .inl h; exact .inr (by show 0 < min 1 n; omega)
  have HBK : Hid (w1.heap[G]? = some (.cells L0.toArray 3 (0, 0))) := by rw [hL0]; exact HR1.out.block
  have HX1 : Hid (w1.cell? ⟨g, 0, none⟩ = some (.int .i64 x)) := (HB1.out.cell (p := ⟨g, 0, none⟩) hg).trans HX.out
  have hLl : L0.length = n := by rw [hL0, numsL_len, fnL_len]
  have a1 : (List.replicate m0 (Value.int .i64 x)).length = Nat.min 1 n := by rw [List.length_replicate]; exact hm0
  have a2 : 0 < (List.replicate m0 (Value.int .i64 x)).length → (some (⟨G, 0, none⟩ : Addr)) = some ⟨G, 0, none⟩ ∧ ∃ ad, (some (⟨g, 0, none⟩ : Addr)) = some ad ∧ ∀ j v, (List.replicate m0 (Value.int .i64 x))[j]? = some v → w1.cell? (ad.add j) = some v := by
    refine fun hp => ⟨rfl, _, rfl, fun j v hv => ?_⟩
    rw [List.getElem?_replicate] at hv
    split at hv
    · cases hv
      have : j = 0 := by omega
      subst this
      exact HX1.out
    · cases hv
  have a3 : 0 + (List.replicate m0 (Value.int .i64 x)).length ≤ L0.length := by rw [List.length_replicate]; omega
  have a4 : ∀ v ∈ List.replicate m0 (Value.int .i64 x), v.oneCell' = true := fun v hv => by rw [List.eq_of_mem_replicate hv]; rfl
  obtain ⟨R0, hR0⟩ : ∃ R0, R0 = List.replicate m0 (Value.int .i64 x) := ⟨_, rfl⟩
  rw [← hR0] at a1 a2 a3 a4
  have HA : Hid (_) := And.intro a1 (And.intro a2 (And.intro a3 a4))
  have HR0 : Hid (R0 = List.replicate m0 (Value.int .i64 x)) := hR0
  have HRL : R0.length = m0 := by rw [hR0, List.length_replicate]
  clear hown hgrow hG h1 e0 hL0 a1 a2 a3 a4 hR0
  go_wp2_with (refine wpList_copy_splice rfl (.tmp 31) (.tmp 32) 23 23 rfl 3 (by kernel_rfl) intSize (some ⟨G, 0, none⟩) (some ⟨g, 0, none⟩) n n 1 c (by rfl) (by rfl) G 0 L0 3 HBK.out R0 HA.out.1 HA.out.2.1 HA.out.2.2.1 HA.out.2.2.2 G w' HB1.out (Nat.le_refl _) ?_; rw [HRL])
  intro w2 h2 hb2
  have HS2 : Hid (w2.heap[G]? = some (.cells (numsL (fnL n (fill0 x m0))).toArray 3 (0, 0))) := by
    have h3 := h2.out
    have h4 := splice_fill (n := n) (m := 0) x m0 (by omega)
    rw [HL0.out, HR0.out] at h3
    have e5 : (fun i => if i < 0 + m0 then x else 0) = fill0 x m0 := by funext i; unfold fill0; simp
    rw [e5] at h4
    have e6 : (fun i => if i < 0 then x else 0) = fill0 x 0 := by funext i; unfold fill0; simp
    rw [e6] at h4
    rw [h4] at h3
    exact h3
  have HB2 : Hid (Below G w' w2) := hb2
  clear h2 hb2 HA HRL HR0 HBK HX1 HR1 HB1 HX hLl HL0 hm1
  go_wp2_with fail
  go_loopg [8] n (fun g s8 wr => ∃ m : Nat, s8 = .int .i64 (m : Nat) ∧ m ≤ n ∧ n ≤ m + g ∧ (n = 0 ∨ 0 < m) ∧ Hid (wr.heap[G]? = some (.cells (numsL (fnL n (fill0 x m))).toArray 3 (0, 0))) ∧ Hid (Below G w' wr))
  case atStart => exact ⟨m0, by rw [hm0], hm2, by omega, hm3, HS2, HB2⟩
  case round =>
    clear HS2 HB2 hm0 hm2 hm3 L0 R0 m0
    obtain ⟨m, rfl, hm2, hmg, hm3, HS, HB⟩ := hrel
    by_cases hlt : m < n
    · have hltI : (m : Int) < (n : Int) := by omega
      obtain ⟨k, hk⟩ : ∃ k, k = Nat.min m (n - m) := ⟨_, rfl⟩
      have hk1 : k ≤ m := by rw [hk]; exact Nat.min_le_left _ _
      have hk2 : k ≤ n - m := by rw [hk]; exact Nat.min_le_right _ _
      have hk3 : 0 < k := by rw [hk]; show 0 < min m (n - m); omega
      obtain ⟨L0, hL0⟩ : ∃ L0, L0 = numsL (fnL n (fill0 x m)) := ⟨_, rfl⟩
      have HL0 : Hid (L0 = numsL (fnL n (fill0 x m))) := hL0
      have hLl : L0.length = n := by rw [hL0, numsL_len, fnL_len]
      obtain ⟨R0, hR0⟩ : ∃ R0, R0 = List.replicate k (Value.int .i64 x) := ⟨_, rfl⟩
      have HR0 : Hid (R0 = List.replicate k (Value.int .i64 x)) := hR0
      have HRL : Hid (R0.length = k) := by unfold Hid; rw [hR0, List.length_replicate]
      have HBK : Hid (wr.heap[G]? = some (.cells L0.toArray 3 (0, 0))) := by unfold Hid; rw [hL0]; exact HS.out
      have HA1 : Hid (R0.length = Nat.min m (n - m)) := by unfold Hid; rw [HRL.out]; exact hk
      have HA2 : Hid (∀ j v, R0[j]? = some v → wr.drew.cell? ((⟨G, 0, none⟩ : Addr).add j) = some v) := by
        intro j v hv
        rw [hR0, List.getElem?_replicate] at hv
        split at hv
        · cases hv
          have hj : j < n := by omega
          have h5 := fnL_get (fill0 x m) hj
          rw [← hL0] at h5
          have h6 : fill0 x m j = x := by unfold fill0; rw [if_pos (by omega)]
          rw [h6] at h5
          show wr.cell? _ = _
          rw [show (⟨G, 0, none⟩ : Addr).add j = ⟨G, j, none⟩ from by unfold Addr.add; split <;> simp_all]
          simp [World.cell?, HBK.out, h5]
        · cases hv
      have HA3 : Hid (m + R0.length ≤ L0.length) := by unfold Hid; rw [HRL.out]; omega
      have HA4 : Hid (∀ v ∈ R0, v.oneCell' = true) := fun v hv => by rw [hR0] at hv; rw [List.eq_of_mem_replicate hv]; rfl
      have HBQ : Hid (wr.drew.heap[G]? = some (.cells L0.toArray 3 (0, 0)) ∧ Below G w' wr.drew) := ⟨HBK.out, ⟨HB.out.os, HB.out.tape, HB.out.output, HB.out.size, HB.out.block⟩⟩
      have hne : ¬ n = m := by omega
      clear hL0 hR0 hk
      go_wp2_with fail
      go_region_law (refine step_copy_splice rfl (.tmp 41) (.tmp 44) 23 23 rfl 3 (by kernel_rfl) intSize (some ⟨G, m, none⟩) (some ⟨G, 0, none⟩) (n - m) (n - m) m n (by simp [Act.eval, Act.put]) (by simp [Act.eval, Act.put]) G m L0 3 HBQ.out.1 R0 HA1.out (fun _ => ⟨rfl, _, rfl, HA2.out⟩) HA3.out HA4.out G w' HBQ.out.2 (Nat.le_refl _) ?_; intro w4 hg4 hb4)
      have HS4 : Hid (w4.heap[G]? = some (.cells (numsL (fnL n (fill0 x (m + k)))).toArray 3 (0, 0))) := by
        have h3 := hg4.out
        have h4 := splice_fill (n := n) (m := m) x k (by omega)
        rw [HL0.out, HR0.out] at h3
        have e5 : (fun i => if i < m + k then x else 0) = fill0 x (m + k) := by funext i; rfl
        have e6 : (fun i => if i < m then x else 0) = fill0 x m := by funext i; rfl
        rw [e5, e6] at h4
        rw [h4] at h3
        exact h3
      have HB4 : Hid (Below G w' w4) := hb4
      have HK : Hid (R0.length = k) := HRL
      have hwk : IntKind.i64.wrap ((m : Int) + (R0.length : Int)) = ((m + k : Nat) : Int) := by rw [HRL.out, IntKind.wrap_i64]; omega
      clear hg4 hb4
      go_wp2_with fail
      obtain ⟨gt, rfl⟩ : ∃ gt, gk = gt + 1 := ⟨gk - 1, by omega⟩
      go_roundg gt
      case measure => omega
      case rel => exact ⟨m + k, by first | rfl | (rw [hwk]) | (simp [hwk]) | (have := HRL.out; simp; omega), by omega, by omega, by omega, HS4, HB4⟩
    · have hltI : ¬ (m : Int) < (n : Int) := by omega
      have hmn : m = n := by omega
      subst hmn
      go_wp2_with fail
      go_ret
      refine ⟨G, rfl, ?_, by rw [← HE.out]; exact HB.out⟩
      rw [← HE.out]
      exact (rowI_of_block HS.out (Nat.le_refl _) (by unfold maxLen; omega)).congr fun i hi => by unfold fill0; rw [if_pos hi]
end

section
open Go.RowKit
set_option linter.unusedSimpArgs false
set_option linter.unusedVariables false

theorem cells4 {w : World} {x : Nat} {T : TypeId} {f : Nat × Nat} {c0 c1 c2 c3 : Value} (h : w.heap[x]? = some (.cells #[c0, c1, c2, c3] T f)) :
    w.cell? ⟨x, 0, none⟩ = some c0 ∧ w.cell? ⟨x, 1, none⟩ = some c1 ∧ w.cell? ⟨x, 2, none⟩ = some c2 ∧ w.cell? ⟨x, 3, none⟩ = some c3 := by simp [World.cell?, h]

/-- the nearest one above, as it stands in a row -/
def upI (u : Nat → Option Nat) (b : Nat) : Int := match u b with
  | some c => ((c : Nat) : Int)
  | none => -1
theorem upI_some {u : Nat → Option Nat} {b c : Nat} (h : u b = some c) : upI u b = (c : Int) := by unfold upI; rw [h]
theorem upI_none {u : Nat → Option Nat} {b : Nat} (h : u b = none) : upI u b = -1 := by unfold upI; rw [h]
theorem upI_set {u : Nat → Option Nat} {b z : Nat} : fset (upI u) b (z : Int) = upI (upd1 u b z) := by
  funext y; unfold fset upI upd1
  by_cases h : y = b <;> simp [h]

/-- the climber in memory -/
structure CL (w : World) (S n C gu gr gm : Nat) (U R M : Nat → Int) (cl : Int) : Prop where
  bC : w.heap[C]? = some (.cells #[.slice (some ⟨gu, 0, none⟩) n n, .slice (some ⟨gr, 0, none⟩) n n, .slice (some ⟨gm, 0, none⟩) n n, .int .i64 cl] 83)
  rU : RowI w S gu n U
  rR : RowI w S gr n R
  rM : RowI w S gm n M
  e1 : gu ≠ gr
  e2 : gu ≠ gm
  e3 : gr ≠ gm
  c1 : C ≠ gu
  c2 : C ≠ gr
  c3 : C ≠ gm
  sC : S ≤ C

variable {w w' : World} {S n C gu gr gm : Nat} {U R M : Nat → Int} {cl : Int}

theorem CL.cells (h : CL w S n C gu gr gm U R M cl) : w.cell? ⟨C, 0, none⟩ = some (.slice (some ⟨gu, 0, none⟩) n n) ∧ w.cell? ⟨C, 1, none⟩ = some (.slice (some ⟨gr, 0, none⟩) n n) ∧ w.cell? ⟨C, 2, none⟩ = some (.slice (some ⟨gm, 0, none⟩) n n) ∧ w.cell? ⟨C, 3, none⟩ = some (.int .i64 cl) := cells4 h.bC
theorem CL.ltC (h : CL w S n C gu gr gm U R M cl) : C < w.heap.size := lt_of_block h.bC
theorem CL.same (h : CL w S n C gu gr gm U R M cl) (k : w'.heap = w.heap) : CL w' S n C gu gr gm U R M cl := by
  refine ⟨by rw [k]; exact h.bC, h.rU.keep (by rw [k]), h.rR.keep (by rw [k]), h.rM.keep (by rw [k]), h.e1, h.e2, h.e3, h.c1, h.c2, h.c3, h.sC⟩
theorem CL.keep (h : CL w S n C gu gr gm U R M cl) (k : Below w.heap.size w w') : CL w' S n C gu gr gm U R M cl := by
  refine ⟨(k.block _ h.ltC).trans h.bC, h.rU.keep (k.block _ h.rU.lt.2), h.rR.keep (k.block _ h.rR.lt.2), h.rM.keep (k.block _ h.rM.lt.2), h.e1, h.e2, h.e3, h.c1, h.c2, h.c3, h.sC⟩
theorem CL.met (h : CL w S n C gu gr gm U R M cl) {i : Nat} (hi : i < n) (x : Int) : CL (w.setCell ⟨gm, i, none⟩ (.int .i64 x)) S n C gu gr gm U R (fset M i x) cl :=
  ⟨(Below.heap_setCell _ _ _ _ h.c3).trans h.bC, h.rU.off (fun e => h.e2 e.symm) _, h.rR.off (fun e => h.e3 e.symm) _, h.rM.set hi x, h.e1, h.e2, h.e3, h.c1, h.c2, h.c3, h.sC⟩
theorem CL.up (h : CL w S n C gu gr gm U R M cl) {i : Nat} (hi : i < n) (x : Int) : CL (w.setCell ⟨gu, i, none⟩ (.int .i64 x)) S n C gu gr gm (fset U i x) R M cl :=
  ⟨(Below.heap_setCell _ _ _ _ h.c1).trans h.bC, h.rU.set hi x, h.rR.off h.e1 _, h.rM.off h.e2 _, h.e1, h.e2, h.e3, h.c1, h.c2, h.c3, h.sC⟩
theorem CL.rank (h : CL w S n C gu gr gm U R M cl) {i : Nat} (hi : i < n) (x : Int) : CL (w.setCell ⟨gr, i, none⟩ (.int .i64 x)) S n C gu gr gm U (fset R i x) M cl :=
  ⟨(Below.heap_setCell _ _ _ _ h.c2).trans h.bC, h.rU.off (fun e => h.e1 e.symm) _, h.rR.set hi x, h.rM.off h.e3 _, h.e1, h.e2, h.e3, h.c1, h.c2, h.c3, h.sC⟩
theorem CL.tick (h : CL w S n C gu gr gm U R M cl) (x : Int) : CL (w.setCell ⟨C, 3, none⟩ (.int .i64 x)) S n C gu gr gm U R M x :=
  ⟨by have := heap_setCell_same (o := 3) h.bC (.int .i64 x); simpa using this, h.rU.off h.c1 _, h.rR.off h.c2 _, h.rM.off h.c3 _, h.e1, h.e2, h.e3, h.c1, h.c2, h.c3, h.sC⟩

theorem Climb.congr {r : Nat → Nat} {u : Nat → Option Nat} {mk mk' : Nat → Prop} {a0 n0 a n : Nat} (h : Climb r u mk a0 n0 a n) (k : ∀ x, mk x ↔ mk' x) : Climb r u mk' a0 n0 a n := by
  have : mk = mk' := funext fun x => propext (k x)
  subst this; exact h
theorem Met.congr {u : Nat → Option Nat} {mk mk' : Nat → Prop} {n : Nat} (h : Met u mk n) (k : ∀ x, mk x ↔ mk' x) : Met u mk' n := fun x hx => h x ((k x).2 hx)

set_option maxHeartbeats 4000000 in
set_option maxRecDepth 20000 in
theorem meet_any {pre : Nat → List Nat} {r p : Nat → Nat} {u : Nat → Option Nat} (near a : Nat) (hO : Ranks pre r p) (hS : St pre r u) (hlt : ∀ b, Rch pre b → b < n) (hR : ∀ b, Rch pre b → R b = (r b : Int))
    (h : CL w S n C gu gr gm (upI u) R M cl) (kn : Kn u near) (ka : Kn u a) (hm : Met u (fun x => x < n ∧ M x = cl) near) :
    Calls Tryd.prog 47 #[.pointer (some ⟨C, 0, none⟩), .int .i64 (near : Nat), .int .i64 (a : Nat)] w fun e w' =>
      ∃ (z : Nat) (M' : Nat → Int), e = .returned (.int .i64 (z : Nat)) ∧ CL w' S n C gu gr gm (upI u) R M' cl ∧ Below S w w' ∧ Kn u z ∧ (∀ x, Ch u x z ↔ (Ch u x a ∧ Ch u x near)) ∧ Met u (fun x => x < n ∧ M' x = cl) z ∧ ∀ i, M' i = M i ∨ M' i = cl := by
  have HO : Hid (_) := hO
  have HS : Hid (_) := hS
  have HLT : Hid (_) := hlt
  have HRR : Hid (∀ b, Kn u b → b < n ∧ R b = (r b : Int)) := fun b k => ⟨hlt b (k.rch hS), hR b (k.rch hS)⟩
  have HD0 : Hid (CL w S n C gu gr gm (upI u) R M cl) := h
  have HC0 : Hid (Climb r u (fun x => x < n ∧ M x = cl) a near a near) := Climb.start ka kn hm
  clear hO hS hlt h hR kn ka hm
  go_enter Tryd.func47, Tryd.ntmps47
  go_wp2_with fail
  go_loopg [1, 2] (r a + r near) (fun g s1 s2 wr => ∃ (a' n' : Nat) (M' : Nat → Int), s1 = .int .i64 (n' : Nat) ∧ s2 = .int .i64 (a' : Nat) ∧ r a' + r n' ≤ g ∧ Hid (CL wr S n C gu gr gm (upI u) R M' cl) ∧ Hid (Below S w wr) ∧ Hid (Climb r u (fun x => x < n ∧ M' x = cl) a near a' n') ∧ Hid (∀ i, M' i = M i ∨ M' i = cl))
  case atStart => exact ⟨a, near, M, rfl, rfl, Nat.le_refl _, HD0, Below.refl _ _, HC0, fun i => .inl rfl⟩
  case round =>
    clear HD0 HC0
    obtain ⟨a', n', M', rfl, rfl, hg, HD, HB, HC, HM⟩ := hrel
    by_cases hne : a' = n'
    · subst hne
      have HE : Hid (_) := HC.out.same HS.out
      go_wp2_with fail
      go_ret
      exact ⟨a', M', rfl, HD.out, HB.out, HC.out.ka, HE.out.1, HE.out.2, HM.out⟩
    · have hneI : ¬ (a' : Int) = (n' : Int) := by omega
      obtain ⟨q0, q1, q2, q3⟩ := HD.out.cells
      obtain ⟨ha1, ha2⟩ := HRR.out a' HC.out.ka
      obtain ⟨hn1, hn2⟩ := HRR.out n' HC.out.kn
      have r1 := (HD.out.rR.get ha1).1
      have r2 := (HD.out.rR.get hn1).1
      rw [ha2] at r1
      rw [hn2] at r2
      by_cases hr : r a' < r n'
      · have hrI : (r a' : Int) < (r n' : Int) := by omega
        have HCX : Hid (Climb r u (fun x => x < n ∧ M' x = cl) a near n' a') := HC.out.swap
        obtain ⟨hr1, c, hc, hrc⟩ := HCX.out.goes HS.out HO.out (by omega) (by omega)
        have HCA : Hid (u n' = some c) := hc
        obtain ⟨hA, _⟩ := HRR.out n' HCX.out.ka
        have r3 := (HD.out.rM.get hA).1
        have r3f := (HD.out.rM.get hA).2
        have r4 := (HD.out.rU.get hA).1
        rw [upI_some hc] at r4
        clear hc
        by_cases hm : M' n' = cl
        · rw [hm] at r3
          have HE : Hid (_) := HCX.out.ended HS.out hr1 ⟨hA, hm⟩
          have HMC : Hid (_) := hm
          clear hm
          go_wp2_with fail
          go_quiet (fail)
          have HD1 : Hid (CL (wr.drewN nq) S n C gu gr gm (upI u) R M' cl) := HD.out.same rfl
          have HB1 : Hid (Below S w (wr.drewN nq)) := below_drewN HB.out nq
          generalize wr.drewN nq = W1 at HD1 HB1 ⊢
          obtain ⟨q0, q1, q2, q3⟩ := HD1.out.cells
          have r3 := (HD1.out.rM.get hA).1
          rw [HMC.out] at r3
          go_wp2_with fail
          go_quiet (fail)
          have HD2 : Hid (CL (W1.drewN nq) S n C gu gr gm (upI u) R M' cl) := HD1.out.same rfl
          have HB2 : Hid (Below S w (W1.drewN nq)) := below_drewN HB1.out nq
          go_wp2_with fail
          go_ret
          exact ⟨a', M', rfl, HD2.out, HB2.out, HCX.out.kn, HE.out.1, HE.out.2, HM.out⟩
        · have HMM : Hid (M' n' ≠ cl) := hm
          go_wp2_with fail
          go_quiet (fail)
          have HD1 : Hid (CL (wr.drewN nq) S n C gu gr gm (upI u) R M' cl) := HD.out.same rfl
          have HB1 : Hid (Below S w (wr.drewN nq)) := below_drewN HB.out nq
          generalize wr.drewN nq = W1 at HD1 HB1 ⊢
          obtain ⟨q0, q1, q2, q3⟩ := HD1.out.cells
          have r3 := (HD1.out.rM.get hA).1
          go_wp2_with fail
          go_quiet (fail)
          have HD2 : Hid (CL (W1.drewN nq) S n C gu gr gm (upI u) R M' cl) := HD1.out.same rfl
          have HB2 : Hid (Below S w (W1.drewN nq)) := below_drewN HB1.out nq
          obtain ⟨W2, hW2⟩ : ∃ W2, W2 = W1.drewN nq := ⟨_, rfl⟩
          rw [← hW2] at HD2 HB2 ⊢
          clear hW2 HD HB HD1 HB1 q0 q1 q2 q3 r1 r2 r3 r3f r4
          obtain ⟨q0, q1, q2, q3⟩ := HD2.out.cells
          have r3 := (HD2.out.rM.get hA).1
          have r3f := (HD2.out.rM.get hA).2
          have HD3 : Hid (CL (W2.setCell ⟨gm, n', none⟩ (.int .i64 cl)).drew S n C gu gr gm (upI u) R (fset M' n' cl) cl) := (HD2.out.met hA cl).same rfl
          have HB3 : Hid (Below S w (W2.setCell ⟨gm, n', none⟩ (.int .i64 cl)).drew) := below_drewN (below_set HB2.out HD2.out.rM.lt.1 _) 1
          have q4 := (HD2.out.met hA cl).cells.1
          have r5 := ((HD2.out.met hA cl).rU.get hA).1
          rw [upI_some HCA.out] at r5
          go_wp2_with fail
          go_region
          go_wp2_with fail
          have HCS : Hid (Climb r u (fun x => x < n ∧ fset M' n' cl x = cl) a near c a') := (HCX.out.step HS.out hr1 HCA.out).congr fun x => by
            unfold fset
            by_cases hx : x = n'
            · simp [hx, hA]
            · simp [hx]
          have HM3 : Hid (∀ i, fset M' n' cl i = M i ∨ fset M' n' cl i = cl) := fun i => by
            unfold fset
            split
            · exact .inr rfl
            · exact HM.out i
          obtain ⟨gt, rfl⟩ : ∃ gt, gk = gt + 1 := ⟨gk - 1, by omega⟩
          go_roundg gt
          case measure => omega
          case rel => exact ⟨c, a', _, rfl, rfl, by omega, HD3, HB3, HCS, HM3⟩
      · have hrI : ¬ (r a' : Int) < (r n' : Int) := by omega
        have HCX : Hid (Climb r u (fun x => x < n ∧ M' x = cl) a near a' n') := HC.out
        obtain ⟨hr1, c, hc, hrc⟩ := HCX.out.goes HS.out HO.out (by omega) (by omega)
        have HCA : Hid (u a' = some c) := hc
        obtain ⟨hA, _⟩ := HRR.out a' HCX.out.ka
        have r3 := (HD.out.rM.get hA).1
        have r3f := (HD.out.rM.get hA).2
        have r4 := (HD.out.rU.get hA).1
        rw [upI_some hc] at r4
        clear hc
        by_cases hm : M' a' = cl
        · rw [hm] at r3
          have HE : Hid (_) := HCX.out.ended HS.out hr1 ⟨hA, hm⟩
          have HMC : Hid (_) := hm
          clear hm
          go_wp2_with fail
          go_quiet (fail)
          have HD1 : Hid (CL (wr.drewN nq) S n C gu gr gm (upI u) R M' cl) := HD.out.same rfl
          have HB1 : Hid (Below S w (wr.drewN nq)) := below_drewN HB.out nq
          generalize wr.drewN nq = W1 at HD1 HB1 ⊢
          obtain ⟨q0, q1, q2, q3⟩ := HD1.out.cells
          have r3 := (HD1.out.rM.get hA).1
          rw [HMC.out] at r3
          go_wp2_with fail
          go_quiet (fail)
          have HD2 : Hid (CL (W1.drewN nq) S n C gu gr gm (upI u) R M' cl) := HD1.out.same rfl
          have HB2 : Hid (Below S w (W1.drewN nq)) := below_drewN HB1.out nq
          go_wp2_with fail
          go_ret
          exact ⟨n', M', rfl, HD2.out, HB2.out, HCX.out.kn, HE.out.1, HE.out.2, HM.out⟩
        · have HMM : Hid (M' a' ≠ cl) := hm
          go_wp2_with fail
          go_quiet (fail)
          have HD1 : Hid (CL (wr.drewN nq) S n C gu gr gm (upI u) R M' cl) := HD.out.same rfl
          have HB1 : Hid (Below S w (wr.drewN nq)) := below_drewN HB.out nq
          generalize wr.drewN nq = W1 at HD1 HB1 ⊢
          obtain ⟨q0, q1, q2, q3⟩ := HD1.out.cells
          have r3 := (HD1.out.rM.get hA).1
          go_wp2_with fail
          go_quiet (fail)
          have HD2 : Hid (CL (W1.drewN nq) S n C gu gr gm (upI u) R M' cl) := HD1.out.same rfl
          have HB2 : Hid (Below S w (W1.drewN nq)) := below_drewN HB1.out nq
          obtain ⟨W2, hW2⟩ : ∃ W2, W2 = W1.drewN nq := ⟨_, rfl⟩
          rw [← hW2] at HD2 HB2 ⊢
          clear hW2 HD HB HD1 HB1 q0 q1 q2 q3 r1 r2 r3 r3f r4
          obtain ⟨q0, q1, q2, q3⟩ := HD2.out.cells
          have r3 := (HD2.out.rM.get hA).1
          have r3f := (HD2.out.rM.get hA).2
          have HD3 : Hid (CL (W2.setCell ⟨gm, a', none⟩ (.int .i64 cl)).drew S n C gu gr gm (upI u) R (fset M' a' cl) cl) := (HD2.out.met hA cl).same rfl
          have HB3 : Hid (Below S w (W2.setCell ⟨gm, a', none⟩ (.int .i64 cl)).drew) := below_drewN (below_set HB2.out HD2.out.rM.lt.1 _) 1
          have q4 := (HD2.out.met hA cl).cells.1
          have r5 := ((HD2.out.met hA cl).rU.get hA).1
          rw [upI_some HCA.out] at r5
          go_wp2_with fail
          go_region
          go_wp2_with fail
          have HCS : Hid (Climb r u (fun x => x < n ∧ fset M' a' cl x = cl) a near c n') := (HCX.out.step HS.out hr1 HCA.out).congr fun x => by
            unfold fset
            by_cases hx : x = a'
            · simp [hx, hA]
            · simp [hx]
          have HM3 : Hid (∀ i, fset M' a' cl i = M i ∨ fset M' a' cl i = cl) := fun i => by
            unfold fset
            split
            · exact .inr rfl
            · exact HM.out i
          obtain ⟨gt, rfl⟩ : ∃ gt, gk = gt + 1 := ⟨gk - 1, by omega⟩
          go_roundg gt
          case measure => omega
          case rel => exact ⟨c, n', _, rfl, rfl, by omega, HD3, HB3, HCS, HM3⟩
end

end Go.Proofs.YthlngmknifpbjaaDoor
