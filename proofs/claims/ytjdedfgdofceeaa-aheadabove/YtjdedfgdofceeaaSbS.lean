/-
  posternlaw.SsaAbove: its walk: what Above answers is what AboveOf answers.
-/
import Derived.Test.YtjdedfgdofceeaaSbR
import Derived.Test.YtjdedfgdofceeaaSbF
namespace Go.Proofs.Ytjdedfgdofceeaa
open Go.RowKit
set_option linter.unusedSimpArgs false
set_option linter.unusedVariables false

open Classical in
/-- block k is above block i -/
noncomputable def abD (L : List (List Int)) : Nat → Nat → Bool := fun k i => decide (Rch (preL L) k ∧ Rch (preL L) i ∧ Dom (preL L) k i)

open Classical in
theorem abF_row {L : List (List Int)} {n : Nat} {o : List Nat} {u : Nat → Option Nat} (h : 0 < n → Ordered L o ∧ UpOf L o u) {j : Nat} (hj : j < n) : abF u n o j = rowD (abD L) j n := by
  obtain ⟨hO, hU⟩ := h (by omega)
  unfold abF rowD
  by_cases hm : j ∈ o
  · rw [if_pos hm]
    have hR := (hO.mem j).1 hm
    unfold natsL
    congr 1
    refine List.filter_congr fun k _ => ?_
    unfold abD
    rw [Bool.eq_iff_iff, decide_eq_true_iff, decide_eq_true_iff]
    constructor
    · intro hc
      exact ⟨Kn.rch hU.st (hU.st.known hc (hU.kn j hR)), hR, (hU.dom j k hR).1 hc⟩
    · rintro ⟨_, _, hd⟩
      exact (hU.dom j k hR).2 hd
  · rw [if_neg hm]
    rw [List.filter_eq_nil_iff.2]
    · rfl
    · intro k _ hk
      unfold abD at hk
      rw [decide_eq_true_iff] at hk
      exact hm ((hO.mem j).2 hk.2.1)

theorem rowD_i64 {dm : Nat → Nat → Bool} {j n : Nat} (hn : n ≤ 1048576) : ∀ y ∈ rowD dm j n, I64 y := by
  intro y hy
  have := rowD_mem hy
  unfold I64
  omega

open Classical in
set_option maxHeartbeats 4000000 in
set_option maxRecDepth 20000 in
theorem ssaAbove_walk (c : Cod) (vb : Value) (w : World) (hb : Blks w.heap.size w vb c.blocks) (hsz : c.blocks.length ≤ 1048576) :
    Calls Try.prog 4 #[.agg #[.string ⟨c.name.toArray⟩, .int .i64 c.params, .int .i64 c.results, .int .i64 c.vars, .int .i64 c.slots, vb]] w fun e w' => e = .returned (.bool true) ∧ Below w.heap.size w w' := by
  obtain ⟨a3, k3, rfl⟩ := Lies.slice hb
  have HBK : Hid (Blks w.heap.size w (.slice a3 c.blocks.length k3) c.blocks) := hb
  obtain ⟨W, hW⟩ : ∃ W, W = w.alloc (.cells #[.string ⟨c.name.toArray⟩, .int .i64 c.params, .int .i64 c.results, .int .i64 c.vars, .int .i64 c.slots, .slice a3 c.blocks.length k3] 24) := ⟨_, rfl⟩
  have HW : Hid (Below w.heap.size w W) := by rw [hW]; exact below_alloc _ _
  have hWs : W.heap.size = w.heap.size + 1 := by rw [hW]; simp
  have HC1 : Hid (W.heap[w.heap.size]? = some (.cells #[.string ⟨c.name.toArray⟩, .int .i64 c.params, .int .i64 c.results, .int .i64 c.vars, .int .i64 c.slots, .slice a3 c.blocks.length k3] 24)) := by rw [hW]; exact heap_alloc_new w _
  have HWS : Hid (W = _) := hW
  have HSZ : Hid (_) := hsz
  clear hb hW hsz
  go_enter Try.func4, Try.ntmps4
  go_wp2_with fail
  rw [← HWS.out]
  refine (above_any c _ w.heap.size W (by omega) (HBK.out.below HW.out) HSZ.out).mono ?_
  rintro e w1 ⟨v1, vs1, o, u, rfl, hr1, ho1, ho0, hb1⟩
  have HB1 : Hid (Below w.heap.size w w1) := below_after HW.out hb1
  have hs1 := hb1.size
  have p1 := cells6 ((hb1.block _ (by omega)).trans HC1.out)
  have HR1 : Hid (Rws w1.heap.size w1 v1 ((List.range c.blocks.length).map fun j => rowD (abD (c.blocks.map leadsL)) j c.blocks.length)) := by
    have h1 := hr1.rws fun i hi => by
      rw [abF_row ho1 hi]
      exact rowD_i64 HSZ.out
    have h2 : (List.range c.blocks.length).map (abF u c.blocks.length o) = (List.range c.blocks.length).map fun j => rowD (abD (c.blocks.map leadsL)) j c.blocks.length :=
      List.map_congr_left fun j hj => abF_row ho1 (List.mem_range.1 hj)
    rw [h2] at h1
    exact h1
  clear hb1 hr1 HC1 HWS ho1 ho0
  go_wp2_with fail
  clear p1
  refine (aboveOf_any c _ w.heap.size w1 (by omega) (HBK.out.below HB1.out) (by have := HSZ.out; omega) (abD (c.blocks.map leadsL)) (fun k i => by unfold abD; exact decide_eq_true_iff)).mono ?_
  rintro e w2 ⟨v2, rfl, hr2, hb2⟩
  have HB2 : Hid (Below w1.heap.size w1 w2) := hb2
  have HR2 : Hid (_) := hr2
  clear hr2 hb2
  go_wp2_with fail
  refine (sameLists_one w2.heap.size v1 v2 _ w2 (Nat.le_refl _) (Rws.up (Rws.below HR1.out HB2.out) HB2.out.size) HR2.out).mono ?_
  rintro e w3 ⟨rfl, n3, hw3⟩
  have hw3' := hw3.symm
  subst hw3'
  go_wp2_with fail
  go_ret
  exact ⟨rfl, below_drewN (HB1.out.trans (HB2.out.mono HB1.out.size)) _⟩

end Go.Proofs.Ytjdedfgdofceeaa
