/-
  Package ssa: Ahead; the statement's walk.
-/
import Derived.Test.YtjdedfgdofceeaaSaE
import Derived.Test.YtjdedfgdofceeaaSaC
namespace Go.Proofs.Ytjdedfgdofceeaa
open Go.RowKit
set_option linter.unusedSimpArgs false
set_option linter.unusedVariables false

theorem rowL_all (bs : List (List Ins)) : ((List.range (bs.map leadsL).length).map fun t => rowL (bs.map leadsL) t (bs.map leadsL).length) = aheadL bs := by
  unfold aheadL aheadF
  rw [List.length_map]
  exact List.map_congr_left fun t _ => rowL_leads _ _ _

set_option maxHeartbeats 4000000 in
set_option maxRecDepth 20000 in
theorem ahead_any (c : Cod) (vb : Value) (B : Nat) (w : World) (hB : B ≤ w.heap.size) (hb : Blks B w vb c.blocks) (hsz : c.blocks.length * 24 ≤ 140737488351232) :
    Calls Try.prog 6 #[.agg #[.string ⟨c.name.toArray⟩, .int .i64 c.params, .int .i64 c.results, .int .i64 c.vars, .int .i64 c.slots, vb]] w fun e w' => ∃ v, e = .returned v ∧ Rws w'.heap.size w' v (aheadL c.blocks) ∧ Below w.heap.size w w' := by
  obtain ⟨a3, k3, rfl⟩ := Lies.slice hb
  have HBK : Hid (Blks B w (.slice a3 c.blocks.length k3) c.blocks) := hb
  obtain ⟨bs, hbs⟩ : ∃ bs, bs = c.blocks := ⟨_, rfl⟩
  rw [← hbs] at hsz HBK ⊢
  have HR : Hid (_) := rowL_all bs
  have HSZ : Hid ((bs.map leadsL).length * 24 ≤ 140737488351232) := by unfold Hid; rw [List.length_map]; exact hsz
  obtain ⟨n, hn⟩ : ∃ n, n = bs.length := ⟨_, rfl⟩
  obtain ⟨W, hW⟩ : ∃ W, W = w.alloc (.cells #[.string ⟨c.name.toArray⟩, .int .i64 c.params, .int .i64 c.results, .int .i64 c.vars, .int .i64 c.slots, .slice a3 n k3] 24) := ⟨_, rfl⟩
  have HW : Hid (Below w.heap.size w W) := by rw [hW]; exact below_alloc _ _
  have hWs : W.heap.size = w.heap.size + 1 := by rw [hW]; simp
  have HWS : Hid (W = _) := hW
  have HLD : Hid (_) := leadsOf_any bs _ B W (by omega) (HBK.out.below (HW.out.mono hB)) hsz
  rw [← hn] at HLD ⊢
  clear hb hbs hn hW hsz
  go_enter Try.func6, Try.ntmps6
  go_wp2_with fail
  rw [← HWS.out]
  refine Calls.mono HLD.out ?_
  rintro e w1 ⟨v1, rfl, hr1, hb1⟩
  have HR1 : Hid (_) := hr1
  have HB1 : Hid (_) := hb1
  clear hr1 hb1
  go_wp2_with fail
  refine (aheadOf_any (bs.map leadsL) v1 _ w1 (Nat.le_refl _) HR1.out HSZ.out).mono ?_
  rintro e w2 ⟨v2, rfl, hr2, hb2⟩
  have HR2 : Hid (_) := hr2
  have HB2 : Hid (_) := hb2
  clear hr2 hb2
  go_wp2_with fail
  go_ret
  exact ⟨_, rfl, by rw [← HR.out]; exact HR2.out, HW.out.trans ((HB1.out.mono (by omega)).trans (HB2.out.mono (by have := HB1.out.size; omega)))⟩

set_option maxHeartbeats 4000000 in
set_option maxRecDepth 20000 in
theorem ssaAhead_walk (c : Cod) (vb : Value) (w : World) (hb : Blks w.heap.size w vb c.blocks) (hsz : c.blocks.length * 24 ≤ 140737488351232) :
    Calls Try.prog 3 #[.agg #[.string ⟨c.name.toArray⟩, .int .i64 c.params, .int .i64 c.results, .int .i64 c.vars, .int .i64 c.slots, vb]] w fun e w' => e = .returned (.bool true) ∧ Below w.heap.size w w' := by
  obtain ⟨a3, k3, rfl⟩ := Lies.slice hb
  have HBK : Hid (Blks w.heap.size w (.slice a3 c.blocks.length k3) c.blocks) := hb
  obtain ⟨W, hW⟩ : ∃ W, W = w.alloc (.cells #[.string ⟨c.name.toArray⟩, .int .i64 c.params, .int .i64 c.results, .int .i64 c.vars, .int .i64 c.slots, .slice a3 c.blocks.length k3] 24) := ⟨_, rfl⟩
  have HW : Hid (Below w.heap.size w W) := by rw [hW]; exact below_alloc _ _
  have hWs : W.heap.size = w.heap.size + 1 := by rw [hW]; simp
  have HC1 : Hid (W.heap[w.heap.size]? = some (.cells #[.string ⟨c.name.toArray⟩, .int .i64 c.params, .int .i64 c.results, .int .i64 c.vars, .int .i64 c.slots, .slice a3 c.blocks.length k3] 24)) := by rw [hW]; exact heap_alloc_new w _
  have HWS : Hid (W = _) := hW
  have HSZ : Hid (_) := hsz
  clear hb hW hsz
  go_enter Try.func3, Try.ntmps3
  go_wp2_with fail
  rw [← HWS.out]
  refine (ahead_any c _ w.heap.size W (by omega) (HBK.out.below HW.out) HSZ.out).mono ?_
  rintro e w1 ⟨v1, rfl, hr1, hb1⟩
  have HB1 : Hid (Below w.heap.size w w1) := below_after HW.out hb1
  have hs1 := hb1.size
  have p1 := cells6 ((hb1.block _ (by omega)).trans HC1.out)
  have HR1 : Hid (_) := hr1
  clear hb1 hr1 HC1 HWS
  go_wp2_with fail
  clear p1
  refine (aheadOfR_any c _ w.heap.size w1 (by omega) (HBK.out.below HB1.out) HSZ.out).mono ?_
  rintro e w2 ⟨v2, rfl, hr2, hb2⟩
  have HB2 : Hid (Below w1.heap.size w1 w2) := hb2
  have HR2 : Hid (_) := hr2
  clear hr2 hb2
  go_wp2_with fail
  refine (sameLists_one w2.heap.size v1 v2 _ w2 (Nat.le_refl _) (Rws.up (Rws.below HR1.out HB2.out) HB2.out.size) HR2.out).mono ?_
  rintro e w3 ⟨rfl, n3, hw3⟩
  have hw3' := hw3.symm
  subst hw3'
  go_wp2_with fail
  go_ret
  exact ⟨rfl, below_drewN (HB1.out.trans (HB2.out.mono HB1.out.size)) _⟩

end Go.Proofs.Ytjdedfgdofceeaa
