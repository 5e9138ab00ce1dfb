/-
  Package sound: a block, as one of a function.
-/
import Derived.Test.YtbpbpihboenbeaaDoorSoK
namespace Go.Proofs.YtbpbpihboenbeaaDoor
open Go.RowKit Go.Maps
set_option linter.unusedSimpArgs false
set_option linter.unusedVariables false

set_option maxHeartbeats 4000000 in
set_option maxRecDepth 20000 in
theorem codeAt_any (b : List Ins) (j : Nat) (c : Cod) (fs : List Cod) (vf vb v : Value) (mp qc B p1 p2 p3 : Nat) (N : Int) (w : World) (h : Ck w B mp qc vf fs) (hvb : ∃ a k, vb = .slice a c.blocks.length k) (hbl : c.blocks.length ≤ 2000) (hb : Blk B w v b) (hj : c.blocks[j]? = some b)
    (hB1 : B ≤ p1) (hm1 : mp < p1) (hp1 : w.heap[p1]? = some (.cells #[.int .i64 (accW c.blocks j)] 3)) (hp2 : w.heap[p2]? = some (rulO qc N)) (hp3 : w.heap[p3]? = some (chkO qc N vf mp c vb)) (hne : p2 ≠ p1) (hne3 : p3 ≠ p1) (hN : N = mostN) :
    Calls Tryd.prog 47 #[.int .i64 (j : Int), v, .pointer (some ⟨p1, 0, none⟩), .pointer (some ⟨p2, 0, none⟩), .pointer (some ⟨p3, 0, none⟩)] w fun e w' => e = .returned (.int .i64 (blockS fs c j)) ∧ Below p1 w w' ∧ (∀ k, k < w.heap.size → k ≠ p1 → w'.heap[k]? = w.heap[k]?) ∧ (blockS fs c j = 0 → w'.heap[p1]? = some (.cells #[.int .i64 (accW c.blocks (j + 1))] 3)) := by
  have hB := h.le
  have HH : Hid (_) := h
  have hlen := hb.len
  unfold maxLen at hlen
  obtain ⟨a1, k1, rfl⟩ := Lies.slice h.cods
  obtain ⟨a2, k2, rfl⟩ := hvb
  obtain ⟨a3, k3, rfl⟩ := Lies.slice hb
  have hsn := accW_succ c.blocks j b hj
  obtain ⟨r, hr⟩ : ∃ r, r = blockS fs c j := ⟨_, rfl⟩
  rw [← hr]
  unfold blockS at hr
  rw [hj] at hr
  simp only at hr
  rw [hsn] at hr ⊢
  obtain ⟨m, hm⟩ : ∃ m, m = accW c.blocks j := ⟨_, rfl⟩
  rw [← hm] at hr hp1 ⊢
  rw [← hN] at hr
  have HR : Hid (r = _) := hr
  have HBK : Hid (Blk B w (.slice a3 b.length k3) b) := hb
  have HBL : Hid (_) := hbl
  obtain ⟨n, hn⟩ : ∃ n, n = b.length := ⟨_, rfl⟩
  rw [← hn] at hlen ⊢
  have HN : Hid (_) := hn
  unfold rulO at hp2
  unfold chkO at hp3
  have HNN : Hid (N = mostN) := hN
  have hl1 := lt_of_block hp1
  have hl2 := lt_of_block hp2
  have HP1 : Hid (_) := hp1
  have HP2 : Hid (_) := hp2
  have q1 := cells1 hp1
  have q2 := cells5 hp2
  have q3 := cells13 hp3
  have hl3 := lt_of_block hp3
  have qf : w.frozen? ⟨p1, 0, none⟩ = false := by simp [World.frozen?, hp1]
  clear h hb hr hbl hsn hm hn hj hN
  by_cases h0 : n = 0
  · have HR2 : Hid (r = 6) := by unfold Hid; rw [HR.out, ← HN.out, if_pos h0]
    have h0I : ((n : Int) == 0) = true := by simp [h0]
    go_enter Tryd.func47, Tryd.ntmps47
    go_wp2_with fail
    go_ret
    exact ⟨by rw [HR2.out]; rfl, Below.refl _ _, fun _ _ _ => rfl, fun h => by rw [HR2.out] at h; cases h⟩
  have h0I : ((n : Int) == 0) = false := beq_eq_false_iff_ne.2 (by omega)
  obtain ⟨W, hW⟩ : ∃ W, W = w.setCell ⟨p1, 0, none⟩ (.int .i64 (wrap64 (m + (n : Int)))) := ⟨_, rfl⟩
  have hk : ∀ k, k ≠ p1 → W.heap[k]? = w.heap[k]? := fun k hk => by rw [hW]; exact Below.heap_setCell _ _ _ _ hk
  have hWs : W.heap.size = w.heap.size := by rw [hW]; simp [World.setCell]
  have hW1 : W.heap[p1]? = some (.cells #[.int .i64 (wrap64 (m + (n : Int)))] 3) := by rw [hW, heap_setCell_same hp1]; rfl
  have HW : Hid (Below p1 w W) := ⟨by rw [hW]; rfl, by rw [hW]; rfl, by rw [hW]; rfl, Nat.le_of_eq hWs.symm, fun k hk' => hk k (by omega)⟩
  have HKP : Hid (∀ k, k ≠ p1 → W.heap[k]? = w.heap[k]?) := hk
  have HW1 : Hid (_) := hW1
  have HWS : Hid (W = _) := hW
  clear hk hW1 hW hp1 hp2 hp3
  by_cases h6 : N < wrap64 (m + (n : Int))
  · have HR2 : Hid (r = 1) := by unfold Hid; rw [HR.out, ← HN.out, if_neg h0, if_pos h6]
    go_enter Tryd.func47, Tryd.ntmps47
    go_wp2_with fail
    go_ret
    rw [← HWS.out]
    exact ⟨by rw [HR2.out]; rfl, HW.out, fun k _ hk => HKP.out k hk, fun h => by rw [HR2.out] at h; cases h⟩
  have HR2 : Hid (r = firstNZ (atS fs c b) 0 b.length) := by unfold Hid; rw [HR.out, ← HN.out, if_neg h0, if_neg h6]
  go_enter Tryd.func47, Tryd.ntmps47
  go_wp2_with fail
  rw [← HWS.out]
  rw [HN.out]
  refine (block_any b c fs _ _ _ mp qc B N W (HH.out.belowN hB1 hm1 HW.out) ⟨_, _, rfl⟩ HBL.out (HBK.out.below (HW.out.mono hB1))).mono ?_
  rintro e w1 ⟨rfl, hb1⟩
  have HF : Hid (Below p1 w w1 ∧ (∀ k, k < w.heap.size → k ≠ p1 → w1.heap[k]? = w.heap[k]?) ∧ w1.heap[p1]? = some (.cells #[.int .i64 (wrap64 (m + (n : Int)))] 3)) :=
    ⟨HW.out.trans (hb1.mono (by omega)), fun k hk hne => (hb1.block k (by omega)).trans (HKP.out k hne), (hb1.block p1 (by omega)).trans HW1.out⟩
  rw [← HR2.out]
  clear hb1
  go_wp2_with fail
  go_ret
  exact ⟨rfl, HF.out.1, HF.out.2.1, fun _ => HF.out.2.2⟩

end Go.Proofs.YtbpbpihboenbeaaDoor
