/-
  A block; code.
-/
import Derived.Test.YtbpnfoihonehgadDoorIaI
import Derived.Test.YtbpnfoihonehgadDoorIaJ
namespace Go.Proofs.YtbpnfoihonehgadDoor
open Go.RowKit Go.Maps
set_option linter.unusedSimpArgs false
set_option linter.unusedVariables false

theorem heap_setCell_same {w : World} {b o : Nat} {c : Array Value} {T : TypeId} {f : Nat × Nat} (h : w.heap[b]? = some (.cells c T f)) (v : Value) :
    (w.setCell ⟨b, o, none⟩ v).heap[b]? = some (.cells (c.setIfInBounds o v) T f) := by
  simp [World.setCell, Array.getElem?_modify, h]

theorem cells1 {w : World} {x : Nat} {T : TypeId} {f : Nat × Nat} {c0 : Value} (h : w.heap[x]? = some (.cells #[c0] T f)) : w.cell? ⟨x, 0, none⟩ = some c0 := by simp [World.cell?, h]

/-- the block of a checker -/
def chkO (vf : Value) (mp : Nat) (c : Cod) (vb : Value) : Obj := .cells #[vf, .map (some mp), .string ⟨c.name.toArray⟩, .int .i64 c.params, .int .i64 c.results, .int .i64 c.vars, .int .i64 c.slots, vb] 62

set_option maxHeartbeats 4000000 in
set_option maxRecDepth 20000 in
theorem blockAt_any (i : Ins) (k : Nat) (b : List Ins) (c : Cod) (fs : List Cod) (vf vb vd va vt : Value) (abk : Option Addr) (cbk mp B p1 p2 : Nat) (w : World) (h : Ck w B mp vf fs) (hvb : ∃ a k, vb = .slice a c.blocks.length k) (hbl : c.blocks.length ≤ 2000)
    (hp1 : w.heap[p1]? = some (chkO vf mp c vb)) (hp2 : w.heap[p2]? = some (.cells #[.slice abk b.length cbk] 27)) (hi : b[k]? = some i) (hlen : b.length ≤ maxLen)
    (hd : Nums B w vd i.ds) (ha : Nums B w va i.ar) (ht : Nums B w vt i.to) (hs : i.s.length ≤ maxLen) :
    Calls Tryd.prog 39 #[.int .i64 (k : Int), insV i vd va vt, .pointer (some ⟨p1, 0, none⟩), .pointer (some ⟨p2, 0, none⟩)] w fun e w' => e = .returned (.int .i64 (atF fs c b k)) ∧ Below w.heap.size w w' := by
  have hB := h.le
  have HH : Hid (_) := h
  obtain ⟨a1, k1, rfl⟩ := Lies.slice h.cods
  obtain ⟨a2, k2, rfl⟩ := hvb
  obtain ⟨ad, kd, rfl⟩ := Lies.slice hd
  obtain ⟨a4, k4, rfl⟩ := Lies.slice ha
  obtain ⟨a5, k5, rfl⟩ := Lies.slice ht
  obtain ⟨r, hr⟩ : ∃ r, r = atF fs c b k := ⟨_, rfl⟩
  rw [← hr]
  unfold atF at hr
  rw [hi] at hr
  simp only at hr
  have HR : Hid (r = _) := hr
  have HD : Hid (Nums B w (.slice ad i.ds.length kd) i.ds) := hd
  have HA : Hid (Nums B w (.slice a4 i.ar.length k4) i.ar) := ha
  have HT : Hid (Nums B w (.slice a5 i.to.length k5) i.to) := ht
  have HS : Hid (_) := hs
  have HBL : Hid (_) := hbl
  have hkl : k < b.length := (List.getElem?_eq_some_iff.1 hi).1
  unfold chkO at hp1
  have hl1 := lt_of_block hp1
  have hl2 := lt_of_block hp2
  obtain ⟨n, hn⟩ : ∃ n, n = b.length := ⟨_, rfl⟩
  rw [← hn] at hkl hlen hp2 HR
  unfold maxLen at hlen
  have c1 := cells8 hp1
  have c2 := cells1 hp2
  have HP1 : Hid (_) := hp1
  have HP2 : Hid (_) := hp2
  obtain ⟨W, hW⟩ : ∃ W, W = w.alloc (Obj.cells #[Value.int IntKind.i64 i.op, Value.slice ad i.ds.length kd, Value.slice a4 i.ar.length k4, Value.int IntKind.i64 i.n, Value.string ⟨i.s.toArray⟩, Value.slice a5 i.to.length k5] 25) := ⟨_, rfl⟩
  have HW : Hid (Below w.heap.size w W) := by rw [hW]; exact below_alloc _ _
  have hWs : W.heap.size = w.heap.size + 1 := by rw [hW]; simp
  have HC2 : Hid (W.heap[w.heap.size]? = some (Obj.cells #[Value.int IntKind.i64 i.op, Value.slice ad i.ds.length kd, Value.slice a4 i.ar.length k4, Value.int IntKind.i64 i.n, Value.string ⟨i.s.toArray⟩, Value.slice a5 i.to.length k5] 25)) := by rw [hW]; exact heap_alloc_new w _
  have HWS : Hid (W = _) := hW
  clear h hd ha ht hs hbl hr hW hi hp1 hp2 hn
  unfold insV
  go_enter Tryd.func39, Tryd.ntmps39
  go_wp2_with fail
  rw [← HWS.out]
  clear c1 c2
  refine (instr_any i c fs _ _ _ _ _ mp B W (HH.out.below HW.out) ⟨_, _, rfl⟩ HBL.out (HD.out.below (HW.out.mono hB)) (HA.out.below (HW.out.mono hB)) (HT.out.below (HW.out.mono hB)) HS.out).mono ?_
  rintro e w1 ⟨rfl, hb1⟩
  have HB1 : Hid (Below w.heap.size w w1) := below_after HW.out hb1
  have hs1 := hb1.size
  have c2 := cells1 ((HB1.out.block _ hl2).trans HP2.out)
  have c3 := cells6 ((hb1.block _ (by omega)).trans HC2.out)
  clear hb1 HC2 HWS
  rcases h1 : (instrF fs c i != 0) with _ | _
  · have hN1 : (0 : Int) < (n : Int) := by omega
    go_wp2_with fail
    refine (ends_any i.op _).mono ?_
    rintro e w2 ⟨rfl, hw2⟩
    have hw2' := hw2.symm
    subst hw2'
    rcases e1 : endsB i.op with _ | _ <;> rcases e2 : ((k : Int) == (n : Int) - 1) with _ | _
    · have HR2 : Hid (r = 0) := by unfold Hid; rw [HR.out, h1, e1, e2]; rfl
      go_wp2_with fail
      go_ret
      exact ⟨by rw [HR2.out]; rfl, HB1.out⟩
    · have HR2 : Hid (r = 4) := by unfold Hid; rw [HR.out, h1, e1, e2]; rfl
      go_wp2_with fail
      go_ret
      exact ⟨by rw [HR2.out]; rfl, HB1.out⟩
    · have HR2 : Hid (r = 4) := by unfold Hid; rw [HR.out, h1, e1, e2]; rfl
      go_wp2_with fail
      go_ret
      exact ⟨by rw [HR2.out]; rfl, HB1.out⟩
    · have HR2 : Hid (r = 0) := by unfold Hid; rw [HR.out, h1, e1, e2]; rfl
      go_wp2_with fail
      go_ret
      exact ⟨by rw [HR2.out]; rfl, HB1.out⟩
  · have HR2 : Hid (r = instrF fs c i) := by unfold Hid; rw [HR.out, h1]; rfl
    go_wp2_with fail
    go_ret
    exact ⟨by rw [HR2.out]; rfl, HB1.out⟩

set_option maxHeartbeats 4000000 in
set_option maxRecDepth 20000 in
theorem block_any (b : List Ins) (c : Cod) (fs : List Cod) (vf vb v : Value) (mp B : Nat) (w : World) (h : Ck w B mp vf fs) (hvb : ∃ a k, vb = .slice a c.blocks.length k) (hbl : c.blocks.length ≤ 2000) (hb : Blk B w v b) :
    Calls Tryd.prog 24 #[chkV vf mp c vb, v] w fun e w' => e = .returned (.int .i64 (firstNZ (atF fs c b) 0 b.length)) ∧ Below w.heap.size w w' := by
  have hB := h.le
  have HH : Hid (_) := h
  have hlen := hb.len
  obtain ⟨a1, k1, rfl⟩ := Lies.slice h.cods
  obtain ⟨a2, k2, rfl⟩ := hvb
  obtain ⟨a3, k3, rfl⟩ := Lies.slice hb
  obtain ⟨r, hr⟩ : ∃ r, r = firstNZ (atF fs c b) 0 b.length := ⟨_, rfl⟩
  rw [← hr]
  have HR : Hid (r = _) := hr
  have HBK : Hid (Blk B w (.slice a3 b.length k3) b) := hb
  have HLEN : Hid (_) := hlen
  have HBL : Hid (_) := hbl
  obtain ⟨W, hW⟩ : ∃ W, W = (w.alloc (chkO (.slice a1 fs.length k1) mp c (.slice a2 c.blocks.length k2))).alloc (Obj.cells #[.slice a3 b.length k3] 27) := ⟨_, rfl⟩
  have HW : Hid (Below w.heap.size w W) := by rw [hW]; exact below_after (below_alloc _ _) (below_alloc _ _)
  have hWs : W.heap.size = w.heap.size + 2 := by rw [hW]; simp
  have HC1 : Hid (W.heap[w.heap.size]? = some (chkO (.slice a1 fs.length k1) mp c (.slice a2 c.blocks.length k2))) := by rw [hW]; exact (heap_alloc2 w _ _).1
  have HC2 : Hid (W.heap[w.heap.size + 1]? = some (Obj.cells #[.slice a3 b.length k3] 27)) := by rw [hW]; exact (heap_alloc2 w _ _).2
  have HWS : Hid (W = _) := hW
  clear h hb hr hW hlen hbl
  unfold chkV
  unfold chkO at HWS
  go_enter Tryd.func24, Tryd.ntmps24
  go_wp2_with fail
  rw [← HWS.out]
  refine (eachI_any W B w.heap.size (w.heap.size + 1) _ b (atF fs c b) (fun _ w1 => Below W.heap.size W w1) (fun w1 => Below W.heap.size W w1) (HBK.out.below (HW.out.mono hB)) (by omega) (Below.refl _ _) (fun _ w1 w2 h1 h2 => below_after h1 h2) (fun _ w1 h1 => h1.mono (by omega)) (fun _ w1 h1 => h1) ?_).mono ?_
  · intro j x w1 vd va vt hx hb1 hd ha ht hs
    refine (blockAt_any x j b c fs _ _ vd va vt a3 k3 mp B _ _ w1 ((HH.out.below HW.out).below hb1) ⟨_, _, rfl⟩ HBL.out ((hb1.block _ (by omega)).trans HC1.out) ((hb1.block _ (by omega)).trans HC2.out) hx HLEN.out hd ha ht hs).mono ?_
    rintro e w2 ⟨he, hb2⟩
    exact ⟨he, fun _ => below_after hb1 hb2, below_after hb1 hb2⟩
  · rintro e w2 ⟨rfl, hb2⟩
    have HB2 : Hid (Below w.heap.size w w2) := below_after HW.out hb2
    rw [← HR.out]
    clear hb2
    go_wp2_with fail
    go_ret
    exact ⟨rfl, HB2.out⟩

set_option maxHeartbeats 4000000 in
set_option maxRecDepth 20000 in
theorem codeAt_any (b : List Ins) (j : Nat) (c : Cod) (fs : List Cod) (vf vb v : Value) (mp B p1 p2 : Nat) (w : World) (h : Ck w B mp vf fs) (hvb : ∃ a k, vb = .slice a c.blocks.length k) (hbl : c.blocks.length ≤ 2000) (hb : Blk B w v b) (hj : c.blocks[j]? = some b)
    (hB1 : B ≤ p1) (hm1 : mp < p1) (hp1 : w.heap[p1]? = some (.cells #[.int .i64 (accW c.blocks j)] 3)) (hp2 : w.heap[p2]? = some (chkO vf mp c vb)) (hne : p2 ≠ p1) :
    Calls Tryd.prog 23 #[.int .i64 (j : Int), v, .pointer (some ⟨p1, 0, none⟩), .pointer (some ⟨p2, 0, none⟩)] w fun e w' => e = .returned (.int .i64 (blockF fs c j)) ∧ Below p1 w w' ∧ (∀ k, k < w.heap.size → k ≠ p1 → w'.heap[k]? = w.heap[k]?) ∧ (blockF fs c j = 0 → w'.heap[p1]? = some (.cells #[.int .i64 (accW c.blocks (j + 1))] 3)) := by
  have hB := h.le
  have HH : Hid (_) := h
  have hlen := hb.len
  unfold maxLen at hlen
  obtain ⟨a1, k1, rfl⟩ := Lies.slice h.cods
  obtain ⟨a2, k2, rfl⟩ := hvb
  obtain ⟨a3, k3, rfl⟩ := Lies.slice hb
  have hsn := accW_succ c.blocks j b hj
  obtain ⟨r, hr⟩ : ∃ r, r = blockF fs c j := ⟨_, rfl⟩
  rw [← hr]
  unfold blockF at hr
  rw [hj] at hr
  simp only at hr
  rw [hsn] at hr ⊢
  obtain ⟨m, hm⟩ : ∃ m, m = accW c.blocks j := ⟨_, rfl⟩
  rw [← hm] at hr hp1 ⊢
  have HR : Hid (r = _) := hr
  have HBK : Hid (Blk B w (.slice a3 b.length k3) b) := hb
  have HBL : Hid (_) := hbl
  obtain ⟨n, hn⟩ : ∃ n, n = b.length := ⟨_, rfl⟩
  rw [← hn] at hlen ⊢
  have HN : Hid (_) := hn
  unfold chkO at hp2
  have hl1 := lt_of_block hp1
  have hl2 := lt_of_block hp2
  have HP1 : Hid (_) := hp1
  have HP2 : Hid (_) := hp2
  have q1 := cells1 hp1
  have q2 := cells8 hp2
  have qf : w.frozen? ⟨p1, 0, none⟩ = false := by simp [World.frozen?, hp1]
  clear h hb hr hbl hsn hm hn hj
  by_cases h0 : n = 0
  · have HR2 : Hid (r = 6) := by unfold Hid; rw [HR.out, ← HN.out, if_pos h0]
    have h0I : ((n : Int) == 0) = true := by simp [h0]
    go_enter Tryd.func23, Tryd.ntmps23
    go_wp2_with fail
    go_ret
    exact ⟨by rw [HR2.out]; rfl, Below.refl _ _, fun _ _ _ => rfl, fun h => by rw [HR2.out] at h; cases h⟩
  have h0I : ((n : Int) == 0) = false := beq_eq_false_iff_ne.2 (by omega)
  obtain ⟨W, hW⟩ : ∃ W, W = w.setCell ⟨p1, 0, none⟩ (.int .i64 (wrap64 (m + (n : Int)))) := ⟨_, rfl⟩
  have hk : ∀ k, k ≠ p1 → W.heap[k]? = w.heap[k]? := fun k hk => by rw [hW]; exact Below.heap_setCell _ _ _ _ hk
  have hWs : W.heap.size = w.heap.size := by rw [hW]; simp [World.setCell]
  have hW1 : W.heap[p1]? = some (.cells #[.int .i64 (wrap64 (m + (n : Int)))] 3) := by rw [hW, heap_setCell_same hp1]; rfl
  have HW : Hid (Below p1 w W) := ⟨by rw [hW]; rfl, by rw [hW]; rfl, by rw [hW]; rfl, Nat.le_of_eq hWs.symm, fun k hk' => hk k (by omega)⟩
  have HKP : Hid (∀ k, k ≠ p1 → W.heap[k]? = w.heap[k]?) := hk
  have HW1 : Hid (_) := hW1
  have HWS : Hid (W = _) := hW
  clear hk hW1 hW hp1 hp2
  by_cases h6 : 6000 < wrap64 (m + (n : Int))
  · have HR2 : Hid (r = 1) := by unfold Hid; rw [HR.out, ← HN.out, if_neg h0, if_pos h6]
    go_enter Tryd.func23, Tryd.ntmps23
    go_wp2_with fail
    go_ret
    rw [← HWS.out]
    exact ⟨by rw [HR2.out]; rfl, HW.out, fun k _ hk => HKP.out k hk, fun h => by rw [HR2.out] at h; cases h⟩
  have HR2 : Hid (r = firstNZ (atF fs c b) 0 b.length) := by unfold Hid; rw [HR.out, ← HN.out, if_neg h0, if_neg h6]
  go_enter Tryd.func23, Tryd.ntmps23
  go_wp2_with fail
  rw [← HWS.out]
  rw [HN.out]
  refine (block_any b c fs _ _ _ mp B W (HH.out.belowN hB1 hm1 HW.out) ⟨_, _, rfl⟩ HBL.out (HBK.out.below (HW.out.mono hB1))).mono ?_
  rintro e w1 ⟨rfl, hb1⟩
  have HF : Hid (Below p1 w w1 ∧ (∀ k, k < w.heap.size → k ≠ p1 → w1.heap[k]? = w.heap[k]?) ∧ w1.heap[p1]? = some (.cells #[.int .i64 (wrap64 (m + (n : Int)))] 3)) :=
    ⟨HW.out.trans (hb1.mono (by omega)), fun k hk hne => (hb1.block k (by omega)).trans (HKP.out k hne), (hb1.block p1 (by omega)).trans HW1.out⟩
  rw [← HR2.out]
  clear hb1
  go_wp2_with fail
  go_ret
  exact ⟨rfl, HF.out.1, HF.out.2.1, fun _ => HF.out.2.2⟩

end Go.Proofs.YtbpnfoihonehgadDoor
