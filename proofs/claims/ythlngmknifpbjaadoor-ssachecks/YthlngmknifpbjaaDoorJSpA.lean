/-
  Package ir's look at code is what the statement's is.
-/
import Derived.Test.YthlngmknifpbjaaDoorJSoI
import Derived.Test.YthlngmknifpbjaaDoorJSoJ2
namespace Go.Proofs.YthlngmknifpbjaaDoor
section
open Go.RowKit Go.Maps
set_option linter.unusedSimpArgs false
set_option linter.unusedVariables false


theorem cells1 {w : World} {x : Nat} {T : TypeId} {f : Nat × Nat} {c0 : Value} (h : w.heap[x]? = some (.cells #[c0] T f)) : w.cell? ⟨x, 0, none⟩ = some c0 := by simp [World.cell?, h]

def atS (fs : List Cod) (c : Cod) (b : List Ins) (k : Nat) : Int := match b[k]? with
  | none => 0
  | some i => if instrS fs c i != 0 then instrS fs c i else if endsB i.op != ((k : Int) == (b.length : Int) - 1) then 4 else 0
def blockS (fs : List Cod) (c : Cod) (k : Nat) : Int := match c.blocks[k]? with
  | none => 0
  | some b => if b.length = 0 then 6 else if mostN < accW c.blocks (k + 1) then 1 else firstNZ (atS fs c b) 0 b.length
def codeS (fs : List Cod) (c : Cod) : Int := if headS c != 0 then headS c else firstNZ (blockS fs c) 0 c.blocks.length

/-- the block of a checker -/
def chkO (qc : Nat) (N : Int) (vf : Value) (mp : Nat) (c : Cod) (vb : Value) : Obj := .cells #[.func (.func 37) #[] #[], .func (.func 38) #[] #[], .func (.func 39) #[] #[], .func (.func 40) #[] #[], .int .i64 N, vf, .map (some mp), .string ⟨c.name.toArray⟩, .int .i64 c.params, .int .i64 c.results, .int .i64 c.vars, .int .i64 c.slots, vb] 95
/-- the block of the rules -/
def rulO (qc : Nat) (N : Int) : Obj := .cells #[.func (.func 37) #[] #[], .func (.func 38) #[] #[], .func (.func 39) #[] #[], .func (.func 40) #[] #[], .int .i64 N] 59

set_option maxHeartbeats 4000000 in
set_option maxRecDepth 20000 in
theorem blockAt_any (i : Ins) (k : Nat) (b : List Ins) (c : Cod) (fs : List Cod) (vf vb vd va vt : Value) (abk : Option Addr) (cbk mp qc B p1 p2 : Nat) (N : Int) (w : World) (h : Ck w B mp qc vf fs) (hvb : ∃ a k, vb = .slice a c.blocks.length k) (hbl : c.blocks.length ≤ 2000)
    (hp1 : w.heap[p1]? = some (chkO qc N vf mp c vb)) (hp2 : w.heap[p2]? = some (.cells #[.slice abk b.length cbk] 32)) (hi : b[k]? = some i) (hlen : b.length ≤ maxLen)
    (hd : Nums B w vd i.ds) (ha : Nums B w va i.ar) (ht : Nums B w vt i.to) (hs : i.s.length ≤ maxLen) :
    Calls Tryd.prog 62 #[.int .i64 (k : Int), insV i vd va vt, .pointer (some ⟨p1, 0, none⟩), .pointer (some ⟨p2, 0, none⟩)] w fun e w' => e = .returned (.int .i64 (atS fs c b k)) ∧ Below w.heap.size w w' := by
  have hB := h.le
  have HH : Hid (_) := h
  obtain ⟨a1, k1, rfl⟩ := Lies.slice h.cods
  obtain ⟨a2, k2, rfl⟩ := hvb
  obtain ⟨ad, kd, rfl⟩ := Lies.slice hd
  obtain ⟨a4, k4, rfl⟩ := Lies.slice ha
  obtain ⟨a5, k5, rfl⟩ := Lies.slice ht
  obtain ⟨r, hr⟩ : ∃ r, r = atS fs c b k := ⟨_, rfl⟩
  rw [← hr]
  unfold atS at hr
  rw [hi] at hr
  simp only at hr
  have HR : Hid (r = _) := hr
  have HD : Hid (Nums B w (.slice ad i.ds.length kd) i.ds) := hd
  have HA : Hid (Nums B w (.slice a4 i.ar.length k4) i.ar) := ha
  have HT : Hid (Nums B w (.slice a5 i.to.length k5) i.to) := ht
  have HS : Hid (_) := hs
  have HBL : Hid (_) := hbl
  have hkl : k < b.length := (List.getElem?_eq_some_iff.1 hi).1
  unfold chkO at hp1
  have hl1 := lt_of_block hp1
  have hl2 := lt_of_block hp2
  obtain ⟨n, hn⟩ : ∃ n, n = b.length := ⟨_, rfl⟩
  rw [← hn] at hkl hlen hp2 HR
  unfold maxLen at hlen
  have c1 := cells13 hp1
  have c2 := cells1 hp2
  have HP1 : Hid (_) := hp1
  have HP2 : Hid (_) := hp2
  obtain ⟨W, hW⟩ : ∃ W, W = w.alloc (Obj.cells #[Value.int IntKind.i64 i.op, Value.slice ad i.ds.length kd, Value.slice a4 i.ar.length k4, Value.int IntKind.i64 i.n, Value.string ⟨i.s.toArray⟩, Value.slice a5 i.to.length k5] 37) := ⟨_, rfl⟩
  have HW : Hid (Below w.heap.size w W) := by rw [hW]; exact below_alloc _ _
  have hWs : W.heap.size = w.heap.size + 1 := by rw [hW]; simp
  have HC2 : Hid (W.heap[w.heap.size]? = some (Obj.cells #[Value.int IntKind.i64 i.op, Value.slice ad i.ds.length kd, Value.slice a4 i.ar.length k4, Value.int IntKind.i64 i.n, Value.string ⟨i.s.toArray⟩, Value.slice a5 i.to.length k5] 37)) := by rw [hW]; exact heap_alloc_new w _
  have HWS : Hid (W = _) := hW
  clear h hd ha ht hs hbl hr hW hi hp1 hp2 hn
  unfold insV
  go_enter Tryd.func62, Tryd.ntmps62
  go_wp2_with fail
  rw [← HWS.out]
  clear c1 c2
  refine (instr_any i c fs _ _ _ _ _ mp qc B N W (HH.out.below HW.out) ⟨_, _, rfl⟩ HBL.out (HD.out.below (HW.out.mono hB)) (HA.out.below (HW.out.mono hB)) (HT.out.below (HW.out.mono hB)) HS.out).mono ?_
  rintro e w1 ⟨rfl, hb1⟩
  have HB1 : Hid (Below w.heap.size w w1) := below_after HW.out hb1
  have hs1 := hb1.size
  have c2 := cells1 ((HB1.out.block _ hl2).trans HP2.out)
  have c3 := cells6 ((hb1.block _ (by omega)).trans HC2.out)
  clear hb1 HC2 HWS
  rcases h1 : (instrS fs c i != 0) with _ | _
  · have hN1 : (0 : Int) < (n : Int) := by omega
    go_wp2_with fail
    refine (ends_any i.op _).mono ?_
    rintro e w2 ⟨rfl, hw2⟩
    have hw2' := hw2.symm
    subst hw2'
    rcases e1 : endsB i.op with _ | _ <;> rcases e2 : ((k : Int) == (n : Int) - 1) with _ | _
    · have HR2 : Hid (r = 0) := by unfold Hid; rw [HR.out, h1, e1, e2]; rfl
      go_wp2_with fail
      go_ret
      exact ⟨by rw [HR2.out]; rfl, HB1.out⟩
    · have HR2 : Hid (r = 4) := by unfold Hid; rw [HR.out, h1, e1, e2]; rfl
      go_wp2_with fail
      go_ret
      exact ⟨by rw [HR2.out]; rfl, HB1.out⟩
    · have HR2 : Hid (r = 4) := by unfold Hid; rw [HR.out, h1, e1, e2]; rfl
      go_wp2_with fail
      go_ret
      exact ⟨by rw [HR2.out]; rfl, HB1.out⟩
    · have HR2 : Hid (r = 0) := by unfold Hid; rw [HR.out, h1, e1, e2]; rfl
      go_wp2_with fail
      go_ret
      exact ⟨by rw [HR2.out]; rfl, HB1.out⟩
  · have HR2 : Hid (r = instrS fs c i) := by unfold Hid; rw [HR.out, h1]; rfl
    go_wp2_with fail
    go_ret
    exact ⟨by rw [HR2.out]; rfl, HB1.out⟩

set_option maxHeartbeats 4000000 in
set_option maxRecDepth 20000 in
theorem block_any (b : List Ins) (c : Cod) (fs : List Cod) (vf vb v : Value) (mp qc B : Nat) (N : Int) (w : World) (h : Ck w B mp qc vf fs) (hvb : ∃ a k, vb = .slice a c.blocks.length k) (hbl : c.blocks.length ≤ 2000) (hb : Blk B w v b) :
    Calls Tryd.prog 57 #[chkV 37 38 39 40 #[] N vf mp c vb, v] w fun e w' => e = .returned (.int .i64 (firstNZ (atS fs c b) 0 b.length)) ∧ Below w.heap.size w w' := by
  have hB := h.le
  have HH : Hid (_) := h
  have hlen := hb.len
  obtain ⟨a1, k1, rfl⟩ := Lies.slice h.cods
  obtain ⟨a2, k2, rfl⟩ := hvb
  obtain ⟨a3, k3, rfl⟩ := Lies.slice hb
  obtain ⟨r, hr⟩ : ∃ r, r = firstNZ (atS fs c b) 0 b.length := ⟨_, rfl⟩
  rw [← hr]
  have HR : Hid (r = _) := hr
  have HBK : Hid (Blk B w (.slice a3 b.length k3) b) := hb
  have HLEN : Hid (_) := hlen
  have HBL : Hid (_) := hbl
  obtain ⟨W, hW⟩ : ∃ W, W = (w.alloc (chkO qc N (.slice a1 fs.length k1) mp c (.slice a2 c.blocks.length k2))).alloc (Obj.cells #[.slice a3 b.length k3] 32) := ⟨_, rfl⟩
  have HW : Hid (Below w.heap.size w W) := by rw [hW]; exact below_after (below_alloc _ _) (below_alloc _ _)
  have hWs : W.heap.size = w.heap.size + 2 := by rw [hW]; simp
  have HC1 : Hid (W.heap[w.heap.size]? = some (chkO qc N (.slice a1 fs.length k1) mp c (.slice a2 c.blocks.length k2))) := by rw [hW]; exact (heap_alloc2 w _ _).1
  have HC2 : Hid (W.heap[w.heap.size + 1]? = some (Obj.cells #[.slice a3 b.length k3] 32)) := by rw [hW]; exact (heap_alloc2 w _ _).2
  have HWS : Hid (W = _) := hW
  clear h hb hr hW hlen hbl
  unfold chkV
  unfold chkO at HWS
  go_enter Tryd.func57, Tryd.ntmps57
  go_wp2_with fail
  rw [← HWS.out]
  refine (eachI_any W B w.heap.size (w.heap.size + 1) _ b (atS fs c b) (fun _ w1 => Below W.heap.size W w1) (fun w1 => Below W.heap.size W w1) (HBK.out.below (HW.out.mono hB)) (by omega) (Below.refl _ _) (fun _ w1 w2 h1 h2 => below_after h1 h2) (fun _ w1 h1 => h1.mono (by omega)) (fun _ w1 h1 => h1) ?_).mono ?_
  · intro j x w1 vd va vt hx hb1 hd ha ht hs
    refine (blockAt_any x j b c fs _ _ vd va vt a3 k3 mp qc B _ _ N w1 ((HH.out.below HW.out).below hb1) ⟨_, _, rfl⟩ HBL.out ((hb1.block _ (by omega)).trans HC1.out) ((hb1.block _ (by omega)).trans HC2.out) hx HLEN.out hd ha ht hs).mono ?_
    rintro e w2 ⟨he, hb2⟩
    exact ⟨he, fun _ => below_after hb1 hb2, below_after hb1 hb2⟩
  · rintro e w2 ⟨rfl, hb2⟩
    have HB2 : Hid (Below w.heap.size w w2) := below_after HW.out hb2
    rw [← HR.out]
    clear hb2
    go_wp2_with fail
    go_ret
    exact ⟨rfl, HB2.out⟩
end

section
open Go.RowKit Go.Maps
set_option linter.unusedSimpArgs false
set_option linter.unusedVariables false

set_option maxHeartbeats 4000000 in
set_option maxRecDepth 20000 in
theorem codeAt_any (b : List Ins) (j : Nat) (c : Cod) (fs : List Cod) (vf vb v : Value) (mp qc B p1 p2 p3 : Nat) (N : Int) (w : World) (h : Ck w B mp qc vf fs) (hvb : ∃ a k, vb = .slice a c.blocks.length k) (hbl : c.blocks.length ≤ 2000) (hb : Blk B w v b) (hj : c.blocks[j]? = some b)
    (hB1 : B ≤ p1) (hm1 : mp < p1) (hp1 : w.heap[p1]? = some (.cells #[.int .i64 (accW c.blocks j)] 3)) (hp2 : w.heap[p2]? = some (rulO qc N)) (hp3 : w.heap[p3]? = some (chkO qc N vf mp c vb)) (hne : p2 ≠ p1) (hne3 : p3 ≠ p1) (hN : N = mostN) :
    Calls Tryd.prog 56 #[.int .i64 (j : Int), v, .pointer (some ⟨p1, 0, none⟩), .pointer (some ⟨p2, 0, none⟩), .pointer (some ⟨p3, 0, none⟩)] w fun e w' => e = .returned (.int .i64 (blockS fs c j)) ∧ Below p1 w w' ∧ (∀ k, k < w.heap.size → k ≠ p1 → w'.heap[k]? = w.heap[k]?) ∧ (blockS fs c j = 0 → w'.heap[p1]? = some (.cells #[.int .i64 (accW c.blocks (j + 1))] 3)) := by
  have hB := h.le
  have HH : Hid (_) := h
  have hlen := hb.len
  unfold maxLen at hlen
  obtain ⟨a1, k1, rfl⟩ := Lies.slice h.cods
  obtain ⟨a2, k2, rfl⟩ := hvb
  obtain ⟨a3, k3, rfl⟩ := Lies.slice hb
  have hsn := accW_succ c.blocks j b hj
  obtain ⟨r, hr⟩ : ∃ r, r = blockS fs c j := ⟨_, rfl⟩
  rw [← hr]
  unfold blockS at hr
  rw [hj] at hr
  simp only at hr
  rw [hsn] at hr ⊢
  obtain ⟨m, hm⟩ : ∃ m, m = accW c.blocks j := ⟨_, rfl⟩
  rw [← hm] at hr hp1 ⊢
  rw [← hN] at hr
  have HR : Hid (r = _) := hr
  have HBK : Hid (Blk B w (.slice a3 b.length k3) b) := hb
  have HBL : Hid (_) := hbl
  obtain ⟨n, hn⟩ : ∃ n, n = b.length := ⟨_, rfl⟩
  rw [← hn] at hlen ⊢
  have HN : Hid (_) := hn
  unfold rulO at hp2
  unfold chkO at hp3
  have HNN : Hid (N = mostN) := hN
  have hl1 := lt_of_block hp1
  have hl2 := lt_of_block hp2
  have HP1 : Hid (_) := hp1
  have HP2 : Hid (_) := hp2
  have q1 := cells1 hp1
  have q2 := cells5 hp2
  have q3 := cells13 hp3
  have hl3 := lt_of_block hp3
  have qf : w.frozen? ⟨p1, 0, none⟩ = false := by simp [World.frozen?, hp1]
  clear h hb hr hbl hsn hm hn hj hN
  by_cases h0 : n = 0
  · have HR2 : Hid (r = 6) := by unfold Hid; rw [HR.out, ← HN.out, if_pos h0]
    have h0I : ((n : Int) == 0) = true := by simp [h0]
    go_enter Tryd.func56, Tryd.ntmps56
    go_wp2_with fail
    go_ret
    exact ⟨by rw [HR2.out]; rfl, Below.refl _ _, fun _ _ _ => rfl, fun h => by rw [HR2.out] at h; cases h⟩
  have h0I : ((n : Int) == 0) = false := beq_eq_false_iff_ne.2 (by omega)
  obtain ⟨W, hW⟩ : ∃ W, W = w.setCell ⟨p1, 0, none⟩ (.int .i64 (wrap64 (m + (n : Int)))) := ⟨_, rfl⟩
  have hk : ∀ k, k ≠ p1 → W.heap[k]? = w.heap[k]? := fun k hk => by rw [hW]; exact Below.heap_setCell _ _ _ _ hk
  have hWs : W.heap.size = w.heap.size := by rw [hW]; simp [World.setCell]
  have hW1 : W.heap[p1]? = some (.cells #[.int .i64 (wrap64 (m + (n : Int)))] 3) := by rw [hW, heap_setCell_same hp1]; rfl
  have HW : Hid (Below p1 w W) := ⟨by rw [hW]; rfl, by rw [hW]; rfl, by rw [hW]; rfl, Nat.le_of_eq hWs.symm, fun k hk' => hk k (by omega)⟩
  have HKP : Hid (∀ k, k ≠ p1 → W.heap[k]? = w.heap[k]?) := hk
  have HW1 : Hid (_) := hW1
  have HWS : Hid (W = _) := hW
  clear hk hW1 hW hp1 hp2 hp3
  by_cases h6 : N < wrap64 (m + (n : Int))
  · have HR2 : Hid (r = 1) := by unfold Hid; rw [HR.out, ← HN.out, if_neg h0, if_pos h6]
    go_enter Tryd.func56, Tryd.ntmps56
    go_wp2_with fail
    go_ret
    rw [← HWS.out]
    exact ⟨by rw [HR2.out]; rfl, HW.out, fun k _ hk => HKP.out k hk, fun h => by rw [HR2.out] at h; cases h⟩
  have HR2 : Hid (r = firstNZ (atS fs c b) 0 b.length) := by unfold Hid; rw [HR.out, ← HN.out, if_neg h0, if_neg h6]
  go_enter Tryd.func56, Tryd.ntmps56
  go_wp2_with fail
  rw [← HWS.out]
  rw [HN.out]
  refine (block_any b c fs _ _ _ mp qc B N W (HH.out.belowN hB1 hm1 HW.out) ⟨_, _, rfl⟩ HBL.out (HBK.out.below (HW.out.mono hB1))).mono ?_
  rintro e w1 ⟨rfl, hb1⟩
  have HF : Hid (Below p1 w w1 ∧ (∀ k, k < w.heap.size → k ≠ p1 → w1.heap[k]? = w.heap[k]?) ∧ w1.heap[p1]? = some (.cells #[.int .i64 (wrap64 (m + (n : Int)))] 3)) :=
    ⟨HW.out.trans (hb1.mono (by omega)), fun k hk hne => (hb1.block k (by omega)).trans (HKP.out k hne), (hb1.block p1 (by omega)).trans HW1.out⟩
  rw [← HR2.out]
  clear hb1
  go_wp2_with fail
  go_ret
  exact ⟨rfl, HF.out.1, HF.out.2.1, fun _ => HF.out.2.2⟩
end

section
open Go.RowKit Go.Maps
set_option linter.unusedSimpArgs false
set_option linter.unusedVariables false

theorem SoLalloc3 (w : World) (o1 o2 o3 : Obj) : (((w.alloc o1).alloc o2).alloc o3).heap[w.heap.size]? = some o1 ∧ (((w.alloc o1).alloc o2).alloc o3).heap[w.heap.size + 1]? = some o2 ∧ (((w.alloc o1).alloc o2).alloc o3).heap[w.heap.size + 2]? = some o3 := by
  refine ⟨blk_alloc (heap_alloc2 w o1 o2).1 o3, blk_alloc (heap_alloc2 w o1 o2).2 o3, ?_⟩
  have := heap_alloc_new ((w.alloc o1).alloc o2) o3
  simpa using this

/-- what the look at blocks keeps: p1: how many instructions there were; p2: the rules; p3: the checker -/
structure Blkd (V : World) (B mp qc p1 p2 p3 : Nat) (N : Int) (vf : Value) (fs : List Cod) (c : Cod) (vb : Value) (M : Nat) (j : Nat) (w : World) : Prop where
  ck : Ck w B mp qc vf fs
  c1 : w.heap[p1]? = some (.cells #[.int .i64 (accW c.blocks j)] 3)
  c2 : w.heap[p2]? = some (rulO qc N)
  c3 : w.heap[p3]? = some (chkO qc N vf mp c vb)
  bel : Below M V w

set_option maxHeartbeats 4000000 in
set_option maxRecDepth 20000 in
theorem code_any (c : Cod) (fs : List Cod) (vf vd vb : Value) (mp qc B : Nat) (N : Int) (w : World) (h : Ck w B mp qc vf fs) (hvd : ∃ a n k, vd = .slice a n k) (hb : Blks B w vb c.blocks) (hN : N = mostN) :
    Calls Tryd.prog 42 #[rulV qc N, prgV vf vd, .map (some mp), codV c vb] w fun e w' => e = .returned (.int .i64 (codeS fs c)) ∧ Below w.heap.size w w' := by
  have hB := h.le
  have hml := h.pl.lt
  have HH : Hid (_) := h
  have hlen := hb.len
  have HN : Hid (N = mostN) := hN
  obtain ⟨a1, k1, rfl⟩ := Lies.slice h.cods
  obtain ⟨a2, n2, k2, rfl⟩ := hvd
  obtain ⟨a3, k3, rfl⟩ := Lies.slice hb
  obtain ⟨r, hr⟩ : ∃ r, r = codeS fs c := ⟨_, rfl⟩
  rw [← hr]
  have HR : Hid (r = _) := hr
  have HBK : Hid (Blks B w (.slice a3 c.blocks.length k3) c.blocks) := hb
  have HLEN : Hid (_) := hlen
  obtain ⟨W, hW⟩ : ∃ W, W = ((w.alloc (rulO qc N)).alloc (.cells #[.slice a1 fs.length k1, .slice a2 n2 k2] 25)).alloc (.cells #[.string ⟨c.name.toArray⟩, .int .i64 c.params, .int .i64 c.results, .int .i64 c.vars, .int .i64 c.slots, .slice a3 c.blocks.length k3] 28) := ⟨_, rfl⟩
  have HW : Hid (Below w.heap.size w W) := by rw [hW]; exact below_after (below_after (below_alloc _ _) (below_alloc _ _)) (below_alloc _ _)
  have hWs : W.heap.size = w.heap.size + 3 := by rw [hW]; simp
  have HC0 : Hid (W.heap[w.heap.size]? = some (rulO qc N)) := by rw [hW]; exact (SoLalloc3 w _ _ _).1
  have HC1 : Hid (W.heap[w.heap.size + 1]? = some (.cells #[.slice a1 fs.length k1, .slice a2 n2 k2] 25)) := by rw [hW]; exact (SoLalloc3 w _ _ _).2.1
  have HC2 : Hid (W.heap[w.heap.size + 2]? = some (.cells #[.string ⟨c.name.toArray⟩, .int .i64 c.params, .int .i64 c.results, .int .i64 c.vars, .int .i64 c.slots, .slice a3 c.blocks.length k3] 28)) := by rw [hW]; exact (SoLalloc3 w _ _ _).2.2
  have HWS : Hid (W = _) := hW
  clear h hb hr hW hlen hN
  unfold rulO at HWS
  unfold prgV codV rulV
  go_enter Tryd.func42, Tryd.ntmps42
  go_wp2_with fail
  rw [← HWS.out]
  refine (head_any c _ _ qc N W HLEN.out).mono ?_
  rintro e w1 ⟨rfl, hb1⟩
  have HB1 : Hid (Below w.heap.size w w1) := below_after HW.out hb1
  have hs1 := hb1.size
  have HK0 : Hid (w1.heap[w.heap.size]? = _) := (hb1.block _ (by omega)).trans HC0.out
  have HK1 : Hid (w1.heap[w.heap.size + 1]? = _) := (hb1.block _ (by omega)).trans HC1.out
  have HK2 : Hid (w1.heap[w.heap.size + 2]? = _) := (hb1.block _ (by omega)).trans HC2.out
  have p0 := cells5 HK0.out
  have p1 := cells2 HK1.out
  have p2 := cells6 HK2.out
  clear hb1 HC0 HC1 HC2 HWS
  rcases h1 : (headS c != 0) with _ | _
  · have HR2 : Hid (r = firstNZ (blockS fs c) 0 c.blocks.length) := by unfold Hid; rw [HR.out, codeS, h1]; rfl
    have hh0 : headS c = 0 := by simpa using h1
    have HBL : Hid (c.blocks.length ≤ 2000) := by
      unfold Hid
      unfold headS at hh0
      by_cases z0 : c.blocks.length = 0
      · omega
      · rw [if_neg z0] at hh0
        by_cases z1 : (decide (2000 < c.blocks.length) || (decide (16 < c.params) || (decide (16 < c.results) || bigS c))) = true
        · rw [if_pos z1] at hh0; cases hh0
        · simp at z1; omega
    clear hh0
    obtain ⟨V, hV⟩ : ∃ V, V = (w1.alloc (chkO qc N (.slice a1 fs.length k1) mp c (.slice a3 c.blocks.length k3))).alloc (.cells #[.int .i64 0] 3) := ⟨_, rfl⟩
    have HV : Hid (Below w1.heap.size w1 V) := by rw [hV]; exact below_after (below_alloc _ _) (below_alloc _ _)
    have hVs : V.heap.size = w1.heap.size + 2 := by rw [hV]; simp
    have HD0 : Hid (V.heap[w.heap.size]? = some (rulO qc N)) := (HV.out.block _ (by omega)).trans HK0.out
    have HD1 : Hid (V.heap[w1.heap.size]? = some (chkO qc N (.slice a1 fs.length k1) mp c (.slice a3 c.blocks.length k3))) := by rw [hV]; exact (heap_alloc2 w1 _ _).1
    have HD2 : Hid (V.heap[w1.heap.size + 1]? = some (.cells #[.int .i64 0] 3)) := by rw [hV]; exact (heap_alloc2 w1 _ _).2
    have HVS : Hid (V = _) := hV
    clear hV
    unfold chkO at HVS
    have hsf := @store_func Tryd.prog
    have hlt1 : w.heap.size + 2 < w1.heap.size := by omega
    have p3 := cells6 ((HV.out.block _ (by omega)).trans HK2.out)
    rw [HVS.out] at p3
    go_wp2_with fail
    rw [← HVS.out]
    clear p0 p1 p2 p3
    refine (eachB_any V B (w1.heap.size + 1) w.heap.size w1.heap.size _ c.blocks (blockS fs c) (Blkd V B mp qc (w1.heap.size + 1) w.heap.size w1.heap.size N (.slice a1 fs.length k1) fs c (.slice a3 c.blocks.length k3) w1.heap.size) (fun w2 => Below w1.heap.size V w2) (HBK.out.below ((HB1.out.mono hB).trans (HV.out.mono (by omega)))) (by omega)
      ⟨(HH.out.below HB1.out).below HV.out, HD2.out, HD0.out, HD1.out, Below.refl _ _⟩ ?_ (fun _ w2 h2 => h2.bel.mono (by omega)) (fun _ w2 h2 => h2.bel) ?_).mono ?_
    · intro j u1 u2 g1 g2
      exact ⟨g1.ck.below g2, (g2.block _ (lt_of_block g1.c1)).trans g1.c1, (g2.block _ (lt_of_block g1.c2)).trans g1.c2, (g2.block _ (lt_of_block g1.c3)).trans g1.c3, g1.bel.trans (g2.mono (by have := lt_of_block g1.c3; omega))⟩
    · intro j x u1 vb' hx g1 hvb'
      refine (codeAt_any x j c fs _ _ _ mp qc B _ _ _ N u1 g1.ck ⟨_, _, rfl⟩ HBL.out hvb' hx (by omega) (by omega) g1.c1 g1.c2 g1.c3 (by omega) (by omega) HN.out).mono ?_
      rintro e u2 ⟨he, g3, g4, g5⟩
      have hl1 := lt_of_block g1.c1
      refine ⟨he, fun h0 => ⟨g1.ck.belowN (by omega) (by omega) g3, g5 h0, (g4 _ (by omega) (by omega)).trans g1.c2, (g4 _ (by omega) (by omega)).trans g1.c3, g1.bel.trans (g3.mono (by omega))⟩, g1.bel.trans (g3.mono (by omega))⟩
    · rintro e w2 ⟨rfl, hb2⟩
      have HB2 : Hid (Below w.heap.size w w2) := below_after HB1.out (HV.out.trans hb2)
      rw [← HR2.out]
      clear hb2
      go_wp2_with fail
      go_ret
      exact ⟨rfl, HB2.out⟩
  · have HR2 : Hid (r = headS c) := by unfold Hid; rw [HR.out, codeS, h1]; rfl
    go_wp2_with fail
    go_ret
    exact ⟨by rw [HR2.out]; rfl, HB1.out⟩
end

section
open Go.RowKit
set_option linter.unusedSimpArgs false
set_option linter.unusedVariables false

theorem instr_same (fs : List Cod) (c : Cod) (i : Ins) : instrS fs c i = instrF fs c i := by
  unfold instrS instrF
  by_cases h : (decide (i.op < 1) || decide (13 < i.op)) = true
  · have h1 : (cntS i.op).isSome = false := by unfold cntS; rw [h]; rfl
    rw [h1, h]; rfl
  · have h' : (decide (i.op < 1) || decide (13 < i.op)) = false := by simpa using h
    have h1 : cntS i.op = some (ct1 i.op.toNat, ct2 i.op.toNat, ct3 i.op.toNat) := by unfold cntS; rw [h']; rfl
    have h2 : 1 ≤ i.op ∧ i.op ≤ 13 := by simp at h'; omega
    have h3 := counts_eq i.op.toNat i.ds.length i.ar.length i.to.length (by omega) (by omega)
    have h4 : ((i.op.toNat : Nat) : Int) = i.op := by omega
    rw [h4] at h3
    have h5 : (cV i.op) = (ct1 i.op.toNat, ct2 i.op.toNat, ct3 i.op.toNat) := by unfold cV; rw [h1]; rfl
    rw [h1, h', h5]
    simp only [Option.isSome_some]
    rw [h3]
    unfold hasS
    rcases countOk i.op i.ds.length i.ar.length i.to.length with _ | _ <;> rcases belowB c.vars i.ds with _ | _ <;> rcases belowB c.vars i.ar with _ | _ <;> rcases belowB (c.blocks.length : Int) i.to with _ | _ <;> rcases formB i with _ | _ <;> rcases argsB c.results i with _ | _ <;> simp

theorem head_same (c : Cod) : headS c = headF c := by
  unfold headS headF bigS offS
  have e1 : (decide (2000 < c.blocks.length) || (decide (16 < c.params) || (decide (16 < c.results) || decide (3000 < c.vars)))) = (decide (2000 < c.blocks.length) || decide (3000 < c.vars) || decide (16 < c.params) || decide (16 < c.results)) := by
    rw [Bool.eq_iff_iff]; simp; constructor <;> intro h <;> omega
  have e2 : (decide (c.params < 0) || (decide (c.results < 0) || (decide (c.vars < c.params) || c.slots != 0))) = (decide (c.params < 0) || decide (c.results < 0) || decide (c.vars < c.params) || c.slots != 0) := by
    rw [Bool.eq_iff_iff]; simp; constructor <;> intro h <;> omega
  rw [e1, e2]

theorem at_same (fs : List Cod) (c : Cod) (b : List Ins) (k : Nat) : atS fs c b k = atF fs c b k := by
  unfold atS atF
  rcases b[k]? with _ | i
  · rfl
  · simp only [instr_same]
theorem block_same (fs : List Cod) (c : Cod) (k : Nat) : blockS fs c k = blockF fs c k := by
  unfold blockS blockF
  rcases c.blocks[k]? with _ | b
  · rfl
  · have : atS fs c b = atF fs c b := funext fun k => at_same fs c b k
    simp only [this]; rfl
theorem code_same (fs : List Cod) (c : Cod) : codeS fs c = codeF fs c := by
  unfold codeS codeF
  have : blockS fs c = blockF fs c := funext fun k => block_same fs c k
  rw [head_same, this]
end

end Go.Proofs.YthlngmknifpbjaaDoor
