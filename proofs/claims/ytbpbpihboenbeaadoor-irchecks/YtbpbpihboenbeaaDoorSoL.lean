/-
  Package sound: code of a function, in a program.
-/
import Derived.Test.YtbpbpihboenbeaaDoorSoK2
namespace Go.Proofs.YtbpbpihboenbeaaDoor
open Go.RowKit Go.Maps
set_option linter.unusedSimpArgs false
set_option linter.unusedVariables false

theorem SoLalloc3 (w : World) (o1 o2 o3 : Obj) : (((w.alloc o1).alloc o2).alloc o3).heap[w.heap.size]? = some o1 ∧ (((w.alloc o1).alloc o2).alloc o3).heap[w.heap.size + 1]? = some o2 ∧ (((w.alloc o1).alloc o2).alloc o3).heap[w.heap.size + 2]? = some o3 := by
  refine ⟨blk_alloc (heap_alloc2 w o1 o2).1 o3, blk_alloc (heap_alloc2 w o1 o2).2 o3, ?_⟩
  have := heap_alloc_new ((w.alloc o1).alloc o2) o3
  simpa using this

/-- what the look at blocks keeps: p1: how many instructions there were; p2: the rules; p3: the checker -/
structure Blkd (V : World) (B mp qc p1 p2 p3 : Nat) (N : Int) (vf : Value) (fs : List Cod) (c : Cod) (vb : Value) (M : Nat) (j : Nat) (w : World) : Prop where
  ck : Ck w B mp qc vf fs
  c1 : w.heap[p1]? = some (.cells #[.int .i64 (accW c.blocks j)] 3)
  c2 : w.heap[p2]? = some (rulO qc N)
  c3 : w.heap[p3]? = some (chkO qc N vf mp c vb)
  bel : Below M V w

set_option maxHeartbeats 4000000 in
set_option maxRecDepth 20000 in
theorem code_any (c : Cod) (fs : List Cod) (vf vd vb : Value) (mp qc B : Nat) (N : Int) (w : World) (h : Ck w B mp qc vf fs) (hvd : ∃ a n k, vd = .slice a n k) (hb : Blks B w vb c.blocks) (hN : N = mostN) :
    Calls Tryd.prog 30 #[rulV qc N, prgV vf vd, .map (some mp), codV c vb] w fun e w' => e = .returned (.int .i64 (codeS fs c)) ∧ Below w.heap.size w w' := by
  have hB := h.le
  have hml := h.pl.lt
  have HH : Hid (_) := h
  have hlen := hb.len
  have HN : Hid (N = mostN) := hN
  obtain ⟨a1, k1, rfl⟩ := Lies.slice h.cods
  obtain ⟨a2, n2, k2, rfl⟩ := hvd
  obtain ⟨a3, k3, rfl⟩ := Lies.slice hb
  obtain ⟨r, hr⟩ : ∃ r, r = codeS fs c := ⟨_, rfl⟩
  rw [← hr]
  have HR : Hid (r = _) := hr
  have HBK : Hid (Blks B w (.slice a3 c.blocks.length k3) c.blocks) := hb
  have HLEN : Hid (_) := hlen
  obtain ⟨W, hW⟩ : ∃ W, W = ((w.alloc (rulO qc N)).alloc (.cells #[.slice a1 fs.length k1, .slice a2 n2 k2] 25)).alloc (.cells #[.string ⟨c.name.toArray⟩, .int .i64 c.params, .int .i64 c.results, .int .i64 c.vars, .int .i64 c.slots, .slice a3 c.blocks.length k3] 28) := ⟨_, rfl⟩
  have HW : Hid (Below w.heap.size w W) := by rw [hW]; exact below_after (below_after (below_alloc _ _) (below_alloc _ _)) (below_alloc _ _)
  have hWs : W.heap.size = w.heap.size + 3 := by rw [hW]; simp
  have HC0 : Hid (W.heap[w.heap.size]? = some (rulO qc N)) := by rw [hW]; exact (SoLalloc3 w _ _ _).1
  have HC1 : Hid (W.heap[w.heap.size + 1]? = some (.cells #[.slice a1 fs.length k1, .slice a2 n2 k2] 25)) := by rw [hW]; exact (SoLalloc3 w _ _ _).2.1
  have HC2 : Hid (W.heap[w.heap.size + 2]? = some (.cells #[.string ⟨c.name.toArray⟩, .int .i64 c.params, .int .i64 c.results, .int .i64 c.vars, .int .i64 c.slots, .slice a3 c.blocks.length k3] 28)) := by rw [hW]; exact (SoLalloc3 w _ _ _).2.2
  have HWS : Hid (W = _) := hW
  clear h hb hr hW hlen hN
  unfold rulO at HWS
  unfold prgV codV rulV
  go_enter Tryd.func30, Tryd.ntmps30
  go_wp2_with fail
  rw [← HWS.out]
  refine (head_any c _ _ qc N W HLEN.out).mono ?_
  rintro e w1 ⟨rfl, hb1⟩
  have HB1 : Hid (Below w.heap.size w w1) := below_after HW.out hb1
  have hs1 := hb1.size
  have HK0 : Hid (w1.heap[w.heap.size]? = _) := (hb1.block _ (by omega)).trans HC0.out
  have HK1 : Hid (w1.heap[w.heap.size + 1]? = _) := (hb1.block _ (by omega)).trans HC1.out
  have HK2 : Hid (w1.heap[w.heap.size + 2]? = _) := (hb1.block _ (by omega)).trans HC2.out
  have p0 := cells5 HK0.out
  have p1 := cells2 HK1.out
  have p2 := cells6 HK2.out
  clear hb1 HC0 HC1 HC2 HWS
  rcases h1 : (headS c != 0) with _ | _
  · have HR2 : Hid (r = firstNZ (blockS fs c) 0 c.blocks.length) := by unfold Hid; rw [HR.out, codeS, h1]; rfl
    have hh0 : headS c = 0 := by simpa using h1
    have HBL : Hid (c.blocks.length ≤ 2000) := by
      unfold Hid
      unfold headS at hh0
      by_cases z0 : c.blocks.length = 0
      · omega
      · rw [if_neg z0] at hh0
        by_cases z1 : (decide (2000 < c.blocks.length) || (decide (16 < c.params) || (decide (16 < c.results) || bigS c))) = true
        · rw [if_pos z1] at hh0; cases hh0
        · simp at z1; omega
    clear hh0
    obtain ⟨V, hV⟩ : ∃ V, V = (w1.alloc (chkO qc N (.slice a1 fs.length k1) mp c (.slice a3 c.blocks.length k3))).alloc (.cells #[.int .i64 0] 3) := ⟨_, rfl⟩
    have HV : Hid (Below w1.heap.size w1 V) := by rw [hV]; exact below_after (below_alloc _ _) (below_alloc _ _)
    have hVs : V.heap.size = w1.heap.size + 2 := by rw [hV]; simp
    have HD0 : Hid (V.heap[w.heap.size]? = some (rulO qc N)) := (HV.out.block _ (by omega)).trans HK0.out
    have HD1 : Hid (V.heap[w1.heap.size]? = some (chkO qc N (.slice a1 fs.length k1) mp c (.slice a3 c.blocks.length k3))) := by rw [hV]; exact (heap_alloc2 w1 _ _).1
    have HD2 : Hid (V.heap[w1.heap.size + 1]? = some (.cells #[.int .i64 0] 3)) := by rw [hV]; exact (heap_alloc2 w1 _ _).2
    have HVS : Hid (V = _) := hV
    clear hV
    unfold chkO at HVS
    have hsf := @store_func Tryd.prog
    have hlt1 : w.heap.size + 2 < w1.heap.size := by omega
    have p3 := cells6 ((HV.out.block _ (by omega)).trans HK2.out)
    rw [HVS.out] at p3
    go_wp2_with fail
    rw [← HVS.out]
    clear p0 p1 p2 p3
    refine (eachB_any V B (w1.heap.size + 1) w.heap.size w1.heap.size _ c.blocks (blockS fs c) (Blkd V B mp qc (w1.heap.size + 1) w.heap.size w1.heap.size N (.slice a1 fs.length k1) fs c (.slice a3 c.blocks.length k3) w1.heap.size) (fun w2 => Below w1.heap.size V w2) (HBK.out.below ((HB1.out.mono hB).trans (HV.out.mono (by omega)))) (by omega)
      ⟨(HH.out.below HB1.out).below HV.out, HD2.out, HD0.out, HD1.out, Below.refl _ _⟩ ?_ (fun _ w2 h2 => h2.bel.mono (by omega)) (fun _ w2 h2 => h2.bel) ?_).mono ?_
    · intro j u1 u2 g1 g2
      exact ⟨g1.ck.below g2, (g2.block _ (lt_of_block g1.c1)).trans g1.c1, (g2.block _ (lt_of_block g1.c2)).trans g1.c2, (g2.block _ (lt_of_block g1.c3)).trans g1.c3, g1.bel.trans (g2.mono (by have := lt_of_block g1.c3; omega))⟩
    · intro j x u1 vb' hx g1 hvb'
      refine (codeAt_any x j c fs _ _ _ mp qc B _ _ _ N u1 g1.ck ⟨_, _, rfl⟩ HBL.out hvb' hx (by omega) (by omega) g1.c1 g1.c2 g1.c3 (by omega) (by omega) HN.out).mono ?_
      rintro e u2 ⟨he, g3, g4, g5⟩
      have hl1 := lt_of_block g1.c1
      refine ⟨he, fun h0 => ⟨g1.ck.belowN (by omega) (by omega) g3, g5 h0, (g4 _ (by omega) (by omega)).trans g1.c2, (g4 _ (by omega) (by omega)).trans g1.c3, g1.bel.trans (g3.mono (by omega))⟩, g1.bel.trans (g3.mono (by omega))⟩
    · rintro e w2 ⟨rfl, hb2⟩
      have HB2 : Hid (Below w.heap.size w w2) := below_after HB1.out (HV.out.trans hb2)
      rw [← HR2.out]
      clear hb2
      go_wp2_with fail
      go_ret
      exact ⟨rfl, HB2.out⟩
  · have HR2 : Hid (r = headS c) := by unfold Hid; rw [HR.out, codeS, h1]; rfl
    go_wp2_with fail
    go_ret
    exact ⟨by rw [HR2.out]; rfl, HB1.out⟩

end Go.Proofs.YtbpbpihboenbeaaDoor
