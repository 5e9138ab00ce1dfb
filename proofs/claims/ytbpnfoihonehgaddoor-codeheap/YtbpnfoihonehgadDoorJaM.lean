/-
  The first call is begun.
-/
import Derived.Test.YtbpnfoihonehgadDoorJaL
import Derived.Deep.RegionLaw
import Derived.Deep.RegionHeld3
namespace Go.Proofs.YtbpnfoihonehgadDoor
open Go.RowKit
set_option linter.unusedSimpArgs false
set_option linter.unusedVariables false

theorem infoCall : (Tryd.prog.info? 67).map (fun i => (i.zero, i.size, i.bytes)) = some (some (.agg #[.slice none 0 0, .slice none 0 0, .int .i64 0, .slice none 0 0]), 4, 80) := by kernel_rfl

/-- a machine without a call -/
def mac0 (vf : Value) (mp : Nat) (vh : Value) (room : Int) (vc vv : Value) : Obj := .cells #[vf, .map (some mp), vh, .int .i64 room, .slice none 0 0, vc, vv] 50

theorem cells7 {w : World} {x : Nat} {T : TypeId} {f : Nat × Nat} {c0 c1 c2 c3 c4 c5 c6 : Value} (h : w.heap[x]? = some (.cells #[c0, c1, c2, c3, c4, c5, c6] T f)) :
    w.cell? ⟨x, 0, none⟩ = some c0 ∧ w.cell? ⟨x, 1, none⟩ = some c1 ∧ w.cell? ⟨x, 2, none⟩ = some c2 ∧ w.cell? ⟨x, 3, none⟩ = some c3 ∧ w.cell? ⟨x, 4, none⟩ = some c4 ∧ w.cell? ⟨x, 5, none⟩ = some c5 ∧ w.cell? ⟨x, 6, none⟩ = some c6 := by simp [World.cell?, h]
theorem thaw7 {w : World} {x : Nat} {T : TypeId} {c : Array Value} (h : w.heap[x]? = some (.cells c T)) (o : Nat) : w.frozen? ⟨x, o, none⟩ = false := by simp [World.frozen?, h]

theorem begun {w wr V w2 : World} {B m mp gv kv gc kc nv : Nat} {vf vh : Value} {room : Int} {vb vn : Value} (hw : Below w.heap.size w wr) (hkv : ∀ k, k < wr.heap.size → k ≠ m → V.heap[k]? = wr.heap[k]?)
    (hov : V.ownsRow B 3 1 (.slice (some ⟨gv, 0, none⟩) nv kv) nv (List.replicate nv (Value.int .i64 0))) (hos : V.os = w.os ∧ V.tape = w.tape ∧ V.output = w.output)
    (hm2 : w2.heap[m]? = some (.cells #[vf, .map (some mp), vh, .int .i64 room, .slice none 0 0, .slice none 0 0, .slice (some ⟨gv, 0, none⟩) nv kv] 50)) (hg : (V.drew.alloc (.cells #[vb, vn, .int .i64 0, .slice none 0 0] 67)).grownBy w2 (Value.slice none 0 0).ownBlock)
    (hat : (Value.slice none 0 0).ownBlock = some gc ∨ gc = V.heap.size + 1) (ho : w2.ownsRow B 67 4 (.slice (some ⟨gc, 0, none⟩) (0 + 1) kc) (0 + 1) ([] ++ [vb, vn, .int .i64 0, .slice none 0 0])) (hgw : w.heap.size ≤ gv) (hml : m < w.heap.size) (hVw : w.heap.size < V.heap.size) (hws : wr.heap.size ≤ V.heap.size) (hgv : gv < V.heap.size) :
    w.heap.size ≤ gv ∧ w.heap.size ≤ gc ∧ gv ≠ gc ∧ (w2.setCell ⟨m, 5, none⟩ (.slice (some ⟨gc, 0, none⟩) 1 kc)).heap[m]? = some (mac0 vf mp vh room (.slice (some ⟨gc, 0, none⟩) 1 kc) (.slice (some ⟨gv, 0, none⟩) nv kv)) ∧ (w2.setCell ⟨m, 5, none⟩ (.slice (some ⟨gc, 0, none⟩) 1 kc)).ownsRow B 3 1 (.slice (some ⟨gv, 0, none⟩) nv kv) nv (numsL (List.replicate nv 0)) ∧
        (w2.setCell ⟨m, 5, none⟩ (.slice (some ⟨gc, 0, none⟩) 1 kc)).ownsRow B 67 4 (.slice (some ⟨gc, 0, none⟩) 1 kc) 1 [vb, vn, numV 0, .slice none 0 0] ∧ (∀ k, k < w.heap.size → k ≠ m → (w2.setCell ⟨m, 5, none⟩ (.slice (some ⟨gc, 0, none⟩) 1 kc)).heap[k]? = w.heap[k]?) ∧ w.heap.size ≤ (w2.setCell ⟨m, 5, none⟩ (.slice (some ⟨gc, 0, none⟩) 1 kc)).heap.size ∧ (w2.setCell ⟨m, 5, none⟩ (.slice (some ⟨gc, 0, none⟩) 1 kc)).os = w.os ∧ (w2.setCell ⟨m, 5, none⟩ (.slice (some ⟨gc, 0, none⟩) 1 kc)).tape = w.tape ∧ (w2.setCell ⟨m, 5, none⟩ (.slice (some ⟨gc, 0, none⟩) 1 kc)).output = w.output := by
  have hgc : gc = V.heap.size + 1 := by
    rcases hat with h | h
    · simp [Value.ownBlock] at h
    · exact h
  have hsz : (w2.setCell ⟨m, 5, none⟩ (.slice (some ⟨gc, 0, none⟩) 1 kc)).heap.size = w2.heap.size := by simp [World.setCell]
  have hgs := hg.size
  have hgs' : V.heap.size + 1 ≤ w2.heap.size := by simpa using hgs
  have keep : ∀ k, k < V.heap.size → k ≠ m → (w2.setCell ⟨m, 5, none⟩ (.slice (some ⟨gc, 0, none⟩) 1 kc)).heap[k]? = V.heap[k]? := fun k hk hne =>
    (Below.heap_setCell _ _ _ _ (fun e => hne e)).trans ((hg.block k (by simp; omega) (by simp [Value.ownBlock])).trans (Below.heap_alloc V.drew _ k hk))
  refine ⟨hgw, by omega, by omega, heap_setCell_same hm2 _, ?_, own_same ho fun g hgg => Below.heap_setCell _ _ _ _ (fun e => ?_), fun k hk hne => (keep k (by omega) hne).trans ((hkv k (Nat.lt_of_lt_of_le hk hw.size) hne).trans (hw.block k hk)), by rw [hsz]; omega, hg.os.trans hos.1, hg.tape.trans hos.2.1, hg.output.trans hos.2.2⟩
  · rw [← numsL_zeros]
    exact own_same hov fun g hgg => keep g (by have : gv = g := by simpa [Value.ownBlock] using hgg
                                               omega) (by have : gv = g := by simpa [Value.ownBlock] using hgg
                                                          omega)
  · have e' : g = m := e
    have : gc = g := by simpa [Value.ownBlock] using hgg
    omega

set_option maxHeartbeats 4000000 in
set_option maxRecDepth 20000 in
theorem begin_any (w : World) (B m mp : Nat) (vf vh : Value) (room : Int) (c : Cod) (nv : Nat) (gb ob nb kb : Nat) (an : Option Addr) (nn kn : Nat) (hm : w.heap[m]? = some (mac0 vf mp vh room (.slice none 0 0) (.slice none 0 0))) (hv : c.vars = (nv : Int)) (h0 : 0 < nv) (h3 : nv ≤ 3000)
    (hnb : 0 < nb) (hvb : w.cell? ⟨gb, ob, none⟩ = some (.slice an nn kn)) (hBm : B ≤ m) (hgb : gb ≠ m) :
    Calls Tryd.prog 18 #[.pointer (some ⟨m, 0, none⟩), codV c (.slice (some ⟨gb, ob, none⟩) nb kb), .slice none 0 0, .slice none 0 0] w fun e w' => e = .returned (.tuple #[]) ∧
      ∃ gv kv gc kc, w.heap.size ≤ gv ∧ w.heap.size ≤ gc ∧ gv ≠ gc ∧ w'.heap[m]? = some (mac0 vf mp vh room (.slice (some ⟨gc, 0, none⟩) 1 kc) (.slice (some ⟨gv, 0, none⟩) nv kv)) ∧ w'.ownsRow B 3 1 (.slice (some ⟨gv, 0, none⟩) nv kv) nv (numsL (List.replicate nv 0)) ∧
        w'.ownsRow B 67 4 (.slice (some ⟨gc, 0, none⟩) 1 kc) 1 [.slice (some ⟨gb, ob, none⟩) nb kb, .slice an nn kn, numV 0, .slice none 0 0] ∧ (∀ k, k < w.heap.size → k ≠ m → w'.heap[k]? = w.heap[k]?) ∧ w.heap.size ≤ w'.heap.size ∧ w'.os = w.os ∧ w'.tape = w.tape ∧ w'.output = w.output := by
  have hml := lt_of_block hm
  have hgbl := World.block_lt_of_cell? w _ hvb
  obtain ⟨name, params, results, vars, slots, blocks⟩ := c
  simp only at hv
  subst hv
  unfold codV
  simp only
  have hnvI : (nv : Int) ≤ 3000 := by omega
  have hwr : IntKind.i64.wrap (nv : Int) = (nv : Int) := by rw [IntKind.wrap_i64]; omega
  obtain ⟨i0, hi, hz0, hz1, hzb⟩ := infoParts infoInt
  obtain ⟨W, hW⟩ : ∃ W, W = w.alloc (.cells #[.string ⟨name.toArray⟩, .int .i64 params, .int .i64 results, .int .i64 (nv : Int), .int .i64 slots, .slice (some ⟨gb, ob, none⟩) nb kb] 30) := ⟨_, rfl⟩
  have HWS : Hid (W = _) := hW
  have HWB : Hid (Below w.heap.size w W) := by rw [hW]; exact below_alloc _ _
  have hWs : W.heap.size = w.heap.size + 1 := by rw [hW]; simp
  have HC : Hid (W.heap[w.heap.size]? = some (.cells #[.string ⟨name.toArray⟩, .int .i64 params, .int .i64 results, .int .i64 (nv : Int), .int .i64 slots, .slice (some ⟨gb, ob, none⟩) nb kb] 30)) := by rw [hW]; exact heap_alloc_new w _
  have HMW : Hid (W.heap[m]? = some (mac0 vf mp vh room (.slice none 0 0) (.slice none 0 0))) := (HWB.out.block m hml).trans hm
  unfold mac0 at HMW hm
  have p := cells7 HMW.out
  have p0 := cells7 hm
  have c6 := cells6 HC.out
  have pz := thaw7 HMW.out
  have pz5 := pz 5
  have pz6 := pz 6
  clear hW pz hm
  go_enter Tryd.func18, Tryd.ntmps18
  go_wp2_with fail
  rw [← HWS.out]
  go_loopg [18] 0 (fun g s18 wr => s18 = .int .i64 0 ∧ wr = W)
  case atStart => exact ⟨rfl, rfl⟩
  case round =>
    obtain ⟨rfl, hwr0⟩ := hrel
    subst hwr0
    go_wp2_with fail
    go_region_law (refine step_append_zeros wr.drew rfl (.tmp 39) (.tmp 44) 23 3 rfl B 3 i0 .i64 .i64 Tryd.underlying23 Tryd.underlying3 hi hz0 hz1 hzb (.slice none 0 0) 0 [] (by simp [Act.eval, Act.put]) (World.ownsRow_nil _ _ _ _) nv (by simp [Act.eval, Act.put]) (by unfold maxLen; omega) (by omega) (by show B ≤ wr.heap.size; omega) ?_; intro v1 w1 hown1 hgrow1 hat1; obtain ⟨gv, kv, hv1, hBv, hgvl, _⟩ := own_at hown1 (by omega); subst hv1; have HOWN1 : Hid (_) := hown1; have HGR1 : Hid (_) := hgrow1; have HAT1 : Hid (_) := hat1; have hm1 := (hgrow1.block m (by show m < wr.heap.size; omega) (by simp [Value.ownBlock])).trans HMW.out; have p1 := cells7 hm1; have z1 := thaw7 hm1 6; have HM1 : Hid (_) := hm1; clear hown1 hgrow1 hat1 hm1)
    all_goals
      obtain ⟨V, hV⟩ : ∃ V, V = w1.setCell ⟨m, 6, none⟩ (.slice (some ⟨gv, 0, none⟩) nv kv) := ⟨_, rfl⟩
      have HVS : Hid (V = _) := hV
      have hVs : V.heap.size = w1.heap.size := by rw [hV]; simp [World.setCell]
      have hVo : ∀ k, k ≠ m → V.heap[k]? = w1.heap[k]? := fun k hk => by rw [hV]; exact Below.heap_setCell _ _ _ _ (fun e => hk e)
      have hw1s : wr.heap.size ≤ w1.heap.size := HGR1.out.size
      have hgvm : gv = wr.heap.size := by
        rcases HAT1.out with h | h
        · simp [Value.ownBlock] at h
        · simpa [Value.ownBlock] using h
      have HMV : Hid (V.heap[m]? = some (.cells #[vf, .map (some mp), vh, .int .i64 room, .slice none 0 0, .slice none 0 0, .slice (some ⟨gv, 0, none⟩) nv kv] 50)) := by unfold Hid; rw [hV]; exact heap_setCell_same HM1.out _
      have HKV : Hid (∀ k, k < wr.heap.size → k ≠ m → V.heap[k]? = wr.heap[k]?) := fun k hk hne => (hVo k hne).trans (HGR1.out.block k hk (by simp [Value.ownBlock]))
      have HOV : Hid (V.ownsRow B 3 1 (.slice (some ⟨gv, 0, none⟩) nv kv) nv (List.replicate nv (Value.int .i64 0))) := by
        have h := own_same HOWN1.out (w' := V) fun g hg => hVo g (by have : gv = g := by simpa [Value.ownBlock] using hg
                                                                     omega)
        unfold Hid
        simpa using h
      have HOS : Hid (V.os = w.os ∧ V.tape = w.tape ∧ V.output = w.output) := by
        unfold Hid
        rw [hV]
        exact ⟨HGR1.out.os.trans HWB.out.os, HGR1.out.tape.trans HWB.out.tape, HGR1.out.output.trans HWB.out.output⟩
      have r0 := cells7 HMV.out
      have r1 := cells6 ((HKV.out w.heap.size (by omega) (by omega)).trans HC.out)
      have r2 : V.cell? ⟨gb, ob, none⟩ = some (.slice an nn kn) := ((World.cell?_of_block (a := ⟨gb, ob, none⟩) (HKV.out gb (by omega) hgb)).trans (HWB.out.cell (p := ⟨gb, ob, none⟩) hgbl)).trans hvb
      have r3 := thaw7 HMV.out 5
      have hmV : m < V.heap.size := lt_of_block HMV.out
      have hnbI : (0 : Int) < (nb : Int) := by omega
      have hVw : w.heap.size < V.heap.size := by omega
      obtain ⟨j0, hj, hjz0, hjz1, hjzb⟩ := infoParts infoCall
      have HO : Hid ((V.drew.alloc (.cells #[.slice (some ⟨gb, ob, none⟩) nb kb, .slice an nn kn, .int .i64 0, .slice none 0 0] 67)).ownsRow B 67 4 (.slice none 0 0) 0 []) := World.ownsRow_nil _ _ _ _
      have HNW : Hid (∀ j u, [Value.slice (some ⟨gb, ob, none⟩) nb kb, .slice an nn kn, .int .i64 0, .slice none 0 0][j]? = some u → (V.drew.alloc (.cells #[.slice (some ⟨gb, ob, none⟩) nb kb, .slice an nn kn, .int .i64 0, .slice none 0 0] 67)).cell? ((⟨V.heap.size, 0, none⟩ : Addr).add j) = some u) :=
        World.news_of_block (B := V.heap.size) (cs := #[.slice (some ⟨gb, ob, none⟩) nb kb, .slice an nn kn, .int .i64 0, .slice none 0 0]) (heap_alloc_new V.drew _)
      have HALL : Hid ((w.heap.size ≤ gv ∧ wr.heap.size ≤ V.heap.size ∧ gv < V.heap.size) ∧ m < w.heap.size ∧ B ≤ V.heap.size ∧ w.heap.size < V.heap.size) := by unfold Hid; omega
      have HJ : Hid (Tryd.prog.info? 67 = some j0 ∧ j0.zero = some (.agg #[.slice none 0 0, .slice none 0 0, .int .i64 0, .slice none 0 0]) ∧ j0.size = 4 ∧ j0.bytes = 80) := ⟨hj, hjz0, hjz1, hjzb⟩
      have r0' := r0.2.2.2.2.2.1
      have r1' := r1.2.2.2.2.2
      clear p p0 p1 c6 pz5 pz6 z1 hV hVo hi hz0 hz1 hzb hj hjz0 hjz1 hjzb HGR1 HAT1 HOWN1 HM1 HMW hVs hw1s hgvm hWs h0 h3 hnvI hwr hBm hgbl hBv hgvl hvb HC r0 r1
      rw [← HVS.out]
      clear HVS
      go_wp2_with fail
      have hS1 : (V.alloc (.cells #[.slice (some ⟨gb, ob, none⟩) nb kb, .slice an nn kn, .int .i64 0, .slice none 0 0] 67)).cell? ⟨m, 5, none⟩ = some (.slice none 0 0) := ((below_alloc V _).cell (p := ⟨m, 5, none⟩) hmV).trans r0'
      go_region_law (refine step_append_lies (V.drew.alloc (.cells #[.slice (some ⟨gb, ob, none⟩) nb kb, .slice an nn kn, .int .i64 0, .slice none 0 0] 67)) rfl (.tmp 52) (.tmp 62) 48 rfl B 67 j0 _ 4 80 Tryd.underlying48 HJ.out.1 HJ.out.2.1 HJ.out.2.2.1 HJ.out.2.2.2 rfl (by decide) (.slice none 0 0) 0 [] (by simp [Act.eval, Act.put]) HO.out ⟨V.heap.size, 0, none⟩ 1 1 [.slice (some ⟨gb, ob, none⟩) nb kb, .slice an nn kn, .int .i64 0, .slice none 0 0] (by simp [Act.eval, Act.put]) rfl HNW.out (by intro u hu; simp at hu; rcases hu with rfl | rfl | rfl | rfl <;> rfl) (by decide) (by unfold maxLen; omega) (by omega) (by have := HALL.out; simp; omega) (V.heap.size + 1) (by simp) ?_; intro gc kc w2 hown2 hgrow2 hat2 hlt2; have hm2 := (hgrow2.block m (by simp; omega) (by simp [Value.ownBlock])).trans ((Below.heap_alloc V.drew _ m hmV).trans HMV.out); have p2 := cells7 hm2; have z2 := thaw7 hm2 5; have HOWN2 : Hid (_) := hown2; have HGR2 : Hid (_) := hgrow2; have HAT2 : Hid (_) := hat2; have HM2 : Hid (_) := hm2; clear hown2 hgrow2 hat2 hm2)
      all_goals
        go_end0
        refine ⟨rfl, gv, kv, gc, kc, ?_⟩
        exact begun HWB.out HKV.out HOV.out HOS.out HM2.out HGR2.out HAT2.out HOWN2.out HALL.out.1.1 HALL.out.2.1 HALL.out.2.2.2 HALL.out.1.2.1 HALL.out.1.2.2

end Go.Proofs.YtbpnfoihonehgadDoor
