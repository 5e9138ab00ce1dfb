/-
  Show.
-/
import Derived.Test.YtbpnfoihonehgadDoorJaH
namespace Go.Proofs.YtbpnfoihonehgadDoor
open Go.RowKit
set_option linter.unusedSimpArgs false
set_option linter.unusedVariables false

variable {w : World} {col : Nat → Nat} {B m mp : Nat} {vf : Value} {fs : List Cod} {vh vl vc vv : Value} {q : Mst}

theorem After.of {w w0 w' : World} {q' : Mst} {col0 : Nat → Nat} (k : Fr w col w0 col0) (h : After w0 col0 B m mp vf fs q' w') : After w col B m mp vf fs q' w' := by
  obtain ⟨c, a, b, d, e, h1, h2⟩ := h
  exact ⟨c, a, b, d, e, h1, k.trans h2⟩

set_option maxHeartbeats 2000000 in
set_option maxRecDepth 20000 in
theorem show_any (h : Mach w col B m mp vf fs vh vl vc vv q) (i : Ins) (vd va vt : Value) (hd : ∃ a n k, vd = .slice a n k) (ha : Nums B w va i.ar) (ht : ∃ a n k, vt = .slice a n k) (r : Int) (q' : Mst) (hq : showM q i = some (r, q')) :
    Calls Tryd.prog 30 #[.pointer (some ⟨m, 0, none⟩), insV i vd va vt] w fun e w' => e = .returned (.int .i64 r) ∧ After w col B m mp vf fs q' w' := by
  have HH : Hid (Mach w col B m mp vf fs vh vl vc vv q) := h
  obtain ⟨ad, nd, kd, rfl⟩ := hd
  obtain ⟨at', nt, kt, rfl⟩ := ht
  obtain ⟨aa, ka, rfl⟩ := Lies.slice ha
  have HA : Hid (Nums B w (.slice aa i.ar.length ka) i.ar) := ha
  obtain ⟨al, kl, rfl⟩ := own_slice h.lines
  have h4 := h.cells.2.2.2.2.1
  have hmlt := h.mlt
  have hll := h.ll
  have hB := h.bw
  obtain ⟨N, hN⟩ : ∃ N, N = q.lines.length := ⟨_, rfl⟩
  have HN : Hid (N = q.lines.length) := hN
  unfold showM at hq
  rw [← hN] at hq h4 hll HH
  obtain ⟨W, hW⟩ : ∃ W, W = w.alloc (.cells #[.int .i64 i.op, .slice ad nd kd, .slice aa i.ar.length ka, .int .i64 i.n, .string ⟨i.s.toArray⟩, .slice at' nt kt] 25) := ⟨_, rfl⟩
  have HWB : Hid (Below w.heap.size w W) := by rw [hW]; exact below_alloc _ _
  have HWS : Hid (W = _) := hW
  have HC : Hid (W.heap[w.heap.size]? = some (.cells #[.int .i64 i.op, .slice ad nd kd, .slice aa i.ar.length ka, .int .i64 i.n, .string ⟨i.s.toArray⟩, .slice at' nt kt] 25)) := by rw [hW]; exact heap_alloc_new w _
  have hWsz : W.heap.size = w.heap.size + 1 := by rw [hW]; simp
  clear h ha hN hW
  by_cases g : N = 2000
  · rw [if_pos g] at hq
    injection hq with hq
    injection hq with hr hq
    subst hr
    subst hq
    subst g
    unfold insV
    go_enter Tryd.func30, Tryd.ntmps30
    go_wp2_with fail
    go_ret
    exact ⟨rfl, After.mk (HWS.out ▸ HH.out.keep HWB.out) (HWS.out ▸ Fr.of_below col HWB.out)⟩
  · rw [if_neg g] at hq
    have hNI : ((N : Int) == 2000) = false := beq_eq_false_iff_ne.2 (by omega)
    cases e0 : i.ar[0]? with
    | none => rw [e0] at hq; cases hq
    | some a =>
      rw [e0] at hq
      cases e1 : getM q a with
      | none => simp only [e1] at hq; cases hq
      | some x =>
        simp only [e1] at hq
        rcases e2 : (i.s == tInt) with _ | _
        · rw [e2] at hq; cases hq
        · rw [e2] at hq
          injection hq with hq
          injection hq with hr hq
          subst hr
          have HLN : Hid (_) := line_any (HH.out.keep HWB.out) i (.slice ad nd kd) (.slice aa i.ar.length ka) (.slice at' nt kt) ⟨_, _, _, rfl⟩ (HA.out.below (HWB.out.mono hB)) ⟨_, _, _, rfl⟩ a x e0 e1 e2
          have HQ : Hid ({ q with lines := q.lines ++ [Lib.itoa x] } = q') := hq
          clear hq e0 e1 e2
          obtain ⟨i0, hi, hz0, hz1, hzb⟩ := infoParts infoStr
          unfold insV at HLN ⊢
          go_enter Tryd.func30, Tryd.ntmps30
          go_wp2_with fail
          rw [← HWS.out]
          refine Calls.mono HLN.out ?_
          rintro e w1 ⟨rfl, hb1⟩
          have HB1 : Hid (Below w.heap.size w w1) := below_after HWB.out hb1
          have HM1 : Hid (Mach w1 col B m mp vf fs vh (.slice al N kl) vc vv q) := HH.out.keep HB1.out
          have hs1 := hb1.size
          have p4 := HM1.out.cells.2.2.2.2.1
          have hm1 : m < w1.heap.size := HM1.out.mlt
          unfold strV
          obtain ⟨t, ht⟩ : ∃ t, t = Lib.itoa x := ⟨_, rfl⟩
          rw [← ht] at HQ ⊢
          clear hb1 ht HLN HC HWS
          have HO : Hid ((w1.alloc (.cells #[.string ⟨t.toArray⟩] 9)).ownsRow B 9 1 (.slice al N kl) N (strsL q.lines)) := by
            have := (HM1.out.lines).alloc (.cells #[.string ⟨t.toArray⟩] 9)
            rw [← HN.out] at this
            exact this
          have HNW : Hid (∀ j u, [Value.string ⟨t.toArray⟩][j]? = some u → (w1.alloc (.cells #[.string ⟨t.toArray⟩] 9)).cell? ((⟨w1.heap.size, 0, none⟩ : Addr).add j) = some u) :=
            World.news_of_block (B := w1.heap.size) (cs := #[.string ⟨t.toArray⟩]) (heap_alloc_new w1 _)
          have hB1 : B ≤ w1.heap.size := HM1.out.bw
          go_wp2_with (at_builtin; refine wpList_append_lies _ rfl _ _ 34 (by rfl) B 9 i0 _ 1 16 Tryd.underlying34 hi hz0 hz1 hzb rfl (by decide) (.slice al N kl) N (strsL q.lines) (by rfl) HO.out ⟨w1.heap.size, 0, none⟩ 1 1 [.string ⟨t.toArray⟩] (by rfl) rfl HNW.out (by intro u hu; simp at hu; subst hu; rfl) (by decide) (by unfold maxLen; omega) (by omega) (by simp; omega) (w1.heap.size + 1) (by simp) ?_)
          intro gg cp w2 hown hgrow hat hlt
          have HMA : Hid (Mach (w1.alloc (.cells #[.string ⟨t.toArray⟩] 9)) col B m mp vf fs vh (.slice al N kl) vc vv q) := HM1.out.alloc _
          have HG : Hid (Grew (w1.alloc (.cells #[.string ⟨t.toArray⟩] 9)) w2 col 4 (.slice al N kl) (.slice (some ⟨gg, 0, none⟩) (N + 1) cp)) := by
            refine ⟨hgrow, ?_, HM1.out.cl⟩
            rcases hat with h1 | h1
            · exact .inl (by rw [h1]; rfl)
            · refine .inr ?_
              simp [Value.ownBlock, h1]
          have HOW : Hid (w2.ownsRow B 9 1 (.slice (some ⟨gg, 0, none⟩) (N + 1) cp) (q.lines ++ [t]).length (strsL (q.lines ++ [t]))) := by
            unfold Hid
            rw [List.length_append, ← HN.out, ← strsL_append]
            exact hown
          have hmb : w2.heap[m]? = w1.heap[m]? := (hgrow.block m (by simp; omega) (fun e => by have := HM1.out.cl m e.symm; rw [HM1.out.cm] at this; cases this)).trans (Below.heap_alloc _ _ _ hm1)
          have p5 : w2.cell? ⟨m, 4, none⟩ = some (.slice al N kl) := (World.cell?_of_block hmb).trans p4
          have pz : w2.frozen? ⟨m, 4, none⟩ = false := (World.frozen?_of_block hmb).trans (HM1.out.thaw 4)
          clear hown hgrow hat hmb p4 h4
          go_wp2_with fail
          go_ret
          have hp := HMA.out.putLines HG.out HOW.out (by rw [List.length_append, ← HN.out]; simp; omega)
          exact ⟨rfl, HQ.out ▸ After.of ((Fr.of_below col HB1.out).trans (Fr.of_below col (below_alloc w1 _))) (After.mk hp.1 hp.2)⟩

end Go.Proofs.YtbpnfoihonehgadDoor
