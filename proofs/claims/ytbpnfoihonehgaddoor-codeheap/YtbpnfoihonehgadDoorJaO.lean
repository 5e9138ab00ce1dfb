/-
  A machine is made, and the first function is called.
-/
import Derived.Test.YtbpnfoihonehgadDoorJaM
import Derived.Test.YtbpnfoihonehgadDoorJaN
namespace Go.Proofs.YtbpnfoihonehgadDoor
open Go.RowKit Go.Maps
set_option linter.unusedSimpArgs false
set_option linter.unusedVariables false

theorem clone_any (w : World) (B : Nat) (v : Value) (xs : List Int) (hB : B ≤ w.heap.size) (h : Nums B w v xs) (hl : v = .slice none 0 0 ∨ 0 < xs.length) (hx : xs.length ≤ 20000) :
    Calls Tryd.prog 17 #[v] w fun e w' => ∃ v', e = .returned v' ∧ w'.ownsRow w.heap.size 3 1 v' xs.length (numsL xs) ∧ Below w.heap.size w w' := by
  rcases hl with rfl | hl
  · obtain ⟨a, c, hv⟩ := Lies.slice h
    injection hv with _ h2 _
    have hx0 : xs = [] := List.eq_nil_of_length_eq_zero h2.symm
    subst hx0
    refine (clone_nil w).mono ?_
    rintro e w1 ⟨rfl, hw1⟩
    rw [hw1]
    exact ⟨_, rfl, World.ownsRow_nil _ _ _ _, Below.refl _ _⟩
  · exact clone_some w B v xs hB h hl hx

/-- what is there ahead of the machine itself: b: where the program's own copy lies -/
def Ready (w X : World) (B mp : Nat) (vf vd vh : Value) (fs : List Cod) (xs : List Int) : Prop :=
  Below w.heap.size w X ∧ MapAt X mp (plD 0 (.map []) fs) ∧ X.ownsRow B 3 1 vh xs.length (numsL xs) ∧ vh.ownBlock ≠ some mp ∧ mp < X.heap.size ∧ w.heap.size < mp ∧ (∀ k, vh.ownBlock = some k → w.heap.size ≤ k) ∧ X.heap[w.heap.size]? = some (.cells #[vf, vd] 33)

theorem own_down {w : World} {b b' : Nat} {e : TypeId} {size : Nat} {v : Value} {n : Nat} {xs : List Value} (h : w.ownsRow b e size v n xs) (hb : b' ≤ b) : w.ownsRow b' e size v n xs := by
  refine ⟨h.1, ?_⟩
  rcases h.2 with h2 | ⟨g, cap, cur, hv, hg, r⟩
  · exact .inl h2
  · exact .inr ⟨g, cap, cur, hv, by omega, r⟩

theorem ready_pc {w W0 wp wc : World} {B : Nat} {vf vd vh : Value} {fs : List Cod} {xs : List Int} (h0 : Below w.heap.size w W0) (hbox : W0.heap[w.heap.size]? = some (.cells #[vf, vd] 33)) (h1 : MapAt wp W0.heap.size (plD 0 (.map []) fs)) (h2 : Below W0.heap.size W0 wp) (h3 : wc.ownsRow wp.heap.size 3 1 vh xs.length (numsL xs)) (h4 : Below wp.heap.size wp wc) (hB : B ≤ w.heap.size) :
    Ready w wc B W0.heap.size vf vd vh fs xs := by
  have hlt := h1.lt
  have hb := lt_of_block hbox
  have hs2 := h2.size
  refine ⟨below_after h0 (below_after h2 h4), h1.same (h4.block _ hlt), own_down h3 (by omega), fun e => by have := (h3.lt _ e).1; omega, Nat.lt_of_lt_of_le hlt h4.size, hb, fun k hk => by have := (h3.lt _ hk).1; omega, (h4.block _ (by omega)).trans ((h2.block _ hb).trans hbox)⟩

/-- what is asked of the program and its data -/
structure Fit (w : World) (B : Nat) (vf : Value) (fs : List Cod) (xs : List Int) (b0 : List Ins) (nv : Nat) (vb vn : Value) (kn : Nat) : Prop where
  cods : Cods B w vf fs
  blk : Blk B w vn b0
  sl : ∃ a, vn = .slice a b0.length kn
  cap : b0.length ≤ kn
  nv0 : 0 < nv
  nv3 : nv ≤ 3000
  ix : ∀ x ∈ xs, I64 x
  lx : xs.length ≤ 20000
  tp : TabP w
  gB : 0 < B
  vbs : ∃ a n c, vb = .slice a n c
  bw : B ≤ w.heap.size

theorem machine_made {w X M w' : World} {B mp nv kn : Nat} {vf vd vh vb vn : Value} {fs : List Cod} {xs : List Int} {room : Int} {b0 : List Ins} (hr : Ready w X B mp vf vd vh fs xs) (hm : M.heap[X.heap.size]? = some (mac0 vf mp vh room (.slice none 0 0) (.slice none 0 0))) (hMB : Below X.heap.size X M)
    (hb : ∃ gv kv gc kc, M.heap.size ≤ gv ∧ M.heap.size ≤ gc ∧ gv ≠ gc ∧ w'.heap[X.heap.size]? = some (mac0 vf mp vh room (.slice (some ⟨gc, 0, none⟩) 1 kc) (.slice (some ⟨gv, 0, none⟩) nv kv)) ∧ w'.ownsRow B 3 1 (.slice (some ⟨gv, 0, none⟩) nv kv) nv (numsL (List.replicate nv 0)) ∧
        w'.ownsRow B 67 4 (.slice (some ⟨gc, 0, none⟩) 1 kc) 1 [vb, vn, numV 0, .slice none 0 0] ∧ (∀ k, k < M.heap.size → k ≠ X.heap.size → w'.heap[k]? = M.heap[k]?) ∧ M.heap.size ≤ w'.heap.size ∧ w'.os = M.os ∧ w'.tape = M.tape ∧ w'.output = M.output)
    (hf : Fit w B vf fs xs b0 nv vb vn kn) : ∃ col vc vv, Mach w' col B X.heap.size mp vf fs vh (.slice none 0 0) vc vv ⟨xs, room, [], b0, List.replicate nv 0⟩ ∧ Below w.heap.size w w' ∧ (∀ k, k < w.heap.size → col k = 0) := by
  obtain ⟨gv, kv, gc, kc, h1, h2, h3, h4, h5, h6, h7, h8, h9, h10, h11⟩ := hb
  obtain ⟨r1, r2, r3, r4, r5, r6, r7, r8⟩ := hr
  have hXM := lt_of_block hm
  have hwX := r1.size
  have hMs := hMB.size
  have hkeep : ∀ k, k < X.heap.size → w'.heap[k]? = X.heap[k]? := fun k hk => (h7 k (by omega) (by omega)).trans (hMB.block k hk)
  have hBX : Below X.heap.size X w' := ⟨h9.trans hMB.os, h10.trans hMB.tape, h11.trans hMB.output, by omega, hkeep⟩
  have hBw : Below w.heap.size w w' := below_after r1 hBX
  have hBB : Below B w w' := hBw.mono hf.bw
  obtain ⟨an, hvn⟩ := hf.sl
  have hlh : ∀ k, vh.ownBlock = some k → k < X.heap.size := fun k hk => (r3.lt k hk).2
  let col : Nat → Nat := fun k => if k = X.heap.size then 1 else if vh.ownBlock = some k then 3 else if k = gc then 5 else if k = gv then 6 else 0
  have c1 : col X.heap.size = 1 := by simp [col]
  have cmp : col mp = 0 := by simp only [col]; rw [if_neg (by omega), if_neg r4, if_neg (by omega), if_neg (by omega)]
  have ch : ∀ k, vh.ownBlock = some k → col k = 3 := fun k hk => by have := hlh k hk; simp only [col]; rw [if_neg (by omega), if_pos hk]
  have cgc : col gc = 5 := by show (if gc = X.heap.size then 1 else if vh.ownBlock = some gc then 3 else if gc = gc then 5 else if gc = gv then 6 else 0) = 5; rw [if_neg (by omega), if_neg (fun e => by have := hlh _ e; omega), if_pos rfl]
  have cgv : col gv = 6 := by show (if gv = X.heap.size then 1 else if vh.ownBlock = some gv then 3 else if gv = gc then 5 else if gv = gv then 6 else 0) = 6; rw [if_neg (by omega), if_neg (fun e => by have := hlh _ e; omega), if_neg h3, if_pos rfl]
  have clo : ∀ k, k < w.heap.size → col k = 0 := fun k hk => by
    simp only [col]
    rw [if_neg (by omega), if_neg (fun e => by have := r7 k e; omega), if_neg (by omega), if_neg (by omega)]
  have hbw := hf.bw
  refine ⟨col, _, _, ⟨h4, hf.cods.below hBB, r2.same (hkeep mp r5), own_same r3 fun g hg => hkeep g (hlh g hg), World.ownsRow_nil _ _ _ _, ⟨vb, vn, _, h6, hf.vbs, hf.blk.below hBB, ⟨_, _, _, rfl⟩, an, kn, hvn, hf.cap⟩, ?_, by simpa using hf.nv0, by simpa using hf.nv3, fun x hx => by
      rw [(List.mem_replicate.1 hx).2]; exact ⟨by decide, by decide⟩, hf.ix, Nat.le_trans hf.lx (by decide), Nat.zero_le _, c1, cmp, ch, fun k hk => by simp [Value.ownBlock] at hk, fun k hk => ?_, fun k hk => ?_, fun k hk => ?_, by omega, hf.tp.below hf.gB hBB, hf.gB⟩, hBw, clo⟩
  · show w'.ownsRow B 3 1 _ (List.replicate nv (0 : Int)).length _
    rw [List.length_replicate]
    exact h5
  · have : gc = k := by simpa [Value.ownBlock] using hk
    rw [← this]; exact cgc
  · have : gv = k := by simpa [Value.ownBlock] using hk
    rw [← this]; exact cgv
  · by_cases e : k < w.heap.size
    · exact absurd (clo k e) hk
    · refine ⟨by omega, ?_⟩
      by_cases e1 : k = X.heap.size
      · omega
      · by_cases e2 : vh.ownBlock = some k
        · have := hlh k e2; omega
        · by_cases e3 : k = gc
          · rw [e3]; exact (h6.lt gc rfl).2
          · by_cases e4 : k = gv
            · rw [e4]; exact (h5.lt gv rfl).2
            · exact absurd (by simp only [col]; rw [if_neg e1, if_neg e2, if_neg e3, if_neg e4]) hk

set_option maxHeartbeats 4000000 in
set_option maxRecDepth 20000 in
theorem newMachine_any (w : World) (B gf of_ nf kf : Nat) (vd : Value) (fs : List Cod) (xs : List Int) (room : Int) (c : Cod) (nv gb ob nb kb : Nat) (an : Option Addr) (b0 : List Ins) (kn : Nat)
    (hF : Fit w B (.slice (some ⟨gf, of_, none⟩) nf kf) fs xs b0 nv (.slice (some ⟨gb, ob, none⟩) nb kb) (.slice an b0.length kn) kn) (hvd : Nums B w vd xs) (hnil : vd = .slice none 0 0 ∨ 0 < xs.length) (hnf : 0 < nf)
    (hc : w.cell? ⟨gf, of_, none⟩ = some (.string ⟨c.name.toArray⟩) ∧ w.cell? ⟨gf, of_ + 1, none⟩ = some (.int .i64 c.params) ∧ w.cell? ⟨gf, of_ + 2, none⟩ = some (.int .i64 c.results) ∧ w.cell? ⟨gf, of_ + 3, none⟩ = some (.int .i64 c.vars) ∧ w.cell? ⟨gf, of_ + 4, none⟩ = some (.int .i64 c.slots) ∧ w.cell? ⟨gf, of_ + 5, none⟩ = some (.slice (some ⟨gb, ob, none⟩) nb kb))
    (hv : c.vars = (nv : Int)) (hnb : 0 < nb) (qb : w.cell? ⟨gb, ob, none⟩ = some (.slice an b0.length kn)) :
    Calls Tryd.prog 10 #[prgV (.slice (some ⟨gf, of_, none⟩) nf kf) vd, .int .i64 room] w fun e w' => ∃ m, e = .returned (.pointer (some ⟨m, 0, none⟩)) ∧
      ∃ col vh vc vv mp, Mach w' col B m mp (.slice (some ⟨gf, of_, none⟩) nf kf) fs vh (.slice none 0 0) vc vv ⟨xs, room, [], b0, List.replicate nv 0⟩ ∧ Below w.heap.size w w' ∧ (∀ k, k < w.heap.size → col k = 0) := by
  obtain ⟨ad, kd, rfl⟩ := Lies.slice hvd
  obtain ⟨q0, q1, q2, q3, q4, q5⟩ := hc
  have hgf := World.block_lt_of_cell? w _ q0
  have hgb := World.block_lt_of_cell? w _ qb
  have HOK : Hid (Fit w B (.slice (some ⟨gf, of_, none⟩) nf kf) fs xs b0 nv (.slice (some ⟨gb, ob, none⟩) nb kb) (.slice an b0.length kn) kn) := hF
  have HNV : Hid (c.vars = (nv : Int) ∧ 0 < nv ∧ nv ≤ 3000) := ⟨hv, hF.nv0, hF.nv3⟩
  have hB := hF.bw
  have hnfI : (0 : Int) < (nf : Int) := by omega
  obtain ⟨W, hW⟩ : ∃ W, W = w.alloc (.cells #[.slice (some ⟨gf, of_, none⟩) nf kf, .slice ad xs.length kd] 33) := ⟨_, rfl⟩
  have HWS : Hid (W = _) := hW
  have HWB : Hid (Below w.heap.size w W.drew) := by rw [hW]; exact ⟨rfl, rfl, rfl, by simp, fun k hk => (below_alloc w _).block k hk⟩
  have HBOX : Hid (W.drew.heap[w.heap.size]? = some (.cells #[.slice (some ⟨gf, of_, none⟩) nf kf, .slice ad xs.length kd] 33)) := by rw [hW]; exact heap_alloc_new w _
  have hbox := cells2 HBOX.out
  have HD0 : Hid (Below W.drew.heap.size W.drew W.drew) := Below.refl _ _
  have HPL : Hid (∀ w' : World, Below W.drew.heap.size W.drew w' → Calls Tryd.prog 13 #[.slice (some ⟨gf, of_, none⟩) nf kf] w' fun e w'' => e = .returned (.map (some w'.heap.size)) ∧ MapAt w'' w'.heap.size (plD 0 (.map []) fs) ∧ Below w'.heap.size w' w'') := fun w' hd => have hb := below_after HWB.out hd; placesOf_any w' B _ fs (hF.cods.below (hb.mono hB)) (by have := hb.size; omega)
  have HCL : Hid (∀ w' : World, Below W.drew.heap.size W.drew w' → Calls Tryd.prog 17 #[.slice ad xs.length kd] w' fun e w'' => ∃ v', e = .returned v' ∧ w''.ownsRow w'.heap.size 3 1 v' xs.length (numsL xs) ∧ Below w'.heap.size w' w'') := fun w' hd => have hb := below_after HWB.out hd; clone_any w' B _ xs (by have := hb.size; omega) (hvd.below (hb.mono hB)) hnil hF.lx
  have hwlt : w.heap.size < W.drew.heap.size := lt_of_block HBOX.out
  have HS : Hid (∀ w' : World, Below W.drew.heap.size W.drew w' → w'.cell? ⟨w.heap.size, 0, none⟩ = some (.slice (some ⟨gf, of_, none⟩) nf kf) ∧ w'.cell? ⟨w.heap.size, 1, none⟩ = some (.slice ad xs.length kd)) := fun w' hd => cells2 ((hd.block _ hwlt).trans HBOX.out)
  have hS0 := HS.out W.drew HD0.out
  obtain ⟨N, hN⟩ : ∃ N, N = xs.length := ⟨_, rfl⟩
  have HN : Hid (N = xs.length) := hN
  rw [← hN] at HWS HBOX hbox HCL HS hS0 ⊢
  clear hF hvd hnil hv hW hN
  unfold prgV
  go_enter Tryd.func10, Tryd.ntmps10
  go_wp2_with fail
  rw [← HWS.out]
  go_region_held3 (fun w' => w'.cell? ⟨w.heap.size, 0, none⟩ = some (.slice (some ⟨gf, of_, none⟩) nf kf) ∧ w'.cell? ⟨w.heap.size, 1, none⟩ = some (.slice ad N kd)) (first | exact hS0 | exact hSp | exact hSc | exact HS.out _ (below_after HDp.out (below_alloc _ _)) | exact HS.out _ (below_after HDc.out (below_alloc _ _)))
    (first
      | (go_at_call 13; refine Calls.mono (HPL.out _ (by first | exact HD0.out | exact HDc.out)) ?_; rintro e wp ⟨rfl, hm1, hb1⟩; have HM1 : Hid (_) := hm1; have HB1 : Hid (_) := hb1; have HDp : Hid (Below W.drew.heap.size W.drew wp) := below_after (by first | exact HDc.out | exact HD0.out) hb1; have hSp := HS.out wp HDp.out; clear hm1 hb1)
      | (go_at_call 17; refine Calls.mono (HCL.out _ (by first | exact HD0.out | exact HDp.out)) ?_; rintro e wc ⟨vh, rfl, hm2, hb2⟩; have HM2 : Hid (_) := hm2; have HB2 : Hid (_) := hb2; have HDc : Hid (Below W.drew.heap.size W.drew wc) := below_after (by first | exact HDp.out | exact HD0.out) hb2; have hSc := HS.out wc HDc.out; obtain ⟨ah, kh, hvh⟩ := own_slice hm2; subst hvh; clear hm2 hb2))
  · have HNM : Hid (Ready w wc B W.heap.size (.slice (some ⟨gf, of_, none⟩) nf kf) (.slice ad N kd) (.slice ah N kh) fs xs) := ready_pc (W0 := W.drew) HWB.out HBOX.out HM1.out HB1.out (by rw [← HN.out]; exact HM2.out) HB2.out hB
    clear hS0 hSp hSc hbox HS HPL HCL
    obtain ⟨M, hM⟩ : ∃ M, M = wc.alloc (mac0 (.slice (some ⟨gf, of_, none⟩) nf kf) W.heap.size (.slice ah N kh) room (.slice none 0 0) (.slice none 0 0)) := ⟨_, rfl⟩
    have HMS : Hid (M = _) := hM
    have HMB : Hid (Below wc.heap.size wc M) := by rw [hM]; exact below_alloc _ _
    have HMM : Hid (M.heap[wc.heap.size]? = some (mac0 (.slice (some ⟨gf, of_, none⟩) nf kf) W.heap.size (.slice ah N kh) room (.slice none 0 0) (.slice none 0 0))) := by rw [hM]; exact heap_alloc_new _ _
    have HWM : Hid (Below w.heap.size w M) := below_after HNM.out.1 HMB.out
    have hXs := HNM.out.1.size
    have hbx := cells2 (((HMB.out.block w.heap.size (by have := HNM.out.2.2.2.2.1; have := HNM.out.2.2.2.2.2.1; omega)).trans (HNM.out.2.2.2.2.2.2.2)))
    have f0 := (HWM.out.cell (p := ⟨gf, of_, none⟩) hgf).trans q0
    have f1 := (HWM.out.cell (p := ⟨gf, of_ + 1, none⟩) hgf).trans q1
    have f2 := (HWM.out.cell (p := ⟨gf, of_ + 2, none⟩) hgf).trans q2
    have f3 := (HWM.out.cell (p := ⟨gf, of_ + 3, none⟩) hgf).trans q3
    have f4 := (HWM.out.cell (p := ⟨gf, of_ + 4, none⟩) hgf).trans q4
    have f5 := (HWM.out.cell (p := ⟨gf, of_ + 5, none⟩) hgf).trans q5
    have g0 := (HWM.out.cell (p := ⟨gb, ob, none⟩) hgb).trans qb
    unfold mac0 at HMS
    rw [← HMS.out]
    clear hM HMS
    go_wp2_with fail
    refine Calls.mono (begin_any M B wc.heap.size W.heap.size (.slice (some ⟨gf, of_, none⟩) nf kf) (.slice ah N kh) room c nv gb ob nb kb an b0.length kn HMM.out HNV.out.1 HNV.out.2.1 HNV.out.2.2 hnb g0 (by omega) (by omega)) ?_
    rintro e w9 ⟨rfl, hbeg⟩
    have HMACH : Hid (_) := machine_made HNM.out HMM.out HMB.out hbeg HOK.out
    clear hbeg f0 f1 f2 f3 f4 f5 g0 hbx
    go_wp2_with fail
    go_ret
    obtain ⟨col, vc, vv, hmm, hbb, hcc⟩ := HMACH.out
    exact ⟨_, rfl, col, _, vc, vv, _, hmm, hbb, hcc⟩

end Go.Proofs.YtbpnfoihonehgadDoor
