/-
  Package sound: a program.
-/
import Derived.Test.YtbpbpihboenbeaaDoorSoL
namespace Go.Proofs.YtbpbpihboenbeaaDoor
open Go.RowKit Go.Maps
set_option linter.unusedSimpArgs false
set_option linter.unusedVariables false

def atCS (fs : List Cod) (i : Nat) : Int := match fs[i]? with
  | none => 0
  | some c => codeS fs c

def programS (fs : List Cod) (nd : Nat) : Int :=
  if fs.length = 0 then 6 else if decide (20000 < nd) || decide (40 < fs.length) then 1 else if dupN fs then 7 else match fs[0]? with
  | none => 0
  | some f => if wrap64 (f.params + f.results) != 0 then 10 else firstNZ (atCS fs) 0 fs.length

theorem dup_size (fs : List Cod) : decide ((Maps.size (plD 0 (.map []) fs) : Int) < (fs.length : Int)) = dupN fs := by
  have h2 : Maps.size (DataW.map [] : DataW Unit) = 0 := rfl
  rcases h : dupN fs with _ | _
  · have h1 := plD_size_eq fs 0 (.map []) tidy_empty h (fun x _ => rfl)
    simp
    omega
  · have h1 := plD_size_lt fs 0 (.map []) tidy_empty (.inl h)
    simp
    omega

set_option maxHeartbeats 4000000 in
set_option maxRecDepth 20000 in
theorem progAt_any (c : Cod) (i : Nat) (fs : List Cod) (vf vd vb : Value) (mp qc B p0 p1 p2 : Nat) (N : Int) (w : World) (h : Ck w B mp qc vf fs) (hN : N = mostN) (hvd : ∃ a n k, vd = .slice a n k) (hb : Blks B w vb c.blocks)
    (hp0 : w.heap[p0]? = some (rulO qc N)) (hp1 : w.heap[p1]? = some (.cells #[vf, vd] 25)) (hp2 : w.heap[p2]? = some (.cells #[.map (some mp)] 57)) :
    Calls Tryd.prog 35 #[.int .i64 (i : Int), codV c vb, .pointer (some ⟨p0, 0, none⟩), .pointer (some ⟨p1, 0, none⟩), .pointer (some ⟨p2, 0, none⟩)] w fun e w' => e = .returned (.int .i64 (codeS fs c)) ∧ Below w.heap.size w w' := by
  have hB := h.le
  have HH : Hid (Ck w B mp qc vf fs) := h
  have HN : Hid (N = mostN) := hN
  unfold rulO at hp0
  obtain ⟨a1, k1, rfl⟩ := Lies.slice h.cods
  obtain ⟨a2, n2, k2, rfl⟩ := hvd
  obtain ⟨a3, k3, rfl⟩ := Lies.slice hb
  have HBK : Hid (Blks B w (.slice a3 c.blocks.length k3) c.blocks) := hb
  have hl1 := lt_of_block hp1
  have hl2 := lt_of_block hp2
  have c0 := cells5 hp0
  have hl0 := lt_of_block hp0
  have c1 := cells2 hp1
  have c2 := cells1 hp2
  have HWB : Hid (Below w.heap.size w (w.alloc (.cells #[.string ⟨c.name.toArray⟩, .int .i64 c.params, .int .i64 c.results, .int .i64 c.vars, .int .i64 c.slots, .slice a3 c.blocks.length k3] 28))) := below_alloc _ _
  clear h hb hp0 hp1 hp2 hN
  unfold codV
  go_enter Tryd.func35, Tryd.ntmps35
  go_wp2_with fail
  refine (code_any c fs _ _ _ mp qc B N _ (HH.out.below HWB.out) ⟨_, _, _, rfl⟩ (HBK.out.below (HWB.out.mono hB)) HN.out).mono ?_
  rintro e w1 ⟨rfl, hb1⟩
  have HB1 : Hid (Below w.heap.size w w1) := below_after HWB.out hb1
  clear hb1
  go_wp2_with fail
  go_ret
  exact ⟨rfl, HB1.out⟩

set_option maxHeartbeats 8000000 in
set_option maxRecDepth 20000 in
theorem Program_any (fs : List Cod) (vf : Value) (a2 : Option Addr) (nd k2 qc B : Nat) (N : Int) (w : World) (hB : B ≤ w.heap.size) (hI : RInv w B qc) (hN : N = mostN) (hfs : Cods B w vf fs) (hnd : nd ≤ maxLen) :
    Calls Tryd.prog 16 #[rulV qc N, prgV vf (.slice a2 nd k2)] w fun e w' => e = .returned (.int .i64 (programS fs nd)) ∧ Below w.heap.size w w' := by
  have HFS : Hid (Cods B w vf fs) := hfs
  have HI : Hid (RInv w B qc) := hI
  have HNN : Hid (N = mostN) := hN
  have hlF := hfs.len
  unfold maxLen at hlF hnd
  obtain ⟨a1, k1, rfl⟩ := Lies.slice hfs
  obtain ⟨r, hr⟩ : ∃ r, r = programS fs nd := ⟨_, rfl⟩
  rw [← hr]
  unfold programS at hr
  have HR : Hid (r = _) := hr
  obtain ⟨n, hn⟩ : ∃ n, n = fs.length := ⟨_, rfl⟩
  have HN : Hid (n = fs.length) := hn
  rw [← hn] at hlF HR HFS ⊢
  clear hfs hr hn hI hN
  unfold prgV rulV
  obtain ⟨W, hW⟩ : ∃ W, W = (w.alloc (rulO qc N)).alloc (.cells #[.slice a1 n k1, .slice a2 nd k2] 25) := ⟨_, rfl⟩
  have HW : Hid (Below w.heap.size w W) := by rw [hW]; exact below_after (below_alloc _ _) (below_alloc _ _)
  have hWs : W.heap.size = w.heap.size + 2 := by rw [hW]; simp
  have HCR : Hid (W.heap[w.heap.size]? = some (rulO qc N)) := by rw [hW]; exact (heap_alloc2 w _ _).1
  have HC0 : Hid (W.heap[w.heap.size + 1]? = some (.cells #[.slice a1 n k1, .slice a2 nd k2] 25)) := by rw [hW]; exact (heap_alloc2 w _ _).2
  have HWS : Hid (W = _) := hW
  unfold rulO at HWS
  clear hW
  by_cases h0 : n = 0
  · have HR2 : Hid (r = 6) := by unfold Hid; rw [HR.out, if_pos h0]
    subst h0
    go_enter Tryd.func16, Tryd.ntmps16
    go_wp2_with fail
    go_ret
    exact ⟨by rw [HR2.out]; rfl, HWS.out ▸ HW.out⟩
  have h0b : ((n : Int) == 0) = false := beq_eq_false_iff_ne.2 (by omega)
  by_cases g1 : 20000 < nd
  · have HR2 : Hid (r = 1) := by unfold Hid; rw [HR.out, if_neg h0, if_pos (by simp [g1])]
    have g1I : (20000 : Int) < (nd : Int) := by omega
    go_enter Tryd.func16, Tryd.ntmps16
    go_wp2_with fail
    go_ret
    exact ⟨by rw [HR2.out]; rfl, HWS.out ▸ HW.out⟩
  have g1I : ¬ (20000 : Int) < (nd : Int) := by omega
  by_cases g2 : 40 < n
  · have HR2 : Hid (r = 1) := by unfold Hid; rw [HR.out, if_neg h0, if_pos (by simp [g2])]
    have g2I : (40 : Int) < (n : Int) := by omega
    go_enter Tryd.func16, Tryd.ntmps16
    go_wp2_with fail
    go_ret
    exact ⟨by rw [HR2.out]; rfl, HWS.out ▸ HW.out⟩
  have g2I : ¬ (40 : Int) < (n : Int) := by omega
  have HR1 : Hid (r = _) := HR.out.trans (by rw [if_neg h0, if_neg (by simp; omega)])
  clear HR
  go_enter Tryd.func16, Tryd.ntmps16
  go_wp2_with fail
  rw [← HWS.out]
  refine (placesOf_any W B _ fs (HFS.out.below (HW.out.mono hB)) (by omega)).mono ?_
  rintro e w1 ⟨rfl, hm1, hb1⟩
  have hs1 := hb1.size
  have hl1 := hm1.lt
  obtain ⟨mp, hmp⟩ : ∃ mp, mp = W.heap.size := ⟨_, rfl⟩
  rw [← hmp] at hm1 hl1 ⊢
  have HB1 : Hid (Below w.heap.size w w1) := below_after HW.out hb1
  have HK0 : Hid (w1.heap[w.heap.size + 1]? = _) := (hb1.block _ (by omega)).trans HC0.out
  have HKR : Hid (w1.heap[w.heap.size]? = some (rulO qc N)) := (hb1.block _ (by omega)).trans HCR.out
  obtain ⟨V, hV⟩ : ∃ V, V = w1.alloc (.cells #[.map (some mp)] 57) := ⟨_, rfl⟩
  have HV : Hid (Below w1.heap.size w1 V) := by rw [hV]; exact below_alloc _ _
  have HM1 : Hid (MapAt V mp (plD 0 (.map []) fs)) := hm1.same (HV.out.block _ hl1)
  have hVs : V.heap.size = w1.heap.size + 1 := by rw [hV]; simp
  have HD2 : Hid (V.heap[w1.heap.size]? = some (.cells #[.map (some mp)] 57)) := by rw [hV]; exact heap_alloc_new w1 _
  have HD0 : Hid (V.heap[w.heap.size + 1]? = _) := (HV.out.block _ (by omega)).trans HK0.out
  have HDR : Hid (V.heap[w.heap.size]? = some (rulO qc N)) := (HV.out.block _ (by omega)).trans HKR.out
  have HVB : Hid (Below w.heap.size w V) := below_after HB1.out HV.out
  have p0 := cells2 HD0.out
  have p0' := cells2 HK0.out
  have HVS : Hid (V = _) := hV
  have hMV := HM1.out
  rw [hV] at hMV p0
  have HMV : Hid (_) := hMV
  have hds := dup_size fs
  rw [← HN.out] at hds
  have hlt0 : w.heap.size < w1.heap.size := by omega
  clear hm1 hb1 hV HC0 HWS HK0 hMV hmp
  rcases hd : dupN fs with _ | _
  · rw [hd] at hds
    have hno : ¬ ((Maps.size (plD 0 (.map []) fs) : Int) < (n : Int)) := by simpa using hds
    have hpos : 0 < fs.length := by have := HN.out; omega
    have hget : fs[0]? = some fs[0] := List.getElem?_eq_getElem hpos
    generalize fs[0] = f at hget
    have HR2 : Hid (r = if (wrap64 (f.params + f.results) != 0) = true then 10 else firstNZ (atCS fs) 0 n) := HR1.out.trans (by rw [hd, hget]; rfl)
    have HFS2 : Hid (Cods B w (.slice a1 n k1) fs) := HFS
    obtain ⟨ga, o, cs, rfl, hgB, hcs, hu, hcell⟩ := Lies.at HFS.out hget
    obtain ⟨vb', rfl, hvb', hnl, _⟩ := hu
    obtain ⟨ab, cb, rfl⟩ := Lies.slice hvb'
    have hga : ga < w.heap.size := by omega
    have q0 := hcell 0 (by decide)
    have q1 := hcell 1 (by decide)
    have q2 := hcell 2 (by decide)
    have q3 := hcell 3 (by decide)
    have q4 := hcell 4 (by decide)
    have q5 := hcell 5 (by decide)
    simp at q0 q1 q2 q3 q4 q5
    rw [← HB1.out.cell (p := ⟨ga, o, none⟩) hga] at q0
    rw [← HB1.out.cell (p := ⟨ga, o + 1, none⟩) hga] at q1
    rw [← HB1.out.cell (p := ⟨ga, o + 2, none⟩) hga] at q2
    rw [← HB1.out.cell (p := ⟨ga, o + 3, none⟩) hga] at q3
    rw [← HB1.out.cell (p := ⟨ga, o + 4, none⟩) hga] at q4
    rw [← HB1.out.cell (p := ⟨ga, o + 5, none⟩) hga] at q5
    have hga1 : ga < w1.heap.size := by omega
    have hn0 : (0 : Int) < (n : Int) := by omega
    clear hds hget hcell hcs hvb' hnl HR1
    rcases hz : (wrap64 (f.params + f.results) != 0) with _ | _
    · have HR3 : Hid (r = firstNZ (atCS fs) 0 fs.length) := HR2.out.trans (by rw [hz, ← HN.out]; rfl)
      obtain ⟨U, hU⟩ : ∃ U, U = V.alloc (.cells #[.string ⟨f.name.toArray⟩, .int .i64 f.params, .int .i64 f.results, .int .i64 f.vars, .int .i64 f.slots, .slice ab f.blocks.length cb] 28) := ⟨_, rfl⟩
      have HU : Hid (Below V.heap.size V U) := by rw [hU]; exact below_alloc _ _
      have HUS : Hid (U = _) := hU
      have p0u := cells2 ((HU.out.block _ (by omega)).trans HD0.out)
      rw [hU, HVS.out] at p0u
      clear hU
      go_wp2_with (at_len; refine wpList_len_own _ rfl _ 57 rfl 9 3 Tryd.underlying57 _ mp _ _ rfl HMV.out ?_)
      rw [← HVS.out, ← HUS.out]
      clear p0 p0' p0u q0 q1 q2 q3 q4 q5
      have hUs := HU.out.size
      have HUB : Hid (Below w.heap.size w U) := below_after HVB.out HU.out
      refine (eachC_any U B w.heap.size (w.heap.size + 1) w1.heap.size _ fs (atCS fs) (fun _ w2 => Below U.heap.size U w2) (fun w2 => Below U.heap.size U w2) (HFS2.out.below (HUB.out.mono hB)) (by omega) (Below.refl _ _) (fun _ u1 u2 h1 h2 => below_after h1 h2) (fun _ u1 h1 => h1.mono (by omega)) (fun _ u1 h1 => h1) ?_).mono ?_
      · intro j x u1 vb2 hx hu1 hvb2
        have he : atCS fs j = codeS fs x := by unfold atCS; rw [hx]
        rw [he]
        have HUB1 : Below w.heap.size w u1 := below_after HUB.out hu1
        refine (progAt_any x j fs (.slice (some ⟨ga, o, none⟩) n k1) (.slice a2 nd k2) vb2 mp qc B _ _ _ N u1 ⟨by have := HUB1.size; omega, HFS2.out.below (HUB1.mono hB), HM1.out.same ((hu1.block _ (by omega)).trans (HU.out.block _ (by omega))), HI.out.below hB HUB1⟩ HNN.out ⟨_, _, _, rfl⟩ hvb2 ((hu1.block _ (by omega)).trans ((HU.out.block _ (by omega)).trans HDR.out)) ((hu1.block _ (by omega)).trans ((HU.out.block _ (by omega)).trans HD0.out)) ((hu1.block _ (by omega)).trans ((HU.out.block _ (by omega)).trans HD2.out))).mono ?_
        rintro e u2 ⟨he2, hb2⟩
        exact ⟨he2, fun _ => below_after hu1 hb2, below_after hu1 hb2⟩
      · rintro e w2 ⟨rfl, hb2⟩
        have HB2 : Hid (Below w.heap.size w w2) := below_after HUB.out hb2
        rw [← HR3.out]
        clear hb2
        go_wp2_with fail
        go_ret
        exact ⟨rfl, HB2.out⟩
    · have HR3 : Hid (r = 10) := HR2.out.trans (by rw [hz]; rfl)
      have HBZ : Hid (Below w.heap.size w (V.alloc (.cells #[.string ⟨f.name.toArray⟩, .int .i64 f.params, .int .i64 f.results, .int .i64 f.vars, .int .i64 f.slots, .slice ab f.blocks.length cb] 28))) := below_after HVB.out (below_alloc _ _)
      go_wp2_with (at_len; refine wpList_len_own _ rfl _ 57 rfl 9 3 Tryd.underlying57 _ mp _ _ rfl HMV.out ?_)
      go_ret
      exact ⟨by rw [HR3.out]; rfl, HVS.out ▸ HBZ.out⟩
  · rw [hd] at hds
    have hyes : (Maps.size (plD 0 (.map []) fs) : Int) < (n : Int) := by simpa using hds
    have HR2 : Hid (r = 7) := HR1.out.trans (by rw [hd]; rfl)
    clear hds
    go_wp2_with (at_len; refine wpList_len_own _ rfl _ 57 rfl 9 3 Tryd.underlying57 _ mp _ _ rfl HMV.out ?_)
    go_ret
    exact ⟨by rw [HR2.out]; rfl, HVS.out ▸ HVB.out⟩

end Go.Proofs.YtbpbpihboenbeaaDoor
