/-
  A call, looked at.
-/
import Derived.Test.YtbpbpihboenbeaaDoorSoG
namespace Go.Proofs.YtbpbpihboenbeaaDoor
open Go.RowKit Go.Maps
set_option linter.unusedSimpArgs false
set_option linter.unusedVariables false


/-- what a map that was turned leaves -/
theorem turned_below {w w' : World} {b N : Nat} (h : w.mapTurned w' b) (hN : N ≤ b) (hw : N ≤ w.heap.size) : Below N w w' := by
  have hg := h.grown
  exact ⟨hg.os, hg.tape, hg.output, hg.size, fun k hk => hg.block k (by omega) (fun e => by injection e; omega)⟩

variable {fC fB fO fH : Nat} {cs : Array Value} {N : Int}
set_option maxHeartbeats 8000000 in
set_option maxRecDepth 20000 in
theorem invoke_any (i : Ins) (c : Cod) (fs : List Cod) (vf vb vd va vt : Value) (mp B : Nat) (w : World) (hB : B ≤ w.heap.size) (hfs : Cods B w vf fs) (hm : MapAt w mp (plD 0 (.map []) fs)) (hvb : ∃ a n k, vb = .slice a n k)
    (hd : Nums B w vd i.ds) (ha : ∃ a k, va = .slice a i.ar.length k) (ht : ∃ a n k, vt = .slice a n k) (hs : i.s.length ≤ maxLen) :
    Calls Tryd.prog 73 #[chkV fC fB fO fH cs N vf mp c vb, insV i vd va vt] w fun e w' => e = .returned (.int .i64 (invokeF fs i)) ∧ Below w.heap.size w w' := by
  have hmm := @run_makeMap Tryd.prog
  obtain ⟨a1, k1, rfl⟩ := Lies.slice hfs
  obtain ⟨a2, n2, k2, rfl⟩ := hvb
  obtain ⟨ad, kd, rfl⟩ := Lies.slice hd
  obtain ⟨a4, k4, rfl⟩ := ha
  obtain ⟨a5, n5, k5, rfl⟩ := ht
  have hlm := hfs.len
  have hdm := hd.len
  unfold maxLen at hlm hdm
  have hlook := plD_look i.s fs 0 (.map []) isMap_empty rfl
  have HKEY : Hid (_) := key_of i.s hs
  obtain ⟨op, ds, ar, nn, s, to⟩ := i
  obtain ⟨name, params, results, vars, slots, blocks⟩ := c
  unfold chkV insV
  simp only at hlook HKEY hd hdm ⊢
  obtain ⟨r, hr⟩ : ∃ r, r = invokeF fs ⟨op, ds, ar, nn, s, to⟩ := ⟨_, rfl⟩
  rw [← hr]
  unfold invokeF placeOf at hr
  simp only at hr
  have HFS : Hid (Cods B w (.slice a1 fs.length k1) fs) := hfs
  have HD : Hid (Nums B w (.slice ad ds.length kd) ds) := hd
  obtain ⟨D, hD⟩ : ∃ D, D = plD 0 (.map []) fs := ⟨_, rfl⟩
  rw [← hD] at hlook hm
  have HL : Hid (_) := hlook
  have hml := hm.lt
  obtain ⟨n4, hn4⟩ : ∃ n, n = ar.length := ⟨_, rfl⟩
  rw [← hn4] at hr ⊢
  obtain ⟨nd, hnd⟩ : ∃ n, n = ds.length := ⟨_, rfl⟩
  rw [← hnd] at hdm hr ⊢
  have HR : Hid (r = _) := hr
  clear hr
  have HND : Hid (nd = ds.length) := hnd
  obtain ⟨W, hW⟩ : ∃ W, W = (w.alloc (Obj.cells #[Value.func (.func fC) #[] cs, Value.func (.func fB) #[] #[], Value.func (.func fO) #[] #[], Value.func (.func fH) #[] #[], Value.int IntKind.i64 N, Value.slice a1 fs.length k1, Value.map (some mp), Value.string ⟨name.toArray⟩, Value.int IntKind.i64 params, Value.int IntKind.i64 results, Value.int IntKind.i64 vars, Value.int IntKind.i64 slots, Value.slice a2 n2 k2] 77)).alloc (Obj.cells #[Value.int IntKind.i64 op, Value.slice ad nd kd, Value.slice a4 n4 k4, Value.int IntKind.i64 nn, Value.string ⟨s.toArray⟩, Value.slice a5 n5 k5] 43) := ⟨_, rfl⟩
  have HW : Hid (Below w.heap.size w W) := by rw [hW]; exact below_after (below_alloc _ _) (below_alloc _ _)
  have hWs : W.heap.size = w.heap.size + 2 := by rw [hW]; simp
  have HC2 : Hid (W.heap[w.heap.size + 1]? = some (Obj.cells #[Value.int IntKind.i64 op, Value.slice ad nd kd, Value.slice a4 n4 k4, Value.int IntKind.i64 nn, Value.string ⟨s.toArray⟩, Value.slice a5 n5 k5] 43)) := by rw [hW]; exact (heap_alloc2 w _ _).2
  have HM : Hid (MapAt W mp D) := hm.same (HW.out.block _ hml)
  rw [hW] at HM
  clear hlook hfs hd hD hm hn4 hnd
  go_enter Tryd.func73, Tryd.ntmps73
  go_wp2_with (at_lookup; refine wpList_lookup_own_ok_int _ rfl _ _ 57 rfl 9 3 .i64 lawS Tryd.underlying57 Tryd.underlying3 (zeroI _) mp _ D rfl HM.out _ _ rfl HKEY.out ?_)
  intro cc hat hwc
  rw [← hW]
  rw [← hW] at HM
  clear hwc
  have HWS : Hid (W = _) := hW
  clear hW
  rcases hp : fs.findIdx? (fun c => c.name == s) with _ | k
  · have hh := HL.out.1 hp
    clear hat
    have HP : Hid (_) := hp
    clear hp
    rw [hh]
    have HR2 : Hid (r = 6) := by unfold Hid; rw [HR.out, HP.out]
    go_wp2_with fail
    go_ret
    exact ⟨by rw [HR2.out]; rfl, HW.out⟩
  · obtain ⟨hh, hk⟩ := HL.out.2 k hp
    have hcc : cc = (k : Int) := by
      rw [hk] at hat
      injection hat with hat
      injection hat with _ hat
      rw [← hat]; simp
    subst hcc
    have hklt : k < fs.length := by
      have := List.findIdx?_eq_some_iff_getElem.1 hp
      obtain ⟨h, _⟩ := this
      exact h
    have hget : fs[k]? = some fs[k] := List.getElem?_eq_getElem hklt
    have HP : Hid (_) := hp
    clear hk hat hp
    rw [hh]
    generalize fs[k] = f at hget
    obtain ⟨ga, o, cs, rfl, hgB, hcs, hu, hcell⟩ := Lies.at HFS.out hget
    obtain ⟨vb', rfl, hvb', hnl, _⟩ := hu
    obtain ⟨ab, cb, rfl⟩ := Lies.slice hvb'
    have hga : ga < w.heap.size := by omega
    have q0 := hcell 0 (by decide)
    have q1 := hcell 1 (by decide)
    have q2 := hcell 2 (by decide)
    have q3 := hcell 3 (by decide)
    have q4 := hcell 4 (by decide)
    have q5 := hcell 5 (by decide)
    simp at q0 q1 q2 q3 q4 q5
    rw [← HW.out.cell (p := ⟨ga, o + k * 6, none⟩) hga] at q0
    rw [← HW.out.cell (p := ⟨ga, o + k * 6 + 1, none⟩) hga] at q1
    rw [← HW.out.cell (p := ⟨ga, o + k * 6 + 2, none⟩) hga] at q2
    rw [← HW.out.cell (p := ⟨ga, o + k * 6 + 3, none⟩) hga] at q3
    rw [← HW.out.cell (p := ⟨ga, o + k * 6 + 4, none⟩) hga] at q4
    rw [← HW.out.cell (p := ⟨ga, o + k * 6 + 5, none⟩) hga] at q5
    have hlt : (k : Int) < (fs.length : Int) := by omega
    have HGET : Hid (_) := hget
    clear hget hcell hvb' hnl hcs
    have p2 := cells6 HC2.out
    have HC1 : Hid (W.heap[w.heap.size]? = some (Obj.cells #[Value.func (.func fC) #[] cs, Value.func (.func fB) #[] #[], Value.func (.func fO) #[] #[], Value.func (.func fH) #[] #[], Value.int IntKind.i64 N, Value.slice (some ⟨ga, o, none⟩) fs.length k1, Value.map (some mp), Value.string ⟨name.toArray⟩, Value.int IntKind.i64 params, Value.int IntKind.i64 results, Value.int IntKind.i64 vars, Value.int IntKind.i64 slots, Value.slice a2 n2 k2] 77)) := by rw [HWS.out]; exact (heap_alloc2 w _ _).1
    have p1 := cells13 HC1.out
    rcases h1 : ((n4 : Int) != f.params) with _ | _
    · rcases h2 : ((nd : Int) != f.results) with _ | _
      · clear HM HL HKEY HWS
        go_wp2_with fail
        clear q0 q1 q2 q3 q4 q5 p1 p2
        obtain ⟨V, hV⟩ : ∃ V, V = W.alloc (Obj.cells #[Value.string ⟨f.name.toArray⟩, Value.int IntKind.i64 f.params, Value.int IntKind.i64 f.results, Value.int IntKind.i64 f.vars, Value.int IntKind.i64 f.slots, Value.slice ab f.blocks.length cb] 28) := ⟨_, rfl⟩
        have hVs : V.heap.size = w.heap.size + 3 := by rw [hV]; simp; omega
        have HV : Hid (Below W.heap.size W V) := by rw [hV]; exact below_alloc _ _
        rw [← hV]
        clear hV
        have HO0 : Hid ((V.alloc (.map #[] 0)).ownsMap Tryd.prog 3 unitElem (w.heap.size + 3) 0 (.map [] : DataW Unit)) := by have := World.ownsMap_made (H := Unit) V Tryd.prog 3 unitElem; rw [hVs] at this; exact this
        have HB0 : Hid (Below (w.heap.size + 3) V (V.alloc (.map #[] 0))) := by have := below_alloc V (.map #[] 0); rw [hVs] at this; exact this
        go_loopg [44] nd (fun g s44 wr => ∃ (i : Nat), s44 = .int .i64 (i : Nat) ∧ i + g = nd ∧ Hid (Below (w.heap.size + 3) V wr) ∧ Hid (wr.ownsMap Tryd.prog 3 unitElem (w.heap.size + 3) i (foldU (.map []) (ds.take i))))
        case atStart => exact ⟨0, rfl, by omega, HB0, HO0⟩
        case round =>
          clear HB0 HO0
          obtain ⟨i, rfl, hig, HBL, HO⟩ := hrel
          have HC3 : Hid (wr.heap[w.heap.size + 1]? = _) := ((HBL.out.block _ (by omega)).trans (HV.out.block _ (by omega))).trans HC2.out
          have p3 := cells6 HC3.out
          cases gk with
          | zero =>
            have hil : i = nd := by omega
            have hlt2 : ¬ (i : Int) < (nd : Int) := by omega
            have hlt2b : decide ((i : Int) < (nd : Int)) = false := by simpa using hlt2
            have hO := HO.out
            rw [hil, HND.out, List.take_length] at hO
            have HO2 : Hid (_) := hO
            have htw := twice_size ds
            rw [← HND.out] at htw
            have HBF : Hid (Below w.heap.size w wr) := below_after HW.out ((HV.out.mono (Nat.le_refl _)).trans (HBL.out.mono (by omega)))
            have HFIN : Hid (r = if twiceB ds then 7 else 0) := by
              unfold Hid
              rw [HR.out, HP.out]
              simp only [HGET.out, h1, h2]
              simp
            clear hO HO
            rcases ht2 : twiceB ds with _ | _
            · rw [ht2] at htw
              have hno : ¬ ((Maps.size (foldU (.map []) ds) : Int) < (nd : Int)) := by simpa using htw
              clear htw
              go_wp2_with (at_len; refine wpList_len_own _ rfl _ 114 rfl 3 115 Tryd.underlying114 _ (w.heap.size + 3) _ _ rfl HO2.out ?_)
              go_ret
              exact ⟨by rw [HFIN.out, ht2]; rfl, HBF.out⟩
            · rw [ht2] at htw
              have hyes : ((Maps.size (foldU (.map []) ds) : Int) < (nd : Int)) := by simpa using htw
              clear htw
              go_wp2_with (at_len; refine wpList_len_own _ rfl _ 114 rfl 3 115 Tryd.underlying114 _ (w.heap.size + 3) _ _ rfl HO2.out ?_)
              go_ret
              exact ⟨by rw [HFIN.out, ht2]; rfl, HBF.out⟩
          | succ g =>
            have hlt2 : (i : Int) < (nd : Int) := by omega
            have hlt2b : decide ((i : Int) < (nd : Int)) = true := by simpa using hlt2
            have hilt : i < ds.length := by have := HND.out; omega
            have hget : ds[i]? = some ds[i] := List.getElem?_eq_getElem hilt
            have HT : Hid (ds.take (i + 1) = ds.take i ++ [ds[i]]) := by unfold Hid; rw [List.take_add_one, hget]; rfl
            generalize ds[i] = x at hget HT
            obtain ⟨gd, od, cs, rfl, hgd, hcs, hP, hcell⟩ := Lies.at HD.out hget
            obtain ⟨rfl, hx⟩ := hP
            have hgdl : gd < w.heap.size := by omega
            have q0 := hcell 0 (by decide)
            simp at q0
            rw [← HW.out.cell (p := ⟨gd, od + i, none⟩) hgdl, ← HV.out.cell (p := ⟨gd, od + i, none⟩) (by rw [hWs]; exact Nat.lt_of_lt_of_le hgdl (by omega)), ← HBL.out.cell (p := ⟨gd, od + i, none⟩) (Nat.lt_of_lt_of_le hgdl (by omega))] at q0
            have HKX : Hid (_) := keyOf_int_mk (P := Tryd.prog) (k := 3) Tryd.underlying3 (a := x) (WalkArith.wf_i64 ⟨hx.1, by have := hx.2; omega⟩)
            clear hcell hget hcs hx
            go_wp2_with (at_mapUpdate; refine wpList_mapUpdate_in _ rfl _ _ _ 114 rfl 3 115 lawI Tryd.underlying114 _ (w.heap.size + 3) _ _ rfl HO.out (by unfold maxLen; omega) _ _ _ rfl rfl HKX.out _ [] unitElem_mk ?_)
            intro w4 hown4 hturn4
            have hsz : w.heap.size + 3 ≤ wr.heap.size := by have := HO.out.lt; omega
            have HB4 : Hid (Below (w.heap.size + 3) V w4) := HBL.out.trans (turned_below hturn4 (Nat.le_refl _) hsz)
            have HO4 : Hid (w4.ownsMap Tryd.prog 3 unitElem (w.heap.size + 3) (i + 1) (foldU (.map []) (ds.take (i + 1)))) := by unfold Hid; rw [HT.out, foldU_snoc]; exact hown4
            clear hown4 hturn4 p3 q0
            go_wp2_with fail
            go_roundg g
            case measure => omega
            case rel => exact ⟨i + 1, by go_num, by omega, HB4, HO4⟩
      · have HR2 : Hid (r = 10) := by
          unfold Hid
          rw [HR.out, HP.out]
          simp only [HGET.out, h1, h2]
          simp
        go_wp2_with fail
        go_ret
        exact ⟨by rw [HR2.out]; rfl, below_after HW.out (below_alloc _ _)⟩
    · have HR2 : Hid (r = 10) := by
        unfold Hid
        rw [HR.out, HP.out]
        simp only [HGET.out, h1]
        simp
      go_wp2_with fail
      go_ret
      exact ⟨by rw [HR2.out]; rfl, below_after HW.out (below_alloc _ _)⟩

end Go.Proofs.YtbpbpihboenbeaaDoor
