/-
  each: a list is looked through, till something is wrong.
-/
import Derived.Test.YthlngmknifpbjaaDoorJSoF
namespace Go.Proofs.YthlngmknifpbjaaDoor
section
open Go.RowKit Go.Maps
set_option linter.unusedSimpArgs false
set_option linter.unusedVariables false

set_option maxHeartbeats 4000000 in
set_option maxRecDepth 20000 in
theorem placesOf_any (w : World) (B : Nat) (vf : Value) (fs : List Cod) (hfs : Cods B w vf fs) (hBw : B ≤ w.heap.size) :
    Calls Tryd.prog 43 #[vf] w fun e w' => e = .returned (.map (some w.heap.size)) ∧ MapAt w' w.heap.size (plD 0 (.map []) fs) ∧ Below w.heap.size w w' := by
  have hmm := @run_makeMap Tryd.prog
  obtain ⟨a, c, rfl⟩ := Lies.slice hfs
  have hlm := hfs.len
  unfold maxLen at hlm
  have HFS : Hid (Cods B w (.slice a fs.length c) fs) := hfs
  have HB0 : Hid (Below w.heap.size w (w.alloc (.map #[] 0))) := (Below.refl _ _).alloc (Nat.le_refl _) _
  have HM0 : Hid (MapAt (w.alloc (.map #[] 0)) w.heap.size (.map [])) := mapAt_made w
  clear hfs
  go_enter Tryd.func43, Tryd.ntmps43
  go_wp2_with fail
  go_loopg [11] fs.length (fun g s11 wr => ∃ (i : Nat) (P : DataW Unit), s11 = .int .i64 (i : Nat) ∧ i + g = fs.length ∧ Hid (Below w.heap.size w wr) ∧ Hid (MapAt wr w.heap.size P) ∧ Hid (plD i P (fs.drop i) = plD 0 (.map []) fs) ∧ Hid (Maps.size P ≤ i))
  case atStart => exact ⟨0, .map [], rfl, by omega, HB0, HM0, rfl, Nat.le_refl _⟩
  case round =>
    clear HB0 HM0
    obtain ⟨i, P, rfl, hig, HBL, HM, HN, HS⟩ := hrel
    have hN := HN.out
    clear HN
    cases gk with
    | zero =>
      have hil : i = fs.length := by omega
      have hlt : ¬ (i : Int) < (fs.length : Int) := by omega
      have hltb : decide ((i : Int) < (fs.length : Int)) = false := by simpa using hlt
      rw [hil, List.drop_length] at hN
      simp only [plD] at hN
      have HN2 : Hid (P = plD 0 (.map []) fs) := hN
      clear hN
      go_wp2_with fail
      go_ret
      exact ⟨rfl, HN2.out ▸ HM.out, HBL.out⟩
    | succ g =>
      have hlt : (i : Int) < (fs.length : Int) := by omega
      have hltb : decide ((i : Int) < (fs.length : Int)) = true := by simpa using hlt
      have hilt : i < fs.length := by omega
      have hget : fs[i]? = some fs[i] := List.getElem?_eq_getElem hilt
      rw [List.drop_eq_getElem_cons hilt] at hN
      simp only [plD] at hN
      generalize fs[i] = f at hN hget
      obtain ⟨ga, o, cs, rfl, hgB, hcs, hu, hcell⟩ := Lies.at HFS.out hget
      obtain ⟨vb, rfl, hvb, hnl, _⟩ := hu
      obtain ⟨ab, cb, rfl⟩ := Lies.slice hvb
      have hga : ga < w.heap.size := by omega
      have q0 := hcell 0 (by decide)
      have q1 := hcell 1 (by decide)
      have q2 := hcell 2 (by decide)
      have q3 := hcell 3 (by decide)
      have q4 := hcell 4 (by decide)
      have q5 := hcell 5 (by decide)
      simp at q0 q1 q2 q3 q4 q5
      rw [← HBL.out.cell (p := ⟨ga, o + i * 6, none⟩) hga] at q0
      rw [← HBL.out.cell (p := ⟨ga, o + i * 6 + 1, none⟩) hga] at q1
      rw [← HBL.out.cell (p := ⟨ga, o + i * 6 + 2, none⟩) hga] at q2
      rw [← HBL.out.cell (p := ⟨ga, o + i * 6 + 3, none⟩) hga] at q3
      rw [← HBL.out.cell (p := ⟨ga, o + i * 6 + 4, none⟩) hga] at q4
      rw [← HBL.out.cell (p := ⟨ga, o + i * 6 + 5, none⟩) hga] at q5
      have hgal : ga < wr.heap.size := World.block_lt_of_cell? wr ⟨ga, o + i * 6, none⟩ q0
      have hml := HM.out.lt
      obtain ⟨W, hW⟩ : ∃ W, W = wr.alloc (.cells #[.string ⟨f.name.toArray⟩, .int .i64 f.params, .int .i64 f.results, .int .i64 f.vars, .int .i64 f.slots, .slice ab f.blocks.length cb] 28) := ⟨_, rfl⟩
      have HBA : Hid (Below w.heap.size w (wr.alloc (.cells #[.string ⟨f.name.toArray⟩, .int .i64 f.params, .int .i64 f.results, .int .i64 f.vars, .int .i64 f.slots, .slice ab f.blocks.length cb] 28))) := HBL.out.alloc (by omega) _
      have HMA : Hid (MapAt (wr.alloc (.cells #[.string ⟨f.name.toArray⟩, .int .i64 f.params, .int .i64 f.results, .int .i64 f.vars, .int .i64 f.slots, .slice ab f.blocks.length cb] 28)) w.heap.size P) := HM.out.same ((below_alloc wr _).block _ hml)
      have HKEY : Hid (_) := key_of f.name hnl
      have HN2 : Hid (_) := hN
      clear hN hget hcell hvb hnl hW W
      go_wp2_with (at_lookup; refine wpList_lookup_own_ok_int _ rfl _ _ 77 rfl 9 3 .i64 lawS Tryd.underlying77 Tryd.underlying3 (zeroI _) w.heap.size _ P rfl HMA.out _ _ rfl HKEY.out ?_)
      intro c hc hwc
      clear hc hwc
      rcases hh : Maps.has P (.string f.name) with _ | _
      · have hN := HN2.out
        simp only [hh, Bool.false_eq_true, if_false] at hN
        have HN4 : Hid (_) := hN
        have HWF : Hid (_) := plainElem_int (H := Unit) Tryd.underlying3 (a := (i : Int)) (WalkArith.wf_i64 (by omega))
        have HSZ : Hid (Maps.size P < maxLen) := by have := HS.out; unfold maxLen Hid; omega
        clear hN
        go_wp2_with (at_mapUpdate; refine wpList_mapUpdate_in _ rfl _ _ _ 77 rfl 9 3 lawS Tryd.underlying77 _ w.heap.size _ P rfl HMA.out HSZ.out _ _ _ rfl rfl HKEY.out _ [] HWF.out ?_)
        intro w4 hown4 hturn4
        have hg4 := hturn4.grown
        have HB4 : Hid (Below w.heap.size w w4) := HBA.out.trans ⟨hg4.os, hg4.tape, hg4.output, hg4.size, fun k hk => hg4.block k (by simp; omega) (fun e => by injection e; omega)⟩
        have HM4 : Hid (MapAt w4 w.heap.size _) := own_tight hown4
        have HS4 : Hid (Maps.size (P.put (.string f.name) (.lit (.int .i64 (i : Int)))) ≤ i + 1) := Nat.le_trans hown4.size_le (by have := HS.out; omega)
        clear hown4 hturn4 hg4
        go_wp2_with fail
        go_roundg g
        case measure => omega
        case rel => exact ⟨i + 1, _, by go_num, by omega, HB4, HM4, HN4, HS4⟩
      · have hN := HN2.out
        simp only [hh, if_true] at hN
        have HN4 : Hid (_) := hN
        clear hN
        go_wp2_with fail
        go_roundg g
        case measure => omega
        case rel => exact ⟨i + 1, _, by go_num, by omega, HBA, HMA, HN4, Nat.le_succ_of_le HS.out⟩

variable {fC fB fO fH : Nat} {cs : Array Value} {N : Int}
set_option maxHeartbeats 2000000 in
theorem argsFit_any (i : Ins) (c : Cod) (vf vb vd va vt : Value) (mp : Nat) (w : World) (hvf : ∃ a n k, vf = .slice a n k) (hvb : ∃ a n k, vb = .slice a n k) (hd : ∃ a n k, vd = .slice a n k) (ha : ∃ a k, va = .slice a i.ar.length k) (ht : ∃ a n k, vt = .slice a n k) :
    Calls Tryd.prog 69 #[chkV fC fB fO fH cs N vf mp c vb, insV i vd va vt] w fun e w' => e = .returned (.bool (argsB c.results i)) ∧ Below w.heap.size w w' := by
  obtain ⟨a1, n1, k1, rfl⟩ := hvf
  obtain ⟨a2, n2, k2, rfl⟩ := hvb
  obtain ⟨a3, n3, k3, rfl⟩ := hd
  obtain ⟨a4, k4, rfl⟩ := ha
  obtain ⟨a5, n5, k5, rfl⟩ := ht
  obtain ⟨op, ds, ar, nn, s, to⟩ := i
  obtain ⟨name, params, results, vars, slots, blocks⟩ := c
  unfold chkV insV argsB tText
  simp only
  generalize ar.length = n4
  rcases h8 : (op == 8) with _ | _
  · rcases h12 : (op == 12) with _ | _
    · go_enter Tryd.func69, Tryd.ntmps69
      go_wp2_with fail
      go_ret
      exact ⟨by simp, below_after (below_alloc _ _) (below_alloc _ _)⟩
    · go_enter Tryd.func69, Tryd.ntmps69
      go_wp2_with fail
      go_ret
      exact ⟨by simp, below_after (below_alloc _ _) (below_alloc _ _)⟩
  · rcases hs : (s == [116, 101, 120, 116]) with _ | _ <;>
     (go_enter Tryd.func69, Tryd.ntmps69
      go_wp2_with fail
      go_ret
      exact ⟨by simp, below_after (below_alloc _ _) (below_alloc _ _)⟩)
end

section
open Go.RowKit Go.Maps
set_option linter.unusedSimpArgs false
set_option linter.unusedVariables false


/-- what a map that was turned leaves -/
theorem turned_below {w w' : World} {b N : Nat} (h : w.mapTurned w' b) (hN : N ≤ b) (hw : N ≤ w.heap.size) : Below N w w' := by
  have hg := h.grown
  exact ⟨hg.os, hg.tape, hg.output, hg.size, fun k hk => hg.block k (by omega) (fun e => by injection e; omega)⟩

variable {fC fB fO fH : Nat} {cs : Array Value} {N : Int}
set_option maxHeartbeats 8000000 in
set_option maxRecDepth 20000 in
theorem invoke_any (i : Ins) (c : Cod) (fs : List Cod) (vf vb vd va vt : Value) (mp B : Nat) (w : World) (hB : B ≤ w.heap.size) (hfs : Cods B w vf fs) (hm : MapAt w mp (plD 0 (.map []) fs)) (hvb : ∃ a n k, vb = .slice a n k)
    (hd : Nums B w vd i.ds) (ha : ∃ a k, va = .slice a i.ar.length k) (ht : ∃ a n k, vt = .slice a n k) (hs : i.s.length ≤ maxLen) :
    Calls Tryd.prog 70 #[chkV fC fB fO fH cs N vf mp c vb, insV i vd va vt] w fun e w' => e = .returned (.int .i64 (invokeF fs i)) ∧ Below w.heap.size w w' := by
  have hmm := @run_makeMap Tryd.prog
  obtain ⟨a1, k1, rfl⟩ := Lies.slice hfs
  obtain ⟨a2, n2, k2, rfl⟩ := hvb
  obtain ⟨ad, kd, rfl⟩ := Lies.slice hd
  obtain ⟨a4, k4, rfl⟩ := ha
  obtain ⟨a5, n5, k5, rfl⟩ := ht
  have hlm := hfs.len
  have hdm := hd.len
  unfold maxLen at hlm hdm
  have hlook := plD_look i.s fs 0 (.map []) isMap_empty rfl
  have HKEY : Hid (_) := key_of i.s hs
  obtain ⟨op, ds, ar, nn, s, to⟩ := i
  obtain ⟨name, params, results, vars, slots, blocks⟩ := c
  unfold chkV insV
  simp only at hlook HKEY hd hdm ⊢
  obtain ⟨r, hr⟩ : ∃ r, r = invokeF fs ⟨op, ds, ar, nn, s, to⟩ := ⟨_, rfl⟩
  rw [← hr]
  unfold invokeF placeOf at hr
  simp only at hr
  have HFS : Hid (Cods B w (.slice a1 fs.length k1) fs) := hfs
  have HD : Hid (Nums B w (.slice ad ds.length kd) ds) := hd
  obtain ⟨D, hD⟩ : ∃ D, D = plD 0 (.map []) fs := ⟨_, rfl⟩
  rw [← hD] at hlook hm
  have HL : Hid (_) := hlook
  have hml := hm.lt
  obtain ⟨n4, hn4⟩ : ∃ n, n = ar.length := ⟨_, rfl⟩
  rw [← hn4] at hr ⊢
  obtain ⟨nd, hnd⟩ : ∃ n, n = ds.length := ⟨_, rfl⟩
  rw [← hnd] at hdm hr ⊢
  have HR : Hid (r = _) := hr
  clear hr
  have HND : Hid (nd = ds.length) := hnd
  obtain ⟨W, hW⟩ : ∃ W, W = (w.alloc (Obj.cells #[Value.func (.func fC) #[] cs, Value.func (.func fB) #[] #[], Value.func (.func fO) #[] #[], Value.func (.func fH) #[] #[], Value.int IntKind.i64 N, Value.slice a1 fs.length k1, Value.map (some mp), Value.string ⟨name.toArray⟩, Value.int IntKind.i64 params, Value.int IntKind.i64 results, Value.int IntKind.i64 vars, Value.int IntKind.i64 slots, Value.slice a2 n2 k2] 95)).alloc (Obj.cells #[Value.int IntKind.i64 op, Value.slice ad nd kd, Value.slice a4 n4 k4, Value.int IntKind.i64 nn, Value.string ⟨s.toArray⟩, Value.slice a5 n5 k5] 37) := ⟨_, rfl⟩
  have HW : Hid (Below w.heap.size w W) := by rw [hW]; exact below_after (below_alloc _ _) (below_alloc _ _)
  have hWs : W.heap.size = w.heap.size + 2 := by rw [hW]; simp
  have HC2 : Hid (W.heap[w.heap.size + 1]? = some (Obj.cells #[Value.int IntKind.i64 op, Value.slice ad nd kd, Value.slice a4 n4 k4, Value.int IntKind.i64 nn, Value.string ⟨s.toArray⟩, Value.slice a5 n5 k5] 37)) := by rw [hW]; exact (heap_alloc2 w _ _).2
  have HM : Hid (MapAt W mp D) := hm.same (HW.out.block _ hml)
  rw [hW] at HM
  clear hlook hfs hd hD hm hn4 hnd
  go_enter Tryd.func70, Tryd.ntmps70
  go_wp2_with (at_lookup; refine wpList_lookup_own_ok_int _ rfl _ _ 77 rfl 9 3 .i64 lawS Tryd.underlying77 Tryd.underlying3 (zeroI _) mp _ D rfl HM.out _ _ rfl HKEY.out ?_)
  intro cc hat hwc
  rw [← hW]
  rw [← hW] at HM
  clear hwc
  have HWS : Hid (W = _) := hW
  clear hW
  rcases hp : fs.findIdx? (fun c => c.name == s) with _ | k
  · have hh := HL.out.1 hp
    clear hat
    have HP : Hid (_) := hp
    clear hp
    rw [hh]
    have HR2 : Hid (r = 6) := by unfold Hid; rw [HR.out, HP.out]
    go_wp2_with fail
    go_ret
    exact ⟨by rw [HR2.out]; rfl, HW.out⟩
  · obtain ⟨hh, hk⟩ := HL.out.2 k hp
    have hcc : cc = (k : Int) := by
      rw [hk] at hat
      injection hat with hat
      injection hat with _ hat
      rw [← hat]; simp
    subst hcc
    have hklt : k < fs.length := by
      have := List.findIdx?_eq_some_iff_getElem.1 hp
      obtain ⟨h, _⟩ := this
      exact h
    have hget : fs[k]? = some fs[k] := List.getElem?_eq_getElem hklt
    have HP : Hid (_) := hp
    clear hk hat hp
    rw [hh]
    generalize fs[k] = f at hget
    obtain ⟨ga, o, cs, rfl, hgB, hcs, hu, hcell⟩ := Lies.at HFS.out hget
    obtain ⟨vb', rfl, hvb', hnl, _⟩ := hu
    obtain ⟨ab, cb, rfl⟩ := Lies.slice hvb'
    have hga : ga < w.heap.size := by omega
    have q0 := hcell 0 (by decide)
    have q1 := hcell 1 (by decide)
    have q2 := hcell 2 (by decide)
    have q3 := hcell 3 (by decide)
    have q4 := hcell 4 (by decide)
    have q5 := hcell 5 (by decide)
    simp at q0 q1 q2 q3 q4 q5
    rw [← HW.out.cell (p := ⟨ga, o + k * 6, none⟩) hga] at q0
    rw [← HW.out.cell (p := ⟨ga, o + k * 6 + 1, none⟩) hga] at q1
    rw [← HW.out.cell (p := ⟨ga, o + k * 6 + 2, none⟩) hga] at q2
    rw [← HW.out.cell (p := ⟨ga, o + k * 6 + 3, none⟩) hga] at q3
    rw [← HW.out.cell (p := ⟨ga, o + k * 6 + 4, none⟩) hga] at q4
    rw [← HW.out.cell (p := ⟨ga, o + k * 6 + 5, none⟩) hga] at q5
    have hlt : (k : Int) < (fs.length : Int) := by omega
    have HGET : Hid (_) := hget
    clear hget hcell hvb' hnl hcs
    have p2 := cells6 HC2.out
    have HC1 : Hid (W.heap[w.heap.size]? = some (Obj.cells #[Value.func (.func fC) #[] cs, Value.func (.func fB) #[] #[], Value.func (.func fO) #[] #[], Value.func (.func fH) #[] #[], Value.int IntKind.i64 N, Value.slice (some ⟨ga, o, none⟩) fs.length k1, Value.map (some mp), Value.string ⟨name.toArray⟩, Value.int IntKind.i64 params, Value.int IntKind.i64 results, Value.int IntKind.i64 vars, Value.int IntKind.i64 slots, Value.slice a2 n2 k2] 95)) := by rw [HWS.out]; exact (heap_alloc2 w _ _).1
    have p1 := cells13 HC1.out
    rcases h1 : ((n4 : Int) != f.params) with _ | _
    · rcases h2 : ((nd : Int) != f.results) with _ | _
      · clear HM HL HKEY HWS
        go_wp2_with fail
        clear q0 q1 q2 q3 q4 q5 p1 p2
        obtain ⟨V, hV⟩ : ∃ V, V = W.alloc (Obj.cells #[Value.string ⟨f.name.toArray⟩, Value.int IntKind.i64 f.params, Value.int IntKind.i64 f.results, Value.int IntKind.i64 f.vars, Value.int IntKind.i64 f.slots, Value.slice ab f.blocks.length cb] 28) := ⟨_, rfl⟩
        have hVs : V.heap.size = w.heap.size + 3 := by rw [hV]; simp; omega
        have HV : Hid (Below W.heap.size W V) := by rw [hV]; exact below_alloc _ _
        rw [← hV]
        clear hV
        have HO0 : Hid ((V.alloc (.map #[] 0)).ownsMap Tryd.prog 3 unitElem (w.heap.size + 3) 0 (.map [] : DataW Unit)) := by have := World.ownsMap_made (H := Unit) V Tryd.prog 3 unitElem; rw [hVs] at this; exact this
        have HB0 : Hid (Below (w.heap.size + 3) V (V.alloc (.map #[] 0))) := by have := below_alloc V (.map #[] 0); rw [hVs] at this; exact this
        go_loopg [44] nd (fun g s44 wr => ∃ (i : Nat), s44 = .int .i64 (i : Nat) ∧ i + g = nd ∧ Hid (Below (w.heap.size + 3) V wr) ∧ Hid (wr.ownsMap Tryd.prog 3 unitElem (w.heap.size + 3) i (foldU (.map []) (ds.take i))))
        case atStart => exact ⟨0, rfl, by omega, HB0, HO0⟩
        case round =>
          clear HB0 HO0
          obtain ⟨i, rfl, hig, HBL, HO⟩ := hrel
          have HC3 : Hid (wr.heap[w.heap.size + 1]? = _) := ((HBL.out.block _ (by omega)).trans (HV.out.block _ (by omega))).trans HC2.out
          have p3 := cells6 HC3.out
          cases gk with
          | zero =>
            have hil : i = nd := by omega
            have hlt2 : ¬ (i : Int) < (nd : Int) := by omega
            have hlt2b : decide ((i : Int) < (nd : Int)) = false := by simpa using hlt2
            have hO := HO.out
            rw [hil, HND.out, List.take_length] at hO
            have HO2 : Hid (_) := hO
            have htw := twice_size ds
            rw [← HND.out] at htw
            have HBF : Hid (Below w.heap.size w wr) := below_after HW.out ((HV.out.mono (Nat.le_refl _)).trans (HBL.out.mono (by omega)))
            have HFIN : Hid (r = if twiceB ds then 7 else 0) := by
              unfold Hid
              rw [HR.out, HP.out]
              simp only [HGET.out, h1, h2]
              simp
            clear hO HO
            rcases ht2 : twiceB ds with _ | _
            · rw [ht2] at htw
              have hno : ¬ ((Maps.size (foldU (.map []) ds) : Int) < (nd : Int)) := by simpa using htw
              clear htw
              go_wp2_with (at_len; refine wpList_len_own _ rfl _ 115 rfl 3 116 Tryd.underlying115 _ (w.heap.size + 3) _ _ rfl HO2.out ?_)
              go_ret
              exact ⟨by rw [HFIN.out, ht2]; rfl, HBF.out⟩
            · rw [ht2] at htw
              have hyes : ((Maps.size (foldU (.map []) ds) : Int) < (nd : Int)) := by simpa using htw
              clear htw
              go_wp2_with (at_len; refine wpList_len_own _ rfl _ 115 rfl 3 116 Tryd.underlying115 _ (w.heap.size + 3) _ _ rfl HO2.out ?_)
              go_ret
              exact ⟨by rw [HFIN.out, ht2]; rfl, HBF.out⟩
          | succ g =>
            have hlt2 : (i : Int) < (nd : Int) := by omega
            have hlt2b : decide ((i : Int) < (nd : Int)) = true := by simpa using hlt2
            have hilt : i < ds.length := by have := HND.out; omega
            have hget : ds[i]? = some ds[i] := List.getElem?_eq_getElem hilt
            have HT : Hid (ds.take (i + 1) = ds.take i ++ [ds[i]]) := by unfold Hid; rw [List.take_add_one, hget]; rfl
            generalize ds[i] = x at hget HT
            obtain ⟨gd, od, cs, rfl, hgd, hcs, hP, hcell⟩ := Lies.at HD.out hget
            obtain ⟨rfl, hx⟩ := hP
            have hgdl : gd < w.heap.size := by omega
            have q0 := hcell 0 (by decide)
            simp at q0
            rw [← HW.out.cell (p := ⟨gd, od + i, none⟩) hgdl, ← HV.out.cell (p := ⟨gd, od + i, none⟩) (by rw [hWs]; exact Nat.lt_of_lt_of_le hgdl (by omega)), ← HBL.out.cell (p := ⟨gd, od + i, none⟩) (Nat.lt_of_lt_of_le hgdl (by omega))] at q0
            have HKX : Hid (_) := keyOf_int_mk (P := Tryd.prog) (k := 3) Tryd.underlying3 (a := x) (WalkArith.wf_i64 ⟨hx.1, by have := hx.2; omega⟩)
            clear hcell hget hcs hx
            go_wp2_with (at_mapUpdate; refine wpList_mapUpdate_in _ rfl _ _ _ 115 rfl 3 116 lawI Tryd.underlying115 _ (w.heap.size + 3) _ _ rfl HO.out (by unfold maxLen; omega) _ _ _ rfl rfl HKX.out _ [] unitElem_mk ?_)
            intro w4 hown4 hturn4
            have hsz : w.heap.size + 3 ≤ wr.heap.size := by have := HO.out.lt; omega
            have HB4 : Hid (Below (w.heap.size + 3) V w4) := HBL.out.trans (turned_below hturn4 (Nat.le_refl _) hsz)
            have HO4 : Hid (w4.ownsMap Tryd.prog 3 unitElem (w.heap.size + 3) (i + 1) (foldU (.map []) (ds.take (i + 1)))) := by unfold Hid; rw [HT.out, foldU_snoc]; exact hown4
            clear hown4 hturn4 p3 q0
            go_wp2_with fail
            go_roundg g
            case measure => omega
            case rel => exact ⟨i + 1, by go_num, by omega, HB4, HO4⟩
      · have HR2 : Hid (r = 10) := by
          unfold Hid
          rw [HR.out, HP.out]
          simp only [HGET.out, h1, h2]
          simp
        go_wp2_with fail
        go_ret
        exact ⟨by rw [HR2.out]; rfl, below_after HW.out (below_alloc _ _)⟩
    · have HR2 : Hid (r = 10) := by
        unfold Hid
        rw [HR.out, HP.out]
        simp only [HGET.out, h1]
        simp
      go_wp2_with fail
      go_ret
      exact ⟨by rw [HR2.out]; rfl, below_after HW.out (below_alloc _ _)⟩
end

section
open Go.RowKit Go.Maps
set_option linter.unusedSimpArgs false
set_option linter.unusedVariables false



set_option maxHeartbeats 4000000 in
set_option maxRecDepth 20000 in
theorem eachI_any (w : World) (B p1 p2 : Nat) (v : Value) (b : List Ins) (E : Nat → Int) (I : Nat → World → Prop) (J : World → Prop) (hb : Blk B w v b) (hB : B ≤ w.heap.size) (hI0 : I 0 w)
    (hkeep : ∀ i w1 w2, I i w1 → Below w1.heap.size w1 w2 → I i w2) (hbel : ∀ i w1, I i w1 → Below B w w1) (hIJ : ∀ i w1, I i w1 → J w1)
    (hlook : ∀ (i : Nat) (x : Ins) (w1 : World) (vd va vt : Value), b[i]? = some x → I i w1 → Nums B w1 vd x.ds → Nums B w1 va x.ar → Nums B w1 vt x.to → x.s.length ≤ maxLen → Calls Tryd.prog 62 #[.int .i64 (i : Int), insV x vd va vt, .pointer (some ⟨p1, 0, none⟩), .pointer (some ⟨p2, 0, none⟩)] w1 fun e w' => e = .returned (.int .i64 (E i)) ∧ (E i = 0 → I (i + 1) w') ∧ J w') :
    Calls Tryd.prog 61 #[v, .func (.func 62) #[] #[.pointer (some ⟨p1, 0, none⟩), .pointer (some ⟨p2, 0, none⟩)]] w fun e w' => e = .returned (.int .i64 (firstNZ E 0 b.length)) ∧ J w' := by
  obtain ⟨a, c, rfl⟩ := Lies.slice hb
  have hlm := hb.len
  unfold maxLen at hlm
  have HBK : Hid (Blk B w (.slice a b.length c) b) := hb
  have HI0 : Hid (_) := hI0
  have HK : Hid (_) := hkeep
  have HBE : Hid (_) := hbel
  have HIJ : Hid (_) := hIJ
  have HL : Hid (_) := hlook
  obtain ⟨r, hr⟩ : ∃ r, r = firstNZ E 0 b.length := ⟨_, rfl⟩
  rw [← hr]
  have HR : Hid (r = firstNZ E 0 b.length) := hr
  clear hb hI0 hkeep hbel hIJ hlook hr
  obtain ⟨n, hn⟩ : ∃ n, n = b.length := ⟨_, rfl⟩
  rw [← hn] at hlm HR ⊢
  have HN : Hid (n = b.length) := hn
  clear hn
  go_enter Tryd.func61, Tryd.ntmps61
  go_wp2_with fail
  go_loopg [10] n (fun g s10 wr => ∃ (i : Nat), s10 = .int .i64 (i : Nat) ∧ i + g = n ∧ Hid (I i wr) ∧ Hid (r = firstNZ E i g))
  case atStart => exact ⟨0, rfl, by omega, HI0, HR⟩
  case round =>
    clear HI0 HR
    obtain ⟨i, rfl, hig, HI, HR⟩ := hrel
    cases gk with
    | zero =>
      have hlt : ¬ (i : Int) < (n : Int) := by omega
      have hltb : decide ((i : Int) < (n : Int)) = false := by simpa using hlt
      have HR2 : Hid (r = 0) := HR.out
      go_wp2_with fail
      go_ret
      exact ⟨by rw [HR2.out]; rfl, HIJ.out _ _ HI.out⟩
    | succ g =>
      have hlt : (i : Int) < (n : Int) := by omega
      have hltb : decide ((i : Int) < (n : Int)) = true := by simpa using hlt
      have hilt : i < b.length := by have := HN.out; omega
      have hget : b[i]? = some b[i] := List.getElem?_eq_getElem hilt
      generalize b[i] = x at hget
      have hbe := HBE.out _ _ HI.out
      obtain ⟨ga, o, cs, rfl, hgB, hcs, hu, hcell⟩ := Lies.at HBK.out hget
      obtain ⟨vd, va, vt, rfl, hd, ha, ht, hsl, _⟩ := hu
      obtain ⟨ad, cd, rfl⟩ := Lies.slice hd
      obtain ⟨aa, ca, rfl⟩ := Lies.slice ha
      obtain ⟨at', ct, rfl⟩ := Lies.slice ht
      have q0 := hcell 0 (by decide)
      have q1 := hcell 1 (by decide)
      have q2 := hcell 2 (by decide)
      have q3 := hcell 3 (by decide)
      have q4 := hcell 4 (by decide)
      have q5 := hcell 5 (by decide)
      simp at q0 q1 q2 q3 q4 q5
      rw [← hbe.cell (p := ⟨ga, o + i * 6, none⟩) hgB] at q0
      rw [← hbe.cell (p := ⟨ga, o + i * 6 + 1, none⟩) hgB] at q1
      rw [← hbe.cell (p := ⟨ga, o + i * 6 + 2, none⟩) hgB] at q2
      rw [← hbe.cell (p := ⟨ga, o + i * 6 + 3, none⟩) hgB] at q3
      rw [← hbe.cell (p := ⟨ga, o + i * 6 + 4, none⟩) hgB] at q4
      rw [← hbe.cell (p := ⟨ga, o + i * 6 + 5, none⟩) hgB] at q5
      have hgal : ga < wr.heap.size := World.block_lt_of_cell? wr _ q0
      have HI2 : Hid (I i (wr.alloc (.cells #[.int .i64 x.op, .slice ad x.ds.length cd, .slice aa x.ar.length ca, .int .i64 x.n, .string ⟨x.s.toArray⟩, .slice at' x.to.length ct] 37))) := HK.out _ _ _ HI.out (below_alloc _ _)
      have hbe2 : Below B w (wr.alloc (.cells #[.int .i64 x.op, .slice ad x.ds.length cd, .slice aa x.ar.length ca, .int .i64 x.n, .string ⟨x.s.toArray⟩, .slice at' x.to.length ct] 37)) := HBE.out _ _ HI2.out
      have HD : Hid (Nums B (wr.alloc (.cells #[.int .i64 x.op, .slice ad x.ds.length cd, .slice aa x.ar.length ca, .int .i64 x.n, .string ⟨x.s.toArray⟩, .slice at' x.to.length ct] 37)) _ x.ds) := Nums.below hd hbe2
      have HA : Hid (Nums B (wr.alloc (.cells #[.int .i64 x.op, .slice ad x.ds.length cd, .slice aa x.ar.length ca, .int .i64 x.n, .string ⟨x.s.toArray⟩, .slice at' x.to.length ct] 37)) _ x.ar) := Nums.below ha hbe2
      have HT : Hid (Nums B (wr.alloc (.cells #[.int .i64 x.op, .slice ad x.ds.length cd, .slice aa x.ar.length ca, .int .i64 x.n, .string ⟨x.s.toArray⟩, .slice at' x.to.length ct] 37)) _ x.to) := Nums.below ht hbe2
      have HSL : Hid (_) := hsl
      clear hd ha ht hsl hbe2
      have HGET : Hid (_) := hget
      clear hcell hget hcs hbe
      go_wp2_with fail
      refine (HL.out i x _ _ _ _ HGET.out HI2.out HD.out HA.out HT.out HSL.out).mono ?_
      rintro e w1 ⟨rfl, hi1, hj1⟩
      have HI3 : Hid (_) := hi1
      have HJ3 : Hid (_) := hj1
      clear hi1 hj1
      rcases hE : (E i != 0) with _ | _
      · have HR2 : Hid (r = firstNZ E (i + 1) g) := by unfold Hid; rw [HR.out, firstNZ_step E i g hE]
        have hE0 : E i = 0 := by simpa using hE
        have HI4 : Hid (I (i + 1) w1) := HI3.out hE0
        clear hE0
        go_wp2_with fail
        go_roundg g
        case measure => omega
        case rel => exact ⟨i + 1, by go_num, by omega, HI4, HR2⟩
      · have HR2 : Hid (r = E i) := by unfold Hid; rw [HR.out, firstNZ_hit E i g hE]
        go_wp2_with fail
        go_ret
        exact ⟨by rw [HR2.out]; rfl, HJ3.out⟩

set_option maxHeartbeats 4000000 in
set_option maxRecDepth 20000 in
theorem eachB_any (w : World) (B p1 p2 p3 : Nat) (v : Value) (b : List (List Ins)) (E : Nat → Int) (I : Nat → World → Prop) (J : World → Prop) (hb : Blks B w v b) (hB : B ≤ w.heap.size) (hI0 : I 0 w)
    (hkeep : ∀ i w1 w2, I i w1 → Below w1.heap.size w1 w2 → I i w2) (hbel : ∀ i w1, I i w1 → Below B w w1) (hIJ : ∀ i w1, I i w1 → J w1)
    (hlook : ∀ (i : Nat) (x : (List Ins)) (w1 : World) (vb : Value), b[i]? = some x → I i w1 → Blk B w1 vb x → Calls Tryd.prog 56 #[.int .i64 (i : Int), vb, .pointer (some ⟨p1, 0, none⟩), .pointer (some ⟨p2, 0, none⟩), .pointer (some ⟨p3, 0, none⟩)] w1 fun e w' => e = .returned (.int .i64 (E i)) ∧ (E i = 0 → I (i + 1) w') ∧ J w') :
    Calls Tryd.prog 55 #[v, .func (.func 56) #[] #[.pointer (some ⟨p1, 0, none⟩), .pointer (some ⟨p2, 0, none⟩), .pointer (some ⟨p3, 0, none⟩)]] w fun e w' => e = .returned (.int .i64 (firstNZ E 0 b.length)) ∧ J w' := by
  obtain ⟨a, c, rfl⟩ := Lies.slice hb
  have hlm := hb.len
  unfold maxLen at hlm
  have HBK : Hid (Blks B w (.slice a b.length c) b) := hb
  have HI0 : Hid (_) := hI0
  have HK : Hid (_) := hkeep
  have HBE : Hid (_) := hbel
  have HIJ : Hid (_) := hIJ
  have HL : Hid (_) := hlook
  obtain ⟨r, hr⟩ : ∃ r, r = firstNZ E 0 b.length := ⟨_, rfl⟩
  rw [← hr]
  have HR : Hid (r = firstNZ E 0 b.length) := hr
  clear hb hI0 hkeep hbel hIJ hlook hr
  obtain ⟨n, hn⟩ : ∃ n, n = b.length := ⟨_, rfl⟩
  rw [← hn] at hlm HR ⊢
  have HN : Hid (n = b.length) := hn
  clear hn
  go_enter Tryd.func55, Tryd.ntmps55
  go_wp2_with fail
  go_loopg [10] n (fun g s10 wr => ∃ (i : Nat), s10 = .int .i64 (i : Nat) ∧ i + g = n ∧ Hid (I i wr) ∧ Hid (r = firstNZ E i g))
  case atStart => exact ⟨0, rfl, by omega, HI0, HR⟩
  case round =>
    clear HI0 HR
    obtain ⟨i, rfl, hig, HI, HR⟩ := hrel
    cases gk with
    | zero =>
      have hlt : ¬ (i : Int) < (n : Int) := by omega
      have hltb : decide ((i : Int) < (n : Int)) = false := by simpa using hlt
      have HR2 : Hid (r = 0) := HR.out
      go_wp2_with fail
      go_ret
      exact ⟨by rw [HR2.out]; rfl, HIJ.out _ _ HI.out⟩
    | succ g =>
      have hlt : (i : Int) < (n : Int) := by omega
      have hltb : decide ((i : Int) < (n : Int)) = true := by simpa using hlt
      have hilt : i < b.length := by have := HN.out; omega
      have hget : b[i]? = some b[i] := List.getElem?_eq_getElem hilt
      generalize b[i] = x at hget
      have hbe := HBE.out _ _ HI.out
      obtain ⟨ga, o, cs, rfl, hgB, hcs, hu, hcell⟩ := Lies.at HBK.out hget
      obtain ⟨vb, rfl, hvb⟩ := hu
      obtain ⟨ab, cb, rfl⟩ := Lies.slice hvb
      have q0 := hcell 0 (by decide)
      simp at q0
      rw [← hbe.cell (p := ⟨ga, o + i, none⟩) hgB] at q0
      have hgal : ga < wr.heap.size := World.block_lt_of_cell? wr _ q0
      have HI2 : Hid (I i wr) := HI
      have HV : Hid (Blk B wr _ x) := Blk.below hvb hbe
      clear hvb
      have HGET : Hid (_) := hget
      clear hcell hget hcs hbe
      go_wp2_with fail
      refine (HL.out i x _ _ HGET.out HI2.out HV.out).mono ?_
      rintro e w1 ⟨rfl, hi1, hj1⟩
      have HI3 : Hid (_) := hi1
      have HJ3 : Hid (_) := hj1
      clear hi1 hj1
      rcases hE : (E i != 0) with _ | _
      · have HR2 : Hid (r = firstNZ E (i + 1) g) := by unfold Hid; rw [HR.out, firstNZ_step E i g hE]
        have hE0 : E i = 0 := by simpa using hE
        have HI4 : Hid (I (i + 1) w1) := HI3.out hE0
        clear hE0
        go_wp2_with fail
        go_roundg g
        case measure => omega
        case rel => exact ⟨i + 1, by go_num, by omega, HI4, HR2⟩
      · have HR2 : Hid (r = E i) := by unfold Hid; rw [HR.out, firstNZ_hit E i g hE]
        go_wp2_with fail
        go_ret
        exact ⟨by rw [HR2.out]; rfl, HJ3.out⟩
end

end Go.Proofs.YthlngmknifpbjaaDoor
