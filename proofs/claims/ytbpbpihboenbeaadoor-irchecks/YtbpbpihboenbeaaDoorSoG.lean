/-
  placesOf, argsFit.
-/
import Derived.Test.YtbpbpihboenbeaaDoorSoF
namespace Go.Proofs.YtbpbpihboenbeaaDoor
open Go.RowKit Go.Maps
set_option linter.unusedSimpArgs false
set_option linter.unusedVariables false

set_option maxHeartbeats 4000000 in
set_option maxRecDepth 20000 in
theorem placesOf_any (w : World) (B : Nat) (vf : Value) (fs : List Cod) (hfs : Cods B w vf fs) (hBw : B ≤ w.heap.size) :
    Calls Tryd.prog 31 #[vf] w fun e w' => e = .returned (.map (some w.heap.size)) ∧ MapAt w' w.heap.size (plD 0 (.map []) fs) ∧ Below w.heap.size w w' := by
  have hmm := @run_makeMap Tryd.prog
  obtain ⟨a, c, rfl⟩ := Lies.slice hfs
  have hlm := hfs.len
  unfold maxLen at hlm
  have HFS : Hid (Cods B w (.slice a fs.length c) fs) := hfs
  have HB0 : Hid (Below w.heap.size w (w.alloc (.map #[] 0))) := (Below.refl _ _).alloc (Nat.le_refl _) _
  have HM0 : Hid (MapAt (w.alloc (.map #[] 0)) w.heap.size (.map [])) := mapAt_made w
  clear hfs
  go_enter Tryd.func31, Tryd.ntmps31
  go_wp2_with fail
  go_loopg [11] fs.length (fun g s11 wr => ∃ (i : Nat) (P : DataW Unit), s11 = .int .i64 (i : Nat) ∧ i + g = fs.length ∧ Hid (Below w.heap.size w wr) ∧ Hid (MapAt wr w.heap.size P) ∧ Hid (plD i P (fs.drop i) = plD 0 (.map []) fs) ∧ Hid (Maps.size P ≤ i))
  case atStart => exact ⟨0, .map [], rfl, by omega, HB0, HM0, rfl, Nat.le_refl _⟩
  case round =>
    clear HB0 HM0
    obtain ⟨i, P, rfl, hig, HBL, HM, HN, HS⟩ := hrel
    have hN := HN.out
    clear HN
    cases gk with
    | zero =>
      have hil : i = fs.length := by omega
      have hlt : ¬ (i : Int) < (fs.length : Int) := by omega
      have hltb : decide ((i : Int) < (fs.length : Int)) = false := by simpa using hlt
      rw [hil, List.drop_length] at hN
      simp only [plD] at hN
      have HN2 : Hid (P = plD 0 (.map []) fs) := hN
      clear hN
      go_wp2_with fail
      go_ret
      exact ⟨rfl, HN2.out ▸ HM.out, HBL.out⟩
    | succ g =>
      have hlt : (i : Int) < (fs.length : Int) := by omega
      have hltb : decide ((i : Int) < (fs.length : Int)) = true := by simpa using hlt
      have hilt : i < fs.length := by omega
      have hget : fs[i]? = some fs[i] := List.getElem?_eq_getElem hilt
      rw [List.drop_eq_getElem_cons hilt] at hN
      simp only [plD] at hN
      generalize fs[i] = f at hN hget
      obtain ⟨ga, o, cs, rfl, hgB, hcs, hu, hcell⟩ := Lies.at HFS.out hget
      obtain ⟨vb, rfl, hvb, hnl, _⟩ := hu
      obtain ⟨ab, cb, rfl⟩ := Lies.slice hvb
      have hga : ga < w.heap.size := by omega
      have q0 := hcell 0 (by decide)
      have q1 := hcell 1 (by decide)
      have q2 := hcell 2 (by decide)
      have q3 := hcell 3 (by decide)
      have q4 := hcell 4 (by decide)
      have q5 := hcell 5 (by decide)
      simp at q0 q1 q2 q3 q4 q5
      rw [← HBL.out.cell (p := ⟨ga, o + i * 6, none⟩) hga] at q0
      rw [← HBL.out.cell (p := ⟨ga, o + i * 6 + 1, none⟩) hga] at q1
      rw [← HBL.out.cell (p := ⟨ga, o + i * 6 + 2, none⟩) hga] at q2
      rw [← HBL.out.cell (p := ⟨ga, o + i * 6 + 3, none⟩) hga] at q3
      rw [← HBL.out.cell (p := ⟨ga, o + i * 6 + 4, none⟩) hga] at q4
      rw [← HBL.out.cell (p := ⟨ga, o + i * 6 + 5, none⟩) hga] at q5
      have hgal : ga < wr.heap.size := World.block_lt_of_cell? wr ⟨ga, o + i * 6, none⟩ q0
      have hml := HM.out.lt
      obtain ⟨W, hW⟩ : ∃ W, W = wr.alloc (.cells #[.string ⟨f.name.toArray⟩, .int .i64 f.params, .int .i64 f.results, .int .i64 f.vars, .int .i64 f.slots, .slice ab f.blocks.length cb] 28) := ⟨_, rfl⟩
      have HBA : Hid (Below w.heap.size w (wr.alloc (.cells #[.string ⟨f.name.toArray⟩, .int .i64 f.params, .int .i64 f.results, .int .i64 f.vars, .int .i64 f.slots, .slice ab f.blocks.length cb] 28))) := HBL.out.alloc (by omega) _
      have HMA : Hid (MapAt (wr.alloc (.cells #[.string ⟨f.name.toArray⟩, .int .i64 f.params, .int .i64 f.results, .int .i64 f.vars, .int .i64 f.slots, .slice ab f.blocks.length cb] 28)) w.heap.size P) := HM.out.same ((below_alloc wr _).block _ hml)
      have HKEY : Hid (_) := key_of f.name hnl
      have HN2 : Hid (_) := hN
      clear hN hget hcell hvb hnl hW W
      go_wp2_with (at_lookup; refine wpList_lookup_own_ok_int _ rfl _ _ 57 rfl 9 3 .i64 lawS Tryd.underlying57 Tryd.underlying3 (zeroI _) w.heap.size _ P rfl HMA.out _ _ rfl HKEY.out ?_)
      intro c hc hwc
      clear hc hwc
      rcases hh : Maps.has P (.string f.name) with _ | _
      · have hN := HN2.out
        simp only [hh, Bool.false_eq_true, if_false] at hN
        have HN4 : Hid (_) := hN
        have HWF : Hid (_) := plainElem_int (H := Unit) Tryd.underlying3 (a := (i : Int)) (WalkArith.wf_i64 (by omega))
        have HSZ : Hid (Maps.size P < maxLen) := by have := HS.out; unfold maxLen Hid; omega
        clear hN
        go_wp2_with (at_mapUpdate; refine wpList_mapUpdate_in _ rfl _ _ _ 57 rfl 9 3 lawS Tryd.underlying57 _ w.heap.size _ P rfl HMA.out HSZ.out _ _ _ rfl rfl HKEY.out _ [] HWF.out ?_)
        intro w4 hown4 hturn4
        have hg4 := hturn4.grown
        have HB4 : Hid (Below w.heap.size w w4) := HBA.out.trans ⟨hg4.os, hg4.tape, hg4.output, hg4.size, fun k hk => hg4.block k (by simp; omega) (fun e => by injection e; omega)⟩
        have HM4 : Hid (MapAt w4 w.heap.size _) := own_tight hown4
        have HS4 : Hid (Maps.size (P.put (.string f.name) (.lit (.int .i64 (i : Int)))) ≤ i + 1) := Nat.le_trans hown4.size_le (by have := HS.out; omega)
        clear hown4 hturn4 hg4
        go_wp2_with fail
        go_roundg g
        case measure => omega
        case rel => exact ⟨i + 1, _, by go_num, by omega, HB4, HM4, HN4, HS4⟩
      · have hN := HN2.out
        simp only [hh, if_true] at hN
        have HN4 : Hid (_) := hN
        clear hN
        go_wp2_with fail
        go_roundg g
        case measure => omega
        case rel => exact ⟨i + 1, _, by go_num, by omega, HBA, HMA, HN4, Nat.le_succ_of_le HS.out⟩

variable {fC fB fO fH : Nat} {cs : Array Value} {N : Int}
set_option maxHeartbeats 2000000 in
theorem argsFit_any (i : Ins) (c : Cod) (vf vb vd va vt : Value) (mp : Nat) (w : World) (hvf : ∃ a n k, vf = .slice a n k) (hvb : ∃ a n k, vb = .slice a n k) (hd : ∃ a n k, vd = .slice a n k) (ha : ∃ a k, va = .slice a i.ar.length k) (ht : ∃ a n k, vt = .slice a n k) :
    Calls Tryd.prog 72 #[chkV fC fB fO fH cs N vf mp c vb, insV i vd va vt] w fun e w' => e = .returned (.bool (argsB c.results i)) ∧ Below w.heap.size w w' := by
  obtain ⟨a1, n1, k1, rfl⟩ := hvf
  obtain ⟨a2, n2, k2, rfl⟩ := hvb
  obtain ⟨a3, n3, k3, rfl⟩ := hd
  obtain ⟨a4, k4, rfl⟩ := ha
  obtain ⟨a5, n5, k5, rfl⟩ := ht
  obtain ⟨op, ds, ar, nn, s, to⟩ := i
  obtain ⟨name, params, results, vars, slots, blocks⟩ := c
  unfold chkV insV argsB tText
  simp only
  generalize ar.length = n4
  rcases h8 : (op == 8) with _ | _
  · rcases h12 : (op == 12) with _ | _
    · go_enter Tryd.func72, Tryd.ntmps72
      go_wp2_with fail
      go_ret
      exact ⟨by simp, below_after (below_alloc _ _) (below_alloc _ _)⟩
    · go_enter Tryd.func72, Tryd.ntmps72
      go_wp2_with fail
      go_ret
      exact ⟨by simp, below_after (below_alloc _ _) (below_alloc _ _)⟩
  · rcases hs : (s == [116, 101, 120, 116]) with _ | _ <;>
     (go_enter Tryd.func72, Tryd.ntmps72
      go_wp2_with fail
      go_ret
      exact ⟨by simp, below_after (below_alloc _ _) (below_alloc _ _)⟩)

end Go.Proofs.YtbpbpihboenbeaaDoor
