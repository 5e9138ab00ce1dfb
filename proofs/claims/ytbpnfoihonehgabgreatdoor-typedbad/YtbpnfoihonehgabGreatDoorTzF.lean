/-
  The places of functions, by their names.
-/
import Derived.Test.YtbpnfoihonehgabGreatDoorTzE
namespace Go.Proofs.YtbpnfoihonehgabGreatDoor
open Go.RowKit Go.Maps
set_option linter.unusedSimpArgs false
set_option linter.unusedVariables false

def placesT : Nat → DataW Unit → List Fn' → Option (Sum (Nat × Int) (DataW Unit))
  | _, P, [] => some (.inr P)
  | i, P, f :: fs => if 1000000 < f.name.length then none else if 1000000 < Maps.size P then none else
    if nameB f.name then (if Maps.has P (.string f.name) then some (.inl (i, 7)) else placesT (i + 1) (P.put (.string f.name) (.lit (.int .i64 (i : Int)))) fs) else some (.inl (i, 4))

def plE (mb : Nat) : Sum (Nat × Int) (DataW Unit) → Ending
  | .inl p => .returned (.tuple #[.map none, .int .i64 (p.1 : Int), .int .i64 p.2])
  | .inr _ => .returned (.tuple #[.map (some mb), .int .i64 0, .int .i64 0])

def plOk (mb : Nat) (w : World) : Sum (Nat × Int) (DataW Unit) → Prop
  | .inl _ => True
  | .inr P => MapAt w mb P

theorem mapAt_made (w : World) : MapAt (w.alloc (.map #[] 0)) w.heap.size (.map []) := own_tight (World.ownsMap_made (H := Unit) w Tryz.prog 9 (plainElem Tryz.prog 3))

set_option maxHeartbeats 4000000 in
set_option maxRecDepth 20000 in
theorem placesOf_any (w : World) (B : Nat) (fv : Value) (fs : List Fn') (r : Sum (Nat × Int) (DataW Unit)) (hfs : FsAt w B fv fs) (ht : TabT w) (hG : 9 ≤ B) (hBw : B ≤ w.heap.size) (hfl : fs.length ≤ 1000) (hr : placesT 0 (.map []) fs = some r) :
    Calls Tryz.prog 14 #[fv] w fun e w' => e = plE w.heap.size r ∧ plOk w.heap.size w' r ∧ Below w.heap.size w w' := by
  have hmm := @run_makeMap Tryz.prog
  obtain ⟨a, c, rfl⟩ := Row.slice hfs
  have HFS : Hid (FsAt w B (.slice a fs.length c) fs) := hfs
  have HT : Hid (TabT w) := ht
  have HB0 : Hid (Below w.heap.size w (w.alloc (.map #[] 0))) := (Below.refl _ _).alloc (Nat.le_refl _) _
  have HM0 : Hid (MapAt (w.alloc (.map #[] 0)) w.heap.size (.map [])) := mapAt_made w
  have HR : Hid (placesT 0 (.map []) (fs.drop 0) = some r) := hr
  clear hfs ht hr
  go_enter Tryz.func14, Tryz.ntmps14
  go_wp2_with fail
  go_loopg [13] fs.length (fun g s13 wr => ∃ (i : Nat) (P : DataW Unit), s13 = .int .i64 (i : Nat) ∧ i + g = fs.length ∧ Hid (Below w.heap.size w wr) ∧ Hid (MapAt wr w.heap.size P) ∧ Hid (placesT i P (fs.drop i) = some r))
  case atStart => exact ⟨0, .map [], rfl, by omega, HB0, HM0, HR⟩
  case round =>
    clear HB0 HM0 HR
    obtain ⟨i, P, rfl, hig, HBL, HM, HN⟩ := hrel
    have hN := HN.out
    clear HN
    cases gk with
    | zero =>
      have hil : i = fs.length := by omega
      have hlt : ¬ (i : Int) < (fs.length : Int) := by omega
      have hltb : decide ((i : Int) < (fs.length : Int)) = false := by simpa using hlt
      rw [hil, List.drop_length] at hN
      simp only [placesT, Option.some.injEq] at hN
      have HN2 : Hid (.inr P = r) := hN
      clear hN
      go_wp2_with fail
      go_ret3
      refine ⟨by rw [← HN2.out]; rfl, ?_, HBL.out⟩
      rw [← HN2.out]
      exact HM.out
    | succ g =>
      have hlt : (i : Int) < (fs.length : Int) := by omega
      have hltb : decide ((i : Int) < (fs.length : Int)) = true := by simpa using hlt
      have hilt : i < fs.length := by omega
      have hget : fs[i]? = some fs[i] := List.getElem?_eq_getElem hilt
      rw [List.drop_eq_getElem_cons hilt] at hN
      simp only [placesT] at hN
      generalize fs[i] = f at hN hget
      by_cases hl5 : 1000000 < f.name.length
      · rw [if_pos hl5] at hN; cases hN
      rw [if_neg hl5] at hN
      by_cases hl6 : 1000000 < Maps.size P
      · rw [if_pos hl6] at hN; cases hN
      rw [if_neg hl6] at hN
      obtain ⟨ga, ca, u, hva, hgB, hu, hcell⟩ := Row.at HFS.out 4 isFn_len i _ hget
      cases hva
      obtain ⟨ap, ab, rfl, hrp, hrb⟩ := hu
      obtain ⟨ap, cp, rfl⟩ := hrp.slice
      obtain ⟨ab, cq, rfl⟩ := hrb.slice
      have hga : ga < w.heap.size := by omega
      have q0 := hcell 0 (by decide)
      have q1 := hcell 1 (by decide)
      have q2 := hcell 2 (by decide)
      have q3 := hcell 3 (by decide)
      simp only [Value.cells, Nat.add_zero] at q0 q1 q2 q3
      simp at q0 q1 q2 q3
      rw [← HBL.out.cell (p := ⟨ga, i * 4, none⟩) hga] at q0
      rw [← HBL.out.cell (p := ⟨ga, i * 4 + 1, none⟩) hga] at q1
      rw [← HBL.out.cell (p := ⟨ga, i * 4 + 2, none⟩) hga] at q2
      rw [← HBL.out.cell (p := ⟨ga, i * 4 + 3, none⟩) hga] at q3
      have hgal : ga < wr.heap.size := World.block_lt_of_cell? wr ⟨ga, i * 4, none⟩ q0
      have hml := HM.out.lt
      have hka : Below wr.heap.size wr (wr.alloc (.cells #[.string ⟨f.name.toArray⟩, .slice ap f.params.length cp, .int .i64 f.result, .slice ab f.body.length cq] 33)) := (Below.refl _ _).alloc (Nat.le_refl _) _
      have hba : Below w.heap.size w (wr.alloc (.cells #[.string ⟨f.name.toArray⟩, .slice ap f.params.length cp, .int .i64 f.result, .slice ab f.body.length cq] 33)) := HBL.out.alloc (by omega) _
      have HBA : Hid (Below w.heap.size w (wr.alloc (.cells #[.string ⟨f.name.toArray⟩, .slice ap f.params.length cp, .int .i64 f.result, .slice ab f.body.length cq] 33))) := hba
      have HMA : Hid (MapAt (wr.alloc (.cells #[.string ⟨f.name.toArray⟩, .slice ap f.params.length cp, .int .i64 f.result, .slice ab f.body.length cq] 33)) w.heap.size P) := HM.out.same (hka.block _ hml)
      have HKW : Hid (_) := (HT.out.below (Nat.le_trans hG hBw) (Nat.le_refl _) hba).kw
      have HKEY : Hid (_) := key_of f.name (by omega)
      have HN2 : Hid (_) := hN
      have hps : Maps.size P ≤ 1000000 := by omega
      clear hN hget hcell hrp hrb hka hba hl6
      go_wp2_with fail
      refine (isName_any f.name _ HKW.out).mono ?_
      rintro e w1 ⟨rfl, hw1⟩
      have hw1' := hw1.symm
      subst hw1'
      rcases hn : nameB f.name with _ | _
      · have hN := HN2.out
        simp only [hn, Bool.false_eq_true, if_false, Option.some.injEq] at hN
        have HN3 : Hid (.inl (i, 4) = r) := hN
        clear hN
        go_wp2_with fail
        go_ret3
        refine ⟨by rw [← HN3.out]; rfl, ?_, HBA.out⟩
        rw [← HN3.out]; trivial
      · have hN := HN2.out
        simp only [hn, if_true] at hN
        have HN3 : Hid (_) := hN
        clear hN
        go_wp2_with (at_lookup; refine wpList_lookup_own_ok_int _ rfl _ _ 52 rfl 9 3 .i64 lawS Tryz.underlying52 Tryz.underlying3 (zeroI _) w.heap.size _ P rfl HMA.out _ _ rfl HKEY.out ?_)
        intro c hc hwc
        clear hc hwc
        rcases hh : Maps.has P (.string f.name) with _ | _
        · have hN := HN3.out
          simp only [hh, Bool.false_eq_true, if_false] at hN
          have HN4 : Hid (_) := hN
          have hwf2 : (Lit.int .i64 (i : Int)).wf = true := WalkArith.wf_i64 (by omega)
          have HWF : Hid (_) := plainElem_int (H := Unit) Tryz.underlying3 hwf2
          clear hN hwf2
          go_wp2_with (at_mapUpdate; refine wpList_mapUpdate_in _ rfl _ _ _ 52 rfl 9 3 lawS Tryz.underlying52 _ w.heap.size _ P rfl HMA.out (by unfold maxLen; omega) _ _ _ rfl rfl HKEY.out _ [] HWF.out ?_)
          intro w4 hown4 hturn4
          have hg4 := hturn4.grown
          have HB4 : Hid (Below w.heap.size w w4) := HBA.out.trans ⟨hg4.os, hg4.tape, hg4.output, hg4.size, fun k hk => hg4.block k (by simp; omega) (fun e => by injection e; omega)⟩
          have HM4 : Hid (_) := own_tight hown4
          clear hown4 hturn4 hg4
          go_wp2_with fail
          go_roundg g
          case measure => omega
          case rel => exact ⟨i + 1, _, by go_num, by omega, HB4, HM4, HN4⟩
        · have hN := HN3.out
          simp only [hh, if_true, Option.some.injEq] at hN
          have HN4 : Hid (.inl (i, 7) = r) := hN
          clear hN
          go_wp2_with fail
          go_ret3
          refine ⟨by rw [← HN4.out]; rfl, ?_, HBA.out⟩
          rw [← HN4.out]; trivial

end Go.Proofs.YtbpnfoihonehgabGreatDoor
