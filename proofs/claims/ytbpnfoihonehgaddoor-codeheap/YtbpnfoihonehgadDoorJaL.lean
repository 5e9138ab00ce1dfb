/-
  A run.
-/
import Derived.Test.YtbpnfoihonehgadDoorJaK
namespace Go.Proofs.YtbpnfoihonehgadDoor
open Go.RowKit
set_option linter.unusedSimpArgs false
set_option linter.unusedVariables false

variable {w : World} {col : Nat → Nat} {B m mp : Nat} {vf : Value} {fs : List Cod} {vh vl vc vv : Value} {q : Mst}

set_option maxHeartbeats 2000000 in
set_option maxRecDepth 20000 in
theorem run_any (h : Mach w col B m mp vf fs vh vl vc vv q) (fuel : Nat) (hf : fuel ≤ 1000000) (r : Int) (q' : Mst) (hq : runM fuel q = some (r, q')) :
    Calls Tryd.prog 11 #[.pointer (some ⟨m, 0, none⟩), .int .i64 (fuel : Int)] w fun e w' => e = .returned (.int .i64 r) ∧ Final w col B m q'.lines w' := by
  have HA : Hid (After w col B m mp vf fs q w) := After.mk h (Fr.refl _ _)
  have HQ : Hid (runM fuel q = some (r, q')) := hq
  have hfI : (fuel : Int) ≤ 1000000 := by omega
  clear h hq
  go_enter Tryd.func11, Tryd.ntmps11
  go_wp2_with fail
  go_loopg [7] fuel (fun g s7 wr => ∃ (i : Nat) (qi : Mst), s7 = .int .i64 (i : Nat) ∧ i + g = fuel ∧ Hid (After w col B m mp vf fs qi wr) ∧ Hid (runM g qi = some (r, q')))
  case atStart => exact ⟨0, q, rfl, by omega, HA, HQ⟩
  case round =>
    clear HA HQ
    obtain ⟨i, qi, rfl, hig, HA, HQ⟩ := hrel
    cases gk with
    | zero =>
      have hlt : ¬ (i : Int) < (fuel : Int) := by omega
      have hltb : decide ((i : Int) < (fuel : Int)) = false := by simpa using hlt
      have hq := HQ.out
      unfold runM at hq
      injection hq with hq
      injection hq with hr hq
      subst hr
      subst hq
      go_wp2_with fail
      go_ret
      exact ⟨rfl, Final.of_after HA.out⟩
    | succ g =>
      have hlt : (i : Int) < (fuel : Int) := by omega
      have hltb : decide ((i : Int) < (fuel : Int)) = true := by simpa using hlt
      have hq := HQ.out
      unfold runM at hq
      cases es : stepM qi with
      | none => rw [es] at hq; cases hq
      | some p =>
        obtain ⟨e1, q1⟩ := p
        rw [es] at hq
        simp only at hq
        obtain ⟨c1, vh1, vl1, vc1, vv1, hM, hF⟩ := HA.out
        have HF : Hid (Fr w col wr c1) := hF
        have HST : Hid (_) := step_any hM e1 q1 es
        clear es hM hF HA HQ
        rcases he : (e1 == 0) with _ | _
        · rw [he] at hq
          simp only [Bool.false_eq_true, if_false] at hq
          injection hq with hq
          injection hq with hr hq
          subst hr
          subst hq
          have hne : (e1 != 0) = true := by simp [bne, he]
          have hne0 : e1 ≠ 0 := by simpa using hne
          go_wp2_with fail
          refine Calls.mono HST.out ?_
          rintro e w2 ⟨rfl, hout⟩
          have HFIN : Hid (Final w col B m q1.lines w2) := by
            unfold Out at hout
            rw [if_neg hne0] at hout
            exact Final.of HF.out hout
          clear hout
          go_wp2_with fail
          go_ret
          exact ⟨rfl, HFIN.out⟩
        · rw [he] at hq
          simp only [if_true] at hq
          have HQ1 : Hid (runM g q1 = some (r, q')) := hq
          have he0 : e1 = 0 := by simpa using he
          subst he0
          clear hq he
          go_wp2_with fail
          refine Calls.mono HST.out ?_
          rintro e w2 ⟨rfl, hout⟩
          have HAF : Hid (After w col B m mp vf fs q1 w2) := by
            unfold Out at hout
            rw [if_pos rfl] at hout
            exact After.of HF.out hout
          clear hout
          go_wp2_with fail
          go_roundg g
          case measure => omega
          case rel => exact ⟨i + 1, q1, by go_num, by omega, HAF, HQ1⟩

end Go.Proofs.YtbpnfoihonehgadDoor
