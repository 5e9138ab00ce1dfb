/-
  The machine's leaves: the call that is being done, variables, numbers.
-/
import Derived.Test.YtbpnfoihonehgadDoorJaC
import Derived.Deep.QuietTactic
import Derived.BigQuiet
namespace Go.Proofs.YtbpnfoihonehgadDoor
open Go.RowKit
set_option linter.unusedSimpArgs false
set_option linter.unusedVariables false

theorem below_drewN (w : World) (B n : Nat) : Below B w (w.drewN n) := ⟨rfl, rfl, rfl, Nat.le_refl _, fun _ _ => rfl⟩

set_option maxHeartbeats 1000000 in
theorem last_any (m gc cc : Nat) (w : World) (h5 : w.cell? ⟨m, 5, none⟩ = some (.slice (some ⟨gc, 0, none⟩) 1 cc)) :
    Calls Tryd.prog 26 #[.pointer (some ⟨m, 0, none⟩)] w fun e w' => e = .returned (.pointer (some ⟨gc, 0, none⟩)) ∧ ∃ n, w' = w.drewN n := by
  go_enter Tryd.func26, Tryd.ntmps26
  go_wp2
  go_quiet (fail)
  go_wp2
  go_ret
  exact ⟨rfl, _, rfl⟩

set_option maxHeartbeats 1000000 in
theorem get_any (m gc cc gv nv cv k : Nat) (x : Int) (w : World) (h5 : w.cell? ⟨m, 5, none⟩ = some (.slice (some ⟨gc, 0, none⟩) 1 cc)) (h6 : w.cell? ⟨m, 6, none⟩ = some (.slice (some ⟨gv, 0, none⟩) nv cv))
    (hf : w.cell? ⟨gc, 2, none⟩ = some (.int .i64 0)) (hk : k < nv) (hn : nv ≤ 3000) (hx : w.cell? ⟨gv, k, none⟩ = some (.int .i64 x)) :
    Calls Tryd.prog 25 #[.pointer (some ⟨m, 0, none⟩), .int .i64 (k : Int)] w fun e w' => e = .returned (.int .i64 x) ∧ ∃ n, w' = w.drewN n := by
  have h1 : (k : Int) < (nv : Int) := by omega
  have h2 : (k : Int) ≤ 3000 := by omega
  go_enter Tryd.func25, Tryd.ntmps25
  go_wp2
  go_quiet ((go_at_call 26; exact Calls.quiet_of (last_any _ _ _ _ h5)))
  go_wp2
  go_ret
  exact ⟨rfl, _, rfl⟩

set_option maxHeartbeats 1000000 in
theorem compared_any (s : List UInt8) (a b : Int) (w : World) : Calls Tryd.prog 47 #[.string ⟨s.toArray⟩, .int .i64 a, .int .i64 b] w fun e w' => e = .returned (.int .i64 (truthI (soM s a b))) ∧ w' = w := by
  unfold truthI soM
  rcases h1 : (s == [61, 61]) with _ | _
  · rcases h2 : (s == [33, 61]) with _ | _
    · rcases h3 : (s == [60]) with _ | _
      · rcases h4 : (s == [60, 61]) with _ | _
        · rcases h5 : (s == [62]) with _ | _
          · rcases h6 : (s == [62, 61]) with _ | _
            · go_enter Tryd.func47, Tryd.ntmps47
              go_wp2
              go_ret
              exact ⟨rfl, rfl⟩
            · by_cases g : b ≤ a <;>
                (go_enter Tryd.func47, Tryd.ntmps47
                 go_wp2
                 all_goals (go_ret; exact ⟨by first | rfl | simp [g], rfl⟩))
          · by_cases g : b < a <;>
              (go_enter Tryd.func47, Tryd.ntmps47
               go_wp2
               all_goals (go_ret; exact ⟨by first | rfl | simp [g], rfl⟩))
        · by_cases g : a ≤ b <;>
            (go_enter Tryd.func47, Tryd.ntmps47
             go_wp2
             all_goals (go_ret; exact ⟨by first | rfl | simp [g], rfl⟩))
      · by_cases g : a < b <;>
          (go_enter Tryd.func47, Tryd.ntmps47
           go_wp2
           all_goals (go_ret; exact ⟨by first | rfl | simp [g], rfl⟩))
    · rcases g : (a != b) with _ | _ <;>
        (go_enter Tryd.func47, Tryd.ntmps47
         go_wp2
         all_goals (go_ret; exact ⟨by first | rfl | simp [g], rfl⟩))
  · rcases g : (a == b) with _ | _ <;>
      (go_enter Tryd.func47, Tryd.ntmps47
       go_wp2
       all_goals (go_ret; exact ⟨by first | rfl | simp [g], rfl⟩))

def pairV (p : Int × Int) : Value := .tuple #[.int .i64 p.1, .int .i64 p.2]

theorem divided_any (s : List UInt8) (a b : Int) (w : World) : Calls Tryd.prog 58 #[.string ⟨s.toArray⟩, .int .i64 a, .int .i64 b] w fun e w' => e = .returned (pairV (divM s a b)) ∧ w' = w := by
  unfold pairV divM
  rcases h1 : (b == 0) with _ | _
  · have hb : b ≠ 0 := by simpa using h1
    rcases h2 : (s == [47]) with _ | _ <;>
      (go_enter Tryd.func58, Tryd.ntmps58
       go_wp2
       go_ret2
       exact ⟨rfl, rfl⟩)
  · go_enter Tryd.func58, Tryd.ntmps58
    go_wp2
    go_ret2
    exact ⟨rfl, rfl⟩

theorem calc_any (s : List UInt8) (a b : Int) (w : World) : Calls Tryd.prog 42 #[.string ⟨s.toArray⟩, .int .i64 a, .int .i64 b] w fun e w' => e = .returned (pairV (calcM s a b)) ∧ w' = w := by
  unfold calcM
  rcases h1 : (s == [43]) with _ | _
  · rcases h2 : (s == [45]) with _ | _
    · rcases h3 : (s == [42]) with _ | _
      · rcases h4 : (s == [47]) with _ | _
        · rcases h5 : (s == [37]) with _ | _
          · go_enter Tryd.func42, Tryd.ntmps42
            go_wp2_with fail
            refine (compared_any s a b _).mono ?_
            rintro e w1 ⟨rfl, hw1⟩
            have hw1' := hw1.symm
            subst hw1'
            go_wp2_with fail
            go_ret2
            exact ⟨rfl, rfl⟩
          · go_enter Tryd.func42, Tryd.ntmps42
            go_wp2_with fail
            refine (divided_any s a b _).mono ?_
            rintro e w1 ⟨rfl, hw1⟩
            have hw1' := hw1.symm
            subst hw1'
            unfold pairV
            go_wp2_with fail
            go_ret2
            exact ⟨rfl, rfl⟩
        · go_enter Tryd.func42, Tryd.ntmps42
          go_wp2_with fail
          refine (divided_any s a b _).mono ?_
          rintro e w1 ⟨rfl, hw1⟩
          have hw1' := hw1.symm
          subst hw1'
          unfold pairV
          go_wp2_with fail
          go_ret2
          exact ⟨rfl, rfl⟩
      · unfold pairV
        go_enter Tryd.func42, Tryd.ntmps42
        go_wp2_with fail
        go_ret2
        exact ⟨rfl, rfl⟩
    · unfold pairV
      go_enter Tryd.func42, Tryd.ntmps42
      go_wp2_with fail
      go_ret2
      exact ⟨rfl, rfl⟩
  · unfold pairV
    go_enter Tryd.func42, Tryd.ntmps42
    go_wp2_with fail
    go_ret2
    exact ⟨rfl, rfl⟩

end Go.Proofs.YtbpnfoihonehgadDoor
