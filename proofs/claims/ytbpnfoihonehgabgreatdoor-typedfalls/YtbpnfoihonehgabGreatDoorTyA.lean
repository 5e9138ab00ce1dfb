/-
  The leaves of package typed.
-/
import Derived.Test.YtbpnfoihonehgabGreatDoorJReQ
namespace Go.Proofs.YtbpnfoihonehgabGreatDoor
open Go.RowKit
set_option linter.unusedSimpArgs false
set_option linter.unusedVariables false

def inB (n : Int) : Bool := decide (-1099511627776 ≤ n) && decide (n ≤ 1099511627776)
def partsB (t : Int) : Bool := t == 3 || t == 4 || t == 5
def plainB (t : Int) : Bool := t == 1 || t == 2 || t == 3
def typeB (t : Int) : Bool := decide (1 ≤ t) && decide (t ≤ 5)

set_option maxHeartbeats 400000 in
theorem inBounds_any (n : Int) (w : World) : Calls Tryz.prog 104 #[.int .i64 n] w fun e w' => e = .returned (.bool (inB n)) ∧ w' = w := by
  unfold inB
  by_cases h1 : -1099511627776 ≤ n <;> by_cases h2 : n ≤ 1099511627776 <;>
    (go_enter Tryz.func104, Tryz.ntmps104
     go_wp2
     go_ret
     exact ⟨by simp [h1, h2], rfl⟩)

set_option maxHeartbeats 400000 in
theorem isType_any (n : Int) (w : World) : Calls Tryz.prog 29 #[.int .i64 n] w fun e w' => e = .returned (.bool (typeB n)) ∧ w' = w := by
  unfold typeB
  by_cases h1 : 1 ≤ n <;> by_cases h2 : n ≤ 5 <;>
    (go_enter Tryz.func29, Tryz.ntmps29
     go_wp2
     go_ret
     exact ⟨by simp [h1, h2], rfl⟩)

set_option maxHeartbeats 400000 in
theorem hasParts_any (c : Int) (w : World) : Calls Tryz.prog 122 #[.int .i64 c] w fun e w' => e = .returned (.bool (partsB c)) ∧ w' = w := by
  unfold partsB
  rcases h1 : (c == 3) with _ | _ <;> rcases h2 : (c == 4) with _ | _ <;> rcases h3 : (c == 5) with _ | _ <;>
    (go_enter Tryz.func122, Tryz.ntmps122
     go_wp2
     go_ret
     exact ⟨by simp [h1, h2, h3], rfl⟩)

set_option maxHeartbeats 400000 in
theorem isPlain_any (c : Int) (w : World) : Calls Tryz.prog 72 #[.int .i64 c] w fun e w' => e = .returned (.bool (plainB c)) ∧ w' = w := by
  unfold plainB
  rcases h1 : (c == 1) with _ | _ <;> rcases h2 : (c == 2) with _ | _ <;> rcases h3 : (c == 3) with _ | _ <;>
    (go_enter Tryz.func72, Tryz.ntmps72
     go_wp2
     go_ret
     exact ⟨by simp [h1, h2, h3], rfl⟩)

/-- a type, if all is right, else an error -/
def givT (t : Int) (ok : Bool) (e : Int) : Int × Int := if ok then (t, 0) else (0, e)

def tyE (x : Int × Int) : Ending := .returned (.tuple #[.int .i64 x.1, .int .i64 x.2])

set_option maxHeartbeats 400000 in
theorem given_any (t : Int) (ok : Bool) (k : Int) (w : World) : Calls Tryz.prog 118 #[.int .i64 t, .bool ok, .int .i64 k] w fun e w' => e = tyE (givT t ok k) ∧ w' = w := by
  cases ok <;>
    (go_enter Tryz.func118, Tryz.ntmps118
     go_wp2
     go_ret2
     exact ⟨rfl, rfl⟩)

def oneT (s : List UInt8) (t : Int) : Int × Int :=
  if s == [45] then givT 1 (t == 1) 9 else if s == [33] then givT 2 (t == 2) 9 else (0, 4)

set_option maxHeartbeats 1000000 in
theorem typeOfOne_any (s : List UInt8) (t : Int) (w : World) : Calls Tryz.prog 120 #[.string ⟨s.toArray⟩, .int .i64 t] w fun e w' => e = tyE (oneT s t) ∧ w' = w := by
  unfold oneT
  rcases h1 : (s == [45]) with _ | _
  · rcases h2 : (s == [33]) with _ | _
    · go_enter Tryz.func120, Tryz.ntmps120
      go_wp2_with fail
      go_ret2
      exact ⟨rfl, rfl⟩
    · go_enter Tryz.func120, Tryz.ntmps120
      go_wp2_with fail
      refine (given_any _ _ _ _).mono ?_
      rintro e w1 ⟨rfl, rfl⟩
      unfold tyE
      go_wp2_with fail
      go_ret2
      exact ⟨rfl, rfl⟩
  · go_enter Tryz.func120, Tryz.ntmps120
    go_wp2_with fail
    refine (given_any _ _ _ _).mono ?_
    rintro e w1 ⟨rfl, rfl⟩
    unfold tyE
    go_wp2_with fail
    go_ret2
    exact ⟨rfl, rfl⟩

end Go.Proofs.YtbpnfoihonehgabGreatDoor
