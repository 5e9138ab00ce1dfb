/-
  The leaves of package read: what a byte is, what a piece is, what a backslash stands for.
-/
import Derived.Test.YtgifghcaeoinoaaDoorProg
import Derived.WalkKit
import Derived.WalkSpells
import Derived.WalkLawsBesides
namespace Go.Proofs.YtgifghcaeoinoaaDoor
open Go.RowKit
set_option linter.unusedSimpArgs false
set_option linter.unusedVariables false

def isBlankB (c : Int) : Bool := c == 32 || c == 9 || c == 10
def isLetterB (c : Int) : Bool := decide (97 ≤ c) && decide (c ≤ 122)
def isDigitB (c : Int) : Bool := decide (48 ≤ c) && decide (c ≤ 57)

set_option maxHeartbeats 400000 in
theorem isBlank_any (c : Int) (w : World) :
    Calls Tryd.prog 26 #[.int .u8 c] w fun e w' => e = .returned (.bool (isBlankB c)) ∧ w' = w := by
  unfold isBlankB
  rcases h1 : (c == 32) with _ | _ <;> rcases h2 : (c == 9) with _ | _ <;> rcases h3 : (c == 10) with _ | _ <;>
    (go_enter Tryd.func26, Tryd.ntmps26
     go_wp2
     go_ret
     exact ⟨by simp [h1, h2, h3], rfl⟩)

set_option maxHeartbeats 400000 in
theorem isLetter_any (c : Int) (w : World) :
    Calls Tryd.prog 51 #[.int .u8 c] w fun e w' => e = .returned (.bool (isLetterB c)) ∧ w' = w := by
  unfold isLetterB
  by_cases h1 : 97 ≤ c <;> by_cases h2 : c ≤ 122 <;>
    (go_enter Tryd.func51, Tryd.ntmps51
     go_wp2
     go_ret
     exact ⟨by simp [h1, h2], rfl⟩)

set_option maxHeartbeats 400000 in
theorem isDigit_any (c : Int) (w : World) :
    Calls Tryd.prog 53 #[.int .u8 c] w fun e w' => e = .returned (.bool (isDigitB c)) ∧ w' = w := by
  unfold isDigitB
  by_cases h1 : 48 ≤ c <;> by_cases h2 : c ≤ 57 <;>
    (go_enter Tryd.func53, Tryd.ntmps53
     go_wp2
     go_ret
     exact ⟨by simp [h1, h2], rfl⟩)

end Go.Proofs.YtgifghcaeoinoaaDoor
