/-
  Cutting a source into pieces: bytes, what a backslash stands for, strings.HasPrefix, strings.Clone.
-/
import Derived.Test.YtgifghcaeoinoaaDoorRdA
import Derived.Lib.Strings
import Derived.Lib.Slices
import Derived.Laws.Strings3
import Derived.Laws.MakeOwn
namespace Go.Proofs.YtgifghcaeoinoaaDoor
open Go.RowKit
set_option linter.unusedSimpArgs false
set_option linter.unusedVariables false

/-- the byte at a place -/
def bN (s : ByteArray) (i : Nat) : Nat := (s.data.toList.getD i 0).toNat

@[go_sem] theorem byte_eq (s : ByteArray) (i : Nat) (h : i < s.size) : (s[i]'h).toNat = bN s i := by
  unfold bN
  have h' : i < s.data.toList.length := by simpa using h
  rw [List.getD_eq_getElem?_getD, List.getElem?_eq_getElem h']
  rfl

def escM (s : ByteArray) : Option Int :=
  if s.toList == [] then none
  else if ((bN s 0 : Nat) : Int) == 34 || ((bN s 0 : Nat) : Int) == 92 then some (bN s 0)
  else if ((bN s 0 : Nat) : Int) == 110 then some 10 else none

def escE (s : ByteArray) : Ending := match escM s with
  | some c => .returned (.tuple #[.int .u8 c, .bool true])
  | none => .returned (.tuple #[.int .u8 0, .bool false])

set_option maxHeartbeats 400000 in
theorem escaped_any (s : ByteArray) (w : World) : Calls Tryd.prog 72 #[.string s] w fun e w' => e = escE s ∧ w' = w := by
  by_cases h0 : (s.toList == []) = true
  · have he : escE s = .returned (.tuple #[.int .u8 0, .bool false]) := by simp only [escE, escM, if_pos h0]
    rw [he]
    go_enter Tryd.func72, Tryd.ntmps72
    go_wp2
    go_ret2
    exact ⟨rfl, rfl⟩
  · have h0' : (s.toList == []) = false := by simpa using h0
    have hsz : 0 < s.size := by
      rcases Nat.eq_zero_or_pos s.size with h | h
      · exact absurd (by rw [Lib.toList_data]; have := Lib.size_eq s; rw [h] at this; simp [List.eq_nil_of_length_eq_zero this.symm]) h0
      · exact h
    clear h0
    rcases h1 : (((bN s 0 : Nat) : Int) == 34) with _ | _ <;> rcases h2 : (((bN s 0 : Nat) : Int) == 92) with _ | _ <;> rcases h3 : (((bN s 0 : Nat) : Int) == 110) with _ | _ <;>
    (unfold escE escM
     simp only [h0', h1, h2, h3, Bool.false_eq_true, if_false, Bool.or_true, Bool.true_or, Bool.or_false, if_true, Bool.or_self]
     go_enter Tryd.func72, Tryd.ntmps72
     go_wp2
     go_ret2
     exact ⟨rfl, rfl⟩)

set_option maxHeartbeats 400000 in
theorem hasPrefixQ_any (s p : ByteArray) (w : World) (r : Bool) (HR : Hid ((decide (p.size ≤ s.size) && ((s.extract 0 p.size).toList == p.toList)) = r)) :
    Calls Tryd.prog 73 #[.string s, .string p] w fun e w' => e = .returned (.bool r) ∧ w' = w := by
  by_cases hle : p.size ≤ s.size
  · have hI : (p.size : Int) ≤ (s.size : Int) := by omega
    have hr := HR.out
    rw [decide_eq_true hle, Bool.true_and] at hr
    go_enter Tryd.func73, Tryd.ntmps73
    go_wp2_with fail
    go_ret
    exact ⟨by rw [← hr]; rfl, rfl⟩
  · have hI : ¬ (p.size : Int) ≤ (s.size : Int) := by omega
    have hr := HR.out
    rw [decide_eq_false hle, Bool.false_and] at hr
    subst hr
    go_enter Tryd.func73, Tryd.ntmps73
    go_wp2_with fail
    go_ret
    exact ⟨rfl, rfl⟩

theorem hasPrefix0_any (s p : ByteArray) (w : World) :
    Calls Tryd.prog 73 #[.string s, .string p] w fun e w' => e = .returned (.bool (Lib.hasPrefix s.data.toList p.data.toList)) ∧ w' = w :=
  hasPrefixQ_any s p w _ (Lib.hasPrefix_raw s p)

set_option maxHeartbeats 400000 in
theorem hasPrefix_any (s p : ByteArray) (w : World) :
    Calls Tryd.prog 56 #[.string s, .string p] w fun e w' => e = .returned (.bool (Lib.hasPrefix s.data.toList p.data.toList)) ∧ w' = w := by
  go_enter Tryd.func56, Tryd.ntmps56
  go_wp2_with fail
  refine (hasPrefix0_any _ _ _).mono ?_
  rintro e w1 ⟨rfl, rfl⟩
  go_wp2_with fail
  go_ret
  exact ⟨rfl, rfl⟩

end Go.Proofs.YtgifghcaeoinoaaDoor
