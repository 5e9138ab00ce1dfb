/-
  posternlaw.IrEnds answers true at every number: ir.Ends says what the document says. No condition.
-/
import Derived.Test.YtbpbpihboenbeaaRows
import Derived.Test.YtbpbpihboenbeaaChecked
import Derived.WalkKit
import Derived.WalkSpells
import Derived.WalkLawsBesides
import Derived.ProofKit
import Derived.OpenShut
import Derived.ShutString
import Derived.ChangeOld
import Derived.ChangeSame
import Derived.Below
import Derived.Carry
namespace Go.Proofs.Ytbpbpihboenbeaa
open Go.ChangeShapes Go.WideShapes Go.ChangeAt Go.WideElems Go.RowKit
set_option linter.unusedSimpArgs false
set_option linter.unusedVariables false

theorem own : ownKnob Try.prog.godebug = none := by kernel_rfl
theorem laidOut : laidOutB Try.prog = true := by kernel_rfl

def endsB (op : Int) : Bool := decide (9 ≤ op) && decide (op ≤ 13)

theorem sends_any (op : Int) (w : World) : Calls Try.prog 8 #[.int .i64 op] w fun e w' => e = .returned (.bool (endsB op)) ∧ w' = w := by
  unfold endsB
  by_cases h1 : 9 ≤ op <;> by_cases h2 : op ≤ 13 <;>
    (go_enter Try.func8, Try.ntmps8
     go_wp2
     go_ret
     exact ⟨by simp [h1, h2], rfl⟩)

theorem ends_any (op : Int) (w : World) : Calls Try.prog 5 #[.int .i64 op] w fun e w' => e = .returned (.bool (endsB op)) ∧ w' = w := by
  go_enter Try.func5, Try.ntmps5
  go_wp2_with fail
  refine (sends_any _ _).mono ?_
  rintro e w1 ⟨rfl, hw1⟩
  have hw1' := hw1.symm
  subst hw1'
  go_wp2_with fail
  go_ret
  exact ⟨rfl, rfl⟩

set_option maxHeartbeats 1000000 in
theorem irEnds_walk (op : Int) (w : World) : Calls Try.prog 3 #[.int .i64 op] w fun e w' => e = .returned (.bool true) ∧ w' = w := by
  by_cases h1 : 9 ≤ op
  · by_cases h2 : op ≤ 13
    · go_enter Try.func3, Try.ntmps3
      go_wp2_with fail
      refine (ends_any _ _).mono ?_
      rintro e w1 ⟨rfl, hw1⟩
      have hw1' := hw1.symm
      subst hw1'
      have hE : endsB op = true := by simp [endsB, h1, h2]
      rw [hE]
      go_wp2_with fail
      go_ret
      exact ⟨by simp [h2], rfl⟩
    · go_enter Try.func3, Try.ntmps3
      go_wp2_with fail
      refine (ends_any _ _).mono ?_
      rintro e w1 ⟨rfl, hw1⟩
      have hw1' := hw1.symm
      subst hw1'
      have hE : endsB op = false := by simp [endsB, h1, h2]
      rw [hE]
      go_wp2_with fail
      go_ret
      exact ⟨by simp [h2], rfl⟩
  · go_enter Try.func3, Try.ntmps3
    go_wp2_with fail
    refine (ends_any _ _).mono ?_
    rintro e w1 ⟨rfl, hw1⟩
    have hw1' := hw1.symm
    subst hw1'
    have hE : endsB op = false := by simp [endsB]; omega
    rw [hE]
    go_wp2_with fail
    go_ret
    exact ⟨by simp, rfl⟩

set_option maxRecDepth 100000 in
theorem irEnds_lifted (os : Os) (started : os.Started) (H : Type) (enc : TypeId × Value → H) :
    ReturnsInHanded {} Try.checked os 3 .any (Rows.irEndsSpec.pre6 enc Try.prog Try.f3 Rows.irEndsRow.domain false) (Rows.irEndsSpec.post enc Try.prog Try.f3 false true false false) := by
  refine returnsInHanded_of_change (C := Try.checked) own started (by kernel_rfl) Try.func3
    (ChangeSpec.witness6 (enc := enc) (C := Try.checked) false ⟨#[], #[.int .i64 0], []⟩ 8 (by kernel_rfl) (by kernel_rfl) (by kernel_rfl) (by kernel_rfl)) ?_
  intro W base args ds gs before hval0 hW hcnd _
  have hW' := hW
  obtain ⟨p, q, hA0, hV, rfl, hfz, hnd⟩ := hW
  have hA : DataW.TrodAll enc Try.prog W 0 (fun _ => true) true Try.f3.params.toList args.toList ds p := hA0
  have hval : ∀ (j : Nat) t v, Try.f3.params[j]? = some t → args[j]? = some v → Value.okWide Try.prog W .any base t v := hval0
  rw [Try.params3] at hA hval
  obtain ⟨v0, d0, rfl, rfl, h0⟩ := trodAll_one hA
  obtain ⟨rfl, rfl⟩ := trodVars_none hV
  obtain ⟨a, rfl, rfl, rfl, wa⟩ := open_int Try.underlying3 (hval 0 3 v0 rfl rfl) h0
  refine (irEnds_walk a W).mono fun e W' ⟨he, hw⟩ => ?_
  subst he
  subst hw
  have e1 : Rows.irEndsSpec.fn H ([.lit (.int .i64 a)] ++ []) = { results := [.lit (.bool true)], args := [.lit (.int .i64 a)] } := by simp [Rows.irEndsSpec]
  refine ⟨_, rfl, _, _, _, [], [], [], hW', ?_, ?_, ?_, (Below.refl _ _).frame _, fun h => by cases h⟩
  · rw [e1]; exact trodAll_mk1 (shut_bool Try.underlying4 true)
  · rw [e1]; exact trodAll_mk1 (shut_int Try.underlying3 wa)
  · rw [e1]; rfl

theorem irEnds_holds : Rows.IrEndsSaid :=
  OpenClaim.holds_of_wide 3 Try.f3 rfl rfl rfl rfl rfl rfl rfl ⟨rfl, rfl, rfl, rfl, rfl⟩ rfl rfl rfl rfl rfl (by kernel_rfl) Try.func3 (by kernel_rfl)
    (of_decide_eq_true (by kernel_rfl)) (by unfold Func.isWrapper; first | (rw [if_pos (by decide +kernel)]; kernel_rfl) | (rw [if_neg (by decide +kernel)]; exact ⟨rfl, rfl⟩))
    (fun os started H enc _ => irEnds_lifted os started H enc)
#print axioms irEnds_holds

end Go.Proofs.Ytbpbpihboenbeaa
