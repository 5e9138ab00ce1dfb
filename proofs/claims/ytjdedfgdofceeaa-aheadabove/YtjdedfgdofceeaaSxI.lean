/-
  posternkeep.AheadAbove answers true at every list: what is above all that lead to a block is above it. No condition.
-/
import Derived.Test.YtjdedfgdofceeaaRows
import Derived.Test.YtjdedfgdofceeaaSxH
import Derived.OpenShut
import Derived.ShutString
import Derived.ChangeOld
import Derived.Below
import Derived.Carry
namespace Go.Proofs.Ytjdedfgdofceeaa
open Go.ChangeShapes Go.WideShapes Go.ChangeAt Go.WideElems Go.RowKit
set_option linter.unusedSimpArgs false
set_option linter.unusedVariables false

theorem own : ownKnob Try.prog.godebug = none := by kernel_rfl
theorem laidOut : laidOutB Try.prog = true := by kernel_rfl

variable {H : Type} {enc : TypeId × Value → H} {W : World} {base : Nat} {spare : Nat → Bool} {held : Bool}
theorem cells_raw : Try.prog.cellsOf 53 = 4 := by kernel_rfl
set_option maxRecDepth 20000 in
theorem raw_of_trod {fuel : Nat} {cs : List Value} {x : DataW H × List MemPlace} (h : DataW.trod enc Try.prog W base spare held fuel 53 cs = some x) : ∃ r : Int × Int × Int × Int, cs = [.int .i64 r.1, .int .i64 r.2.1, .int .i64 r.2.2.1, .int .i64 r.2.2.2] ∧ I64 r.1 ∧ I64 r.2.1 ∧ I64 r.2.2.1 ∧ I64 r.2.2.2 := by
  obtain ⟨xs, n, rfl, rfl, hlen, hxs, hel⟩ := DataW.trod_struct Try.underlying53 h
  rw [cells_raw] at hlen
  match cs, hlen with
  | [v0, v1, v2, v3], _ =>
    have h0 : DataW.trod enc Try.prog W base spare held n 3 (([v0, v1, v2, v3].drop 0).take (Try.prog.cellsOf 3)) = xs[0]? := hel 0 _ rfl
    have h1 : DataW.trod enc Try.prog W base spare held n 3 (([v0, v1, v2, v3].drop 1).take (Try.prog.cellsOf 3)) = xs[1]? := hel 1 _ rfl
    have h2 : DataW.trod enc Try.prog W base spare held n 3 (([v0, v1, v2, v3].drop 2).take (Try.prog.cellsOf 3)) = xs[2]? := hel 2 _ rfl
    have h3 : DataW.trod enc Try.prog W base spare held n 3 (([v0, v1, v2, v3].drop 3).take (Try.prog.cellsOf 3)) = xs[3]? := hel 3 _ rfl
    rw [cells_int] at h0 h1 h2 h3
    obtain ⟨y0, e0⟩ := get_some (i := 0) hxs (by decide)
    obtain ⟨y1, e1⟩ := get_some (i := 1) hxs (by decide)
    obtain ⟨y2, e2⟩ := get_some (i := 2) hxs (by decide)
    obtain ⟨y3, e3⟩ := get_some (i := 3) hxs (by decide)
    rw [e0] at h0; rw [e1] at h1; rw [e2] at h2; rw [e3] at h3
    simp at h0 h1 h2 h3
    obtain ⟨n0, r0, i0⟩ := num_of_trod h0
    obtain ⟨n1, r1, i1⟩ := num_of_trod h1
    obtain ⟨n2, r2, i2⟩ := num_of_trod h2
    obtain ⟨n3, r3, i3⟩ := num_of_trod h3
    cases r0; cases r1; cases r2; cases r3
    exact ⟨(n0, n1, n2, n3), rfl, i0, i1, i2, i3⟩
theorem raws_of_trod {fuel n k : Nat} {a : Option Addr} {x : DataW H × List MemPlace} (h : DataW.trod enc Try.prog W base spare held fuel 29 [.slice a n k] = some x) : ∃ rs, n = rs.length ∧ Raws W.heap.size W (.slice a n k) rs ∧ n ≤ k ∧ k ≤ maxLen := by
  obtain ⟨v, rs, e, hl⟩ := lies_of_trod (P := fun cs (r : Int × Int × Int × Int) => cs = [.int .i64 r.1, .int .i64 r.2.1, .int .i64 r.2.2.1, .int .i64 r.2.2.2] ∧ I64 r.1 ∧ I64 r.2.1 ∧ I64 r.2.2.1 ∧ I64 r.2.2.2) Try.underlying29 cells_raw (by decide) (fun n cs y _ hy => raw_of_trod hy) h
  injection e with e _
  subst e
  obtain ⟨_, _, e2⟩ := Lies.slice hl
  injection e2 with _ e3 _
  refine ⟨rs, e3, hl, ?_⟩
  rcases DataW.trod_slice Try.underlying29 h with ⟨h6, _⟩ | ⟨a, len, cap, elems, rest, m, _, h6, _, _, h7, h8, _⟩
  · injection h6 with h6 _
    injection h6 with _ h9 h10
    exact ⟨by omega, by unfold maxLen; omega⟩
  · injection h6 with h6 _
    injection h6 with _ h9 h10
    exact ⟨by omega, by omega⟩

set_option maxRecDepth 100000 in
theorem law_lifted (os : Os) (started : os.Started) (H : Type) (enc : TypeId × Value → H) :
    ReturnsInHanded {} Try.checked os 5 .any (Rows.aheadAboveSpec.pre6 enc Try.prog Try.f5 Rows.aheadAboveRow.domain false) (Rows.aheadAboveSpec.post enc Try.prog Try.f5 false true false false) := by
  refine returnsInHanded_of_change_sized (C := Try.checked) own started (by kernel_rfl) Try.func5
    (ChangeSpec.witness6 (enc := enc) (C := Try.checked) false ⟨#[], #[.slice none 0 0], []⟩ 8 (by kernel_rfl) (by kernel_rfl) (by kernel_rfl) (by kernel_rfl)) ?_
  intro W base args ds gs before hval0 hW hcnd hsz0 _
  have hW' := hW
  obtain ⟨p, q, hA0, hV, rfl, hfz, hnd⟩ := hW
  have hA : DataW.TrodAll enc Try.prog W 0 (fun _ => true) true Try.f5.params.toList args.toList ds p := hA0
  have hval : ∀ (j : Nat) t v, Try.f5.params[j]? = some t → args[j]? = some v → Value.okWide Try.prog W .any base t v := hval0
  rw [Try.params5] at hA hval
  obtain ⟨v0, d0, rfl, rfl, h0⟩ := trodAll_one hA
  obtain ⟨rfl, rfl⟩ := trodVars_none hV
  have k0 := h0
  have lt0 : ∀ x ∈ p, x.block < W.heap.size := by obtain ⟨m, hm⟩ := k0; exact DataW.trod_lt m _ _ _ hm
  obtain ⟨a0, len0, cap0, rfl⟩ := okWide_slice Try.underlying29 (hval 0 29 v0 rfl rfl)
  obtain ⟨m0, hf0⟩ := h0
  obtain ⟨rs, hn, hl, hnk, hk⟩ := raws_of_trod hf0
  refine (law_walk rs a0 len0 cap0 W hn hl hnk hk).mono fun e W' ⟨he, hw⟩ => ?_
  subst he
  have e1 : Rows.aheadAboveSpec.fn H ([d0] ++ []) = { results := [.lit (.bool true)], args := [d0] } := by simp [Rows.aheadAboveSpec]
  refine ⟨_, rfl, _, _, _, [], p, [], hW', ?_, ?_, ?_, hw.frame _, fun h => by cases h⟩
  · rw [e1]; exact trodAll_mk1 (shut_bool Try.underlying4 true)
  · rw [e1]; exact trodAll_mk1 (Below.trod laidOut (by kernel_rfl) (of_decide_eq_true (by kernel_rfl)) k0 hw lt0)
  · rw [e1]; rfl

theorem aheadAbove_holds : Rows.AheadAboveSaid :=
  OpenClaim.holds_of_wide 5 Try.f5 rfl rfl rfl rfl rfl rfl rfl ⟨rfl, rfl, rfl, rfl, rfl⟩ rfl rfl rfl rfl rfl (by kernel_rfl) Try.func5 (by kernel_rfl)
    (of_decide_eq_true (by kernel_rfl)) (by unfold Func.isWrapper; first | (rw [if_pos (by decide +kernel)]; kernel_rfl) | (rw [if_neg (by decide +kernel)]; exact ⟨rfl, rfl⟩))
    (fun os started H enc _ => law_lifted os started H enc)
#print axioms aheadAbove_holds

end Go.Proofs.Ytjdedfgdofceeaa
