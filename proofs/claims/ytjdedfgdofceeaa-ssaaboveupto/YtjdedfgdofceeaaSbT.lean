/-
  posternlaw.SsaAbove answers true at every code of bulk at most 1048576: ssa.Above answers what the document says.
-/
import Derived.Test.YtjdedfgdofceeaaRows
import Derived.Test.YtjdedfgdofceeaaSbS
import Derived.Test.YtjdedfgdofceeaaSaG0
import Derived.OpenShut
import Derived.ShutString
import Derived.ChangeOld
import Derived.Below
import Derived.Carry
import Derived.JoinedCond
namespace Go.Proofs.Ytjdedfgdofceeaa
open Go.ChangeShapes Go.WideShapes Go.ChangeAt Go.WideElems Go.RowKit
set_option linter.unusedSimpArgs false
set_option linter.unusedVariables false

theorem own : ownKnob Try.prog.godebug = none := by kernel_rfl
theorem laidOut : laidOutB Try.prog = true := by kernel_rfl

theorem agg_of_list {cs : Array Value} {l : List Value} (h : cs.toList = l) : cs = l.toArray := by rw [← h]

theorem bulk_one {H : Type} (d : DataW H) : 1 ≤ Rows.uptoBulk d := by
  cases d with
  | lit l => cases l <;> simp [Rows.uptoBulk]
  | nil => simp [Rows.uptoBulk]
  | ptr d => simp [Rows.uptoBulk]
  | slice elems spare => simp [Rows.uptoBulk]
  | agg parts => simp [Rows.uptoBulk]
  | iface t d => simp [Rows.uptoBulk]
  | map entries => simp [Rows.uptoBulk]
  | held h => simp [Rows.uptoBulk]
theorem bulk_part {H : Type} {d : DataW H} {l : List (DataW H)} (h : d ∈ l) : Rows.uptoBulk d ≤ Rows.uptoBulkAll l := by
  induction l with
  | nil => cases h
  | cons x r ih =>
    simp only [Rows.uptoBulkAll]
    cases List.mem_cons.1 h with
    | inl e => subst e; omega
    | inr e => have := ih e; omega
theorem bulk_len {H : Type} (l : List (DataW H)) : l.length ≤ Rows.uptoBulkAll l := by
  induction l with
  | nil => simp [Rows.uptoBulkAll]
  | cons x r ih => have := bulk_one x; simp only [Rows.uptoBulkAll, List.length_cons]; omega

variable {H : Type} {enc : TypeId × Value → H} {W : World} {base : Nat} {spare : Nat → Bool} {held : Bool}
/-- what is read holds as many values as there are blocks, at least -/
theorem cod_bulk {fuel : Nat} {cs : List Value} {x : DataW H × List MemPlace} {c : Cod} (h : DataW.trod enc Try.prog W base spare held fuel 24 cs = some x) (hc : IsCod W.heap.size W cs c) : c.blocks.length ≤ Rows.uptoBulk x.1 := by
  obtain ⟨xs, n, rfl, rfl, hlen, hxs, hel⟩ := DataW.trod_struct Try.underlying24 h
  obtain ⟨vb, rfl, hb, _⟩ := hc
  have h5 : DataW.trod enc Try.prog W base spare held n 22 (([Value.string ⟨c.name.toArray⟩, .int .i64 c.params, .int .i64 c.results, .int .i64 c.vars, .int .i64 c.slots, vb].drop 5).take (Try.prog.cellsOf 22)) = xs[5]? := hel 5 _ rfl
  rw [cells_blks] at h5
  obtain ⟨y5, e5⟩ := get_some (i := 5) hxs (by decide)
  rw [e5] at h5
  simp at h5
  obtain ⟨a3, k3, rfl⟩ := Lies.slice hb
  rcases DataW.trod_slice Try.underlying22 h5 with ⟨h6, _⟩ | ⟨a, len, cap, elems, rest, m, rfl, h6, hy, _, _, _, hlen2, _⟩
  · injection h6 with h6 _
    injection h6 with _ h6 _
    omega
  · injection h6 with h6 _
    injection h6 with _ h6 _
    have h7 : (xs.map (·.1))[5]? = some (DataW.slice (elems.map (·.1)) (rest.map (·.1))) := by rw [List.getElem?_map, e5, hy]; rfl
    have h8 : Rows.uptoBulk (DataW.slice (elems.map (·.1)) (rest.map (·.1))) ≤ Rows.uptoBulkAll (xs.map (·.1)) := bulk_part (List.mem_of_getElem? h7)
    have h9 := bulk_len (elems.map (·.1))
    rw [List.length_map] at h9
    simp only [Rows.uptoBulk] at h8 ⊢
    omega

set_option maxRecDepth 100000 in
theorem above_lifted (os : Os) (started : os.Started) (H : Type) (enc : TypeId × Value → H) (F : Stop.Interp) :
    ReturnsInHanded {} Try.checked os 4 .any ((Rows.OpenSpec.upto Rows.ssaAboveSpec).pre6 enc Try.prog Try.f4 Rows.ssaAboveUptoRow.domain false) (((Rows.OpenSpec.upto Rows.ssaAboveSpec).at F).post enc Try.prog Try.f4 false true false false) := by
  refine returnsInHanded_of_cond (C := Try.checked) (s := Rows.OpenSpec.upto Rows.ssaAboveSpec) (k := Rows.uptoSmall) rfl own started (by kernel_rfl) Try.func4
    (OpenSpec.witness (enc := enc) (C := Try.checked) (s := Rows.OpenSpec.upto Rows.ssaAboveSpec) (k := Rows.uptoSmall) rfl false ⟨#[], #[.agg #[.string ⟨#[]⟩, .int .i64 0, .int .i64 0, .int .i64 0, .int .i64 0, .slice none 0 0]], []⟩ 8 (by kernel_rfl) (by kernel_rfl) (by kernel_rfl)
      (x := ([.agg [.lit (.string []), .lit (.int .i64 0), .lit (.int .i64 0), .lit (.int .i64 0), .lit (.int .i64 0), .nil]], [], [])) (by kernel_rfl) rfl (by kernel_rfl)) ?_
  intro W base args ds gs before hval0 hW _ hk _
  have hW' := hW
  obtain ⟨p, q, hA0, hV, rfl, hfz, hnd⟩ := hW
  have hA : DataW.TrodAll enc Try.prog W 0 (fun _ => true) true Try.f4.params.toList args.toList ds p := hA0
  have hval : ∀ (j : Nat) t v, Try.f4.params[j]? = some t → args[j]? = some v → Value.okWide Try.prog W .any base t v := hval0
  rw [Try.params4] at hA hval
  obtain ⟨v0, d0, rfl, rfl, h0⟩ := trodAll_one hA
  obtain ⟨rfl, rfl⟩ := trodVars_none hV
  have k0 := h0
  have lt0 : ∀ x ∈ p, x.block < W.heap.size := by obtain ⟨m, hm⟩ := k0; exact DataW.trod_lt m _ _ _ hm
  obtain ⟨cs0, rfl, _⟩ := okWide_struct Try.underlying24 (hval 0 24 v0 rfl rfl)
  obtain ⟨m0, hf0⟩ := h0
  obtain ⟨c, hc⟩ := cod_of_trod hf0
  have hlen : c.blocks.length ≤ 1048576 := by
    have h1 : c.blocks.length ≤ Rows.uptoBulk d0 := cod_bulk hf0 hc
    have h2 := of_decide_eq_true hk
    simp only [List.append_nil, Rows.uptoBulkAll] at h2
    omega
  obtain ⟨vb, hcs0, hb, _⟩ := hc
  have e0 : cs0 = #[.string ⟨c.name.toArray⟩, .int .i64 c.params, .int .i64 c.results, .int .i64 c.vars, .int .i64 c.slots, vb] := agg_of_list (by simpa [Value.cells] using hcs0)
  subst e0
  refine (ssaAbove_walk c vb W hb hlen).mono fun e W' ⟨he, hw⟩ => ?_
  subst he
  have e1 : Rows.ssaAboveSpec.fn H ([d0] ++ []) = { results := [.lit (.bool true)], args := [d0] } := by simp [Rows.ssaAboveSpec]
  refine ⟨_, rfl, _, _, _, [], p, [], hW', ?_, ?_, ?_, hw.frame _, fun h => by cases h⟩
  · show DataW.TrodAll enc _ _ _ _ _ _ _ (Rows.ssaAboveSpec.fn H ([d0] ++ [])).results _
    rw [e1]; exact trodAll_mk1 (shut_bool Try.underlying4 true)
  · show DataW.TrodAll enc _ _ _ _ _ _ _ (Rows.ssaAboveSpec.fn H ([d0] ++ [])).args _
    rw [e1]; exact trodAll_mk1 (Below.trod laidOut (by kernel_rfl) (of_decide_eq_true (by kernel_rfl)) k0 hw lt0)
  · show DataW.TrodVars enc _ _ _ _ (Rows.ssaAboveSpec.fn H ([d0] ++ [])).vars []
    rw [e1]; rfl

theorem ssaAbove_holds : Rows.SsaAboveUptoSaid :=
  OpenClaim.holds_of_cond 4 Try.f4 rfl rfl rfl rfl rfl rfl rfl ⟨rfl, rfl, rfl, rfl, rfl⟩ rfl rfl rfl rfl rfl (by kernel_rfl) Try.func4 (by kernel_rfl)
    (of_decide_eq_true (by kernel_rfl)) (by unfold Func.isWrapper; first | (rw [if_pos (by decide +kernel)]; kernel_rfl) | (rw [if_neg (by decide +kernel)]; exact ⟨rfl, rfl⟩))
    (fun os started H enc _ F => above_lifted os started H enc F)
#print axioms ssaAbove_holds

end Go.Proofs.Ytjdedfgdofceeaa
