/-
  Blocks in memory end as their trees do.
-/
import Derived.Test.YtbpnfoihonehgabGreatDoorTzB
namespace Go.Proofs.YtbpnfoihonehgabGreatDoor
open Go.RowKit Go.Maps
set_option linter.unusedSimpArgs false
set_option linter.unusedVariables false

def endsM : Nat → List St → Option Bool
  | 0, _ => none
  | f + 1, ss => if 1000000 < ss.length then none else match ss[ss.length - 1]? with
    | none => some false
    | some s => if 1000000 < s.cases.length then none else match endsM f s.body with
      | none => none
      | some b1 => match endsM f s.els with
        | none => none
        | some b2 => if s.cases.all (fun c => (endsM f c.2).isSome) then
            some (s.kind == 8 || (s.kind == 4 && (b1 && b2)) || (s.kind == 7 && (allB (fun i => (endsM f (s.cases.getD i ([], [])).2).getD false) s.cases.length && b2)))
          else none

theorem ends_of {w : World} {B : Nat} : ∀ (f : Nat) (ss : List St) (b : Bool) (v : Value), endsM f ss = some b → Row (fun g => g < B) w (AnS (fun g => g < B) w) v ss → EndsV f w v b := by
  intro f
  induction f with
  | zero => intro ss b v h; cases h
  | succ f ih =>
    intro ss b v h hrow
    obtain ⟨a, c, rfl⟩ := hrow.slice
    simp only [endsM] at h
    by_cases hl : 1000000 < ss.length
    · rw [if_pos hl] at h; cases h
    rw [if_neg hl] at h
    rcases hx : ss[ss.length - 1]? with _ | s
    · rw [hx] at h
      simp only [Option.some.injEq] at h
      have h0 : ss.length = 0 := by
        rw [List.getElem?_eq_none_iff] at hx
        omega
      exact Or.inl ⟨a, c, by rw [h0], h.symm⟩
    · rw [hx] at h
      simp only at h
      by_cases hl2 : 1000000 < s.cases.length
      · rw [if_pos hl2] at h; cases h
      rw [if_neg hl2] at h
      rcases h1 : endsM f s.body with _ | b1
      · rw [h1] at h; cases h
      rw [h1] at h
      simp only at h
      rcases h2 : endsM f s.els with _ | b2
      · rw [h2] at h; cases h
      rw [h2] at h
      simp only at h
      by_cases h3 : s.cases.all (fun c => (endsM f c.2).isSome) = true
      · rw [if_pos h3] at h
        simp only [Option.some.injEq] at h
        have hlen : ss.length - 1 < ss.length := (List.getElem?_eq_some_iff.1 hx).1
        obtain ⟨len, hlen'⟩ : ∃ len, ss.length = len + 1 := ⟨ss.length - 1, by omega⟩
        rw [hlen', Nat.add_sub_cancel] at hx
        obtain ⟨g, ca, u, hva, hgB, hu, hcell⟩ := Row.at hrow 7 anS_len len s hx
        cases hva
        obtain ⟨ae, ce, ab, cq, al, cl, ac, cc, rfl, hre, hrb, hrl, hrc⟩ := anS_parts hu
        refine Or.inr ⟨g, 0, len, c, s.kind, ⟨s.s.toArray⟩, ⟨s.t.toArray⟩, ae, s.exprs.length, ce, ab, s.body.length, cq, al, s.els.length, cl, ac, s.cases.length, cc, b1, b2, fun i => match ac with
          | some ad => (w.cell? ⟨ad.block, i * 2 + 1, none⟩).getD undef
          | none => undef, fun i => (endsM f (s.cases.getD i ([], [])).2).getD false, by rw [hlen'], by unfold maxLen; omega, by unfold maxLen; omega, ?_, ih _ _ _ h1 hrb, ih _ _ _ h2 hrl, ?_, h.symm⟩
        · rw [Nat.zero_add]
          exact ⟨hcell 0 (by decide), hcell 1 (by decide), hcell 2 (by decide), hcell 3 (by decide), hcell 4 (by decide), hcell 5 (by decide), hcell 6 (by decide)⟩
        · intro i hi
          have hget : s.cases[i]? = some s.cases[i] := List.getElem?_eq_getElem hi
          obtain ⟨gc, cc', uc, hvc, hgc, huc, hcc⟩ := Row.at hrc 2 anC_len i _ hget
          cases hvc
          obtain ⟨an, ay, rfl, hrn, hry⟩ := huc
          obtain ⟨an, cn, rfl⟩ := hrn.slice
          obtain ⟨ay, cy, rfl⟩ := hry.slice
          have q0 := hcc 0 (by decide)
          have q1 := hcc 1 (by decide)
          simp [Value.cells] at q0 q1
          have hsome : ∃ bb, endsM f s.cases[i].2 = some bb := by
            rw [List.all_eq_true] at h3
            exact Option.isSome_iff_exists.1 (h3 _ (List.getElem_mem hi))
          obtain ⟨bb, hbb⟩ := hsome
          have hgd : s.cases.getD i ([], []) = s.cases[i] := by rw [List.getD_eq_getElem?_getD, hget]; rfl
          refine ⟨gc, 0, _, rfl, by rw [Nat.zero_add]; exact q0, ?_, ?_, ?_, ?_⟩
          · simp only [Nat.zero_add, q1, Option.getD_some]
          · simp only [q1, Option.getD_some]
            exact ⟨_, _, _, rfl⟩
          · exact ⟨_, _, _, rfl⟩
          · simp only [q1, Option.getD_some, hgd, hbb]
            exact ih _ _ _ hbb hry
      · rw [if_neg h3] at h; cases h

end Go.Proofs.YtbpnfoihonehgabGreatDoor
