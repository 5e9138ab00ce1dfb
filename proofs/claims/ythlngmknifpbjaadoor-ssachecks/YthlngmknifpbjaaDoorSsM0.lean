/-
  The document's own look at code in which each variable is set once: what its arrays hold; plain.
-/
import Derived.Test.YthlngmknifpbjaaDoorJSsLa
namespace Go.Proofs.YthlngmknifpbjaaDoor
open Go.RowKit
set_option linter.unusedSimpArgs false
set_option linter.unusedVariables false

/-- what blockOf, placeOf hold -/
def bkV (S : SetM) : Nat → Int := fun v => match S (v : Int) with | none => 0 | some (sb, sa) => if sa = -1 then -1 else sb + 1
def plV (S : SetM) : Nat → Int := fun v => match S (v : Int) with | none => 0 | some (sb, sa) => if sa = -1 then 0 else sa
theorem bkV_zero : bkV (setP ((0 : Nat) : Int)) = fun _ => 0 := by rw [setP_zero]; rfl
theorem plV_setP (p : Int) : plV (setP p) = fun _ => 0 := by
  funext v; unfold plV setP
  by_cases h : 0 ≤ (v : Int) ∧ (v : Int) < p
  · rw [if_pos h]; rfl
  · rw [if_neg h]
theorem bkV_next (i : Nat) : fset (bkV (setP (i : Int))) i (-1) = bkV (setP ((i + 1 : Nat) : Int)) := by
  funext v; unfold fset bkV setP
  by_cases e : v = i
  · subst e; rw [if_pos rfl, if_pos (by omega)]; rfl
  · rw [if_neg e]
    by_cases h : 0 ≤ (v : Int) ∧ (v : Int) < (i : Int)
    · rw [if_pos h, if_pos (by omega)]
    · rw [if_neg h, if_neg (by omega)]
theorem bkV_ins (S : SetM) (d b k : Nat) : fset (bkV S) d (((b + 1 : Nat)) : Int) = bkV (ins S (d : Int) ((b : Int), (k : Int))) := by
  funext v; unfold fset bkV ins
  by_cases e : v = d
  · subst e; rw [if_pos rfl, if_pos rfl]
    simp only
    rw [if_neg (by omega)]; omega
  · rw [if_neg e, if_neg (by omega)]
theorem plV_ins (S : SetM) (d b k : Nat) : fset (plV S) d ((k : Nat) : Int) = plV (ins S (d : Int) ((b : Int), (k : Int))) := by
  funext v; unfold fset plV ins
  by_cases e : v = d
  · subst e; rw [if_pos rfl, if_pos rfl]
    simp only
    rw [if_neg (by omega)]
  · rw [if_neg e, if_neg (by omega)]

/-- spots that may be -/
def SpP (n : Nat) (S : SetM) : Prop := ∀ v sb sa, S v = some (sb, sa) → 0 ≤ sb ∧ sb < (n : Int) ∧ -1 ≤ sa ∧ (sa = -1 → sb = 0)
theorem SpP.setP {n : Nat} (p : Int) (h : 0 < n) : SpP n (setP p) := by
  intro v sb sa e
  unfold Go.Proofs.YthlngmknifpbjaaDoor.setP at e
  split at e
  · cases e; omega
  · cases e
theorem SpP.ins {n b : Nat} {S : SetM} (h : SpP n S) (hb : b < n) (d : Int) (k : Nat) : SpP n (ins S d ((b : Int), (k : Int))) := by
  intro v sb sa e
  unfold Go.Proofs.YthlngmknifpbjaaDoor.ins at e
  split at e
  · cases e; omega
  · exact h v sb sa e
theorem SpP.bk {n : Nat} {S : SetM} (h : SpP n S) (v : Nat) : -1 ≤ bkV S v ∧ bkV S v ≤ (n : Int) ∧ ((bkV S v != 0) = (S (v : Int)).isSome) := by
  unfold bkV
  rcases e : S (v : Int) with _ | ⟨sb, sa⟩
  · simp
  · have h1 := h _ _ _ e
    simp only
    by_cases e2 : sa = -1
    · rw [if_pos e2]; simp
      try omega
    · rw [if_neg e2]
      refine ⟨by omega, by omega, ?_⟩
      simp; omega

/-- is a row's block in another's? -/
def knM (bk pl : Nat → Int) (AB : List (List Int)) (v : Nat) (b : Nat) (k : Int) : Bool :=
  if bk v ≤ 0 then decide (bk v < 0) else if bk v - 1 == (b : Int) then decide (pl v < k) else (AB.getD b []).any fun x => x == bk v - 1

theorem dom_zero (pre : Nat → List Nat) (b : Nat) : Dom pre 0 b := by
  intro h
  have : ∀ x, Wy pre (fun y => y = 0) x → False := by
    intro x h
    induction h with
    | start h => exact h rfl
    | step _ _ _ ih => exact ih
  exact this b h
theorem dom_self (pre : Nat → List Nat) (b : Nat) : Dom pre b b := by
  intro h
  cases h with
  | start h => exact h rfl
  | step _ _ h => exact h rfl

open Classical in
theorem abD_zero {L : List (List Int)} {b : Nat} (h : Rch (preL L) b) : abD L 0 b = true := by
  unfold abD; rw [decide_eq_true_iff]; exact ⟨Rch.zero _, h, dom_zero _ _⟩
open Classical in
theorem abD_self {L : List (List Int)} {b : Nat} (h : Rch (preL L) b) : abD L b b = true := by
  unfold abD; rw [decide_eq_true_iff]; exact ⟨h, h, dom_self _ _⟩
open Classical in
theorem abD_rch {L : List (List Int)} {a b : Nat} (h : abD L a b = true) : Rch (preL L) b := by
  unfold abD at h; rw [decide_eq_true_iff] at h; exact h.2.1

/-- the rows of above -/
noncomputable def abR (L : List (List Int)) (n : Nat) : List (List Int) := (List.range n).map fun j => rowD (abD L) j n
theorem abR_len (L : List (List Int)) (n : Nat) : (abR L n).length = n := by simp [abR]
theorem abR_at {L : List (List Int)} {n b : Nat} (h : b < n) : (abR L n)[b]? = some (rowD (abD L) b n) := by
  unfold abR; rw [List.getElem?_map, List.getElem?_range h]; rfl
theorem abR_getD {L : List (List Int)} {n b : Nat} (h : b < n) : (abR L n).getD b [] = rowD (abD L) b n := by
  rw [List.getD_eq_getElem?_getD, abR_at h]; rfl
theorem rowD_any {dm : Nat → Nat → Bool} {b n a : Nat} (h : a < n) : ((rowD dm b n).any fun x => x == (a : Int)) = dm a b := by
  unfold rowD
  rw [Bool.eq_iff_iff, List.any_eq_true]
  constructor
  · rintro ⟨x, hx, e⟩
    rw [List.mem_map] at hx
    obtain ⟨i, hi, rfl⟩ := hx
    rw [List.mem_filter] at hi
    have : i = a := by have h2 : ((i : Nat) : Int) = (a : Int) := by simpa using e
                       omega
    rw [← this]; exact hi.2
  · intro e
    exact ⟨(a : Int), List.mem_map.2 ⟨a, List.mem_filter.2 ⟨List.mem_range.2 h, e⟩, rfl⟩, by simp⟩
open Classical in
theorem rowD_none {L : List (List Int)} {b n : Nat} (h : b < n) : ((rowD (abD L) b n).length = 0) ↔ ¬ Rch (preL L) b := by
  constructor
  · intro e hr
    have h1 : rowD (abD L) b n = [] := List.eq_nil_of_length_eq_zero e
    have h2 := rowD_any (dm := abD L) (b := b) (n := n) h
    rw [h1, abD_self hr] at h2
    simp at h2
  · intro hr
    unfold rowD
    rw [List.length_map, List.length_eq_zero_iff, List.filter_eq_nil_iff]
    intro a _ e
    exact hr (abD_rch e)

theorem bkV_some {S : SetM} {v : Nat} {sb sa : Int} (e : S (v : Int) = some (sb, sa)) : bkV S v = if sa = -1 then -1 else sb + 1 := by unfold bkV; rw [e]
theorem plV_some {S : SetM} {v : Nat} {sb sa : Int} (e : S (v : Int) = some (sb, sa)) : plV S v = if sa = -1 then 0 else sa := by unfold plV; rw [e]

open Classical in
theorem kn_has {L : List (List Int)} {S : SetM} {n v b : Nat} {k : Int} (h : SpP n S) (hb : b < n) (hr : Rch (preL L) b) (hk : 0 ≤ k) : knM (bkV S) (plV S) (abR L n) v b k = hasY L S (v : Int) b k := by
  rcases e : S (v : Int) with _ | ⟨sb, sa⟩
  · have h1 : bkV S v = 0 := by unfold bkV; rw [e]
    simp [knM, hasY, h1, e]
  · obtain ⟨h1, h2, h3, h4⟩ := h _ _ _ e
    have hB := bkV_some e
    have hP := plV_some e
    unfold hasY
    rw [e]
    simp only
    by_cases e2 : sa = -1
    · rw [if_pos e2] at hB hP
      have h5 := h4 e2
      subst h5
      subst e2
      simp only [knM, hB]
      by_cases e3 : (((0 : Int) == (b : Int)) = true)
      · rw [if_pos e3]; simp; omega
      · rw [if_neg e3]
        show _ = abD L (0 : Int).toNat b
        rw [show (0 : Int).toNat = 0 from rfl, abD_zero hr]; simp
    · rw [if_neg e2] at hB hP
      simp only [knM, hB, hP, show sb + 1 - 1 = sb by omega]
      rw [if_neg (show ¬ sb + 1 ≤ 0 by omega)]
      by_cases e3 : ((sb == (b : Int)) = true)
      · rw [if_pos e3, if_pos e3]
      · rw [if_neg e3, if_neg e3, abR_getD hb]
        obtain ⟨s, rfl⟩ : ∃ s : Nat, sb = (s : Int) := ⟨sb.toNat, by omega⟩
        rw [rowD_any (by omega)]
        simp

end Go.Proofs.YthlngmknifpbjaaDoor
