/-
  Package ssa: what is known where, by what is above what: plain.
-/
import Derived.Test.YthlngmknifpbjaaDoorSsK
import Derived.Test.YthlngmknifpbjaaDoorJSbS0
namespace Go.Proofs.YthlngmknifpbjaaDoor
open Go.RowKit
set_option linter.unusedSimpArgs false
set_option linter.unusedVariables false

open Classical in
/-- has a variable its value ahead of a spot, by what is above what? -/
noncomputable def hasY (L : List (List Int)) (S : SetM) (v : Int) (hb : Nat) (ha : Int) : Bool :=
  match S v with
  | none => false
  | some (sb, sa) => if sb == (hb : Int) then decide (sa < ha) else abD L sb.toNat hb
open Classical in
noncomputable def askY (L AH : List (List Int)) (bs : List (List Ins)) (S : SetM) (x : Ins) (hb : Nat) (ha : Int) (i : Nat) : Bool :=
  match x.ar[i]? with
  | some a => !decide (Rch (preL L) (fromM AH bs x hb ha i).1) || hasY L S a (fromM AH bs x hb ha i).1 (fromM AH bs x hb ha i).2
  | none => true
open Classical in
noncomputable def usesY (L AH : List (List Int)) (bs : List (List Ins)) (S : SetM) : Bool :=
  (List.range bs.length).all fun b => !decide (Rch (preL L) b) || (List.range (bs.getD b []).length).all fun k =>
    match (bs.getD b [])[k]? with
    | some x => (List.range x.ar.length).all (askY L AH bs S x b (k : Int))
    | none => true

section
variable {L : List (List Int)} {o : List Nat} {u : Nat → Option Nat} {A N : Nat → Int} {at' fr : Nat → Nat} {m n : Nat}
/-- what flowOf answers, in a word -/
structure FlowP (L : List (List Int)) (o : List Nat) (u : Nat → Option Nat) (n : Nat) (A N : Nat → Int) : Prop where
  ord : Ordered L o
  up : UpOf L o u
  ln : n = L.length
  big : n ≤ 1048576
  nw : ∃ at' fr, NW o (fun b => (u b).getD 0) o.length at' fr ∧ ∀ b, b ∈ o → A b = (at' b : Int)
  no : ∀ b, b ∉ o → A b = -1
  many : ∀ b, N b = wrap64 ((manyL (fun b => (u b).getD 0) o b : Nat) : Int)

theorem FlowP.done (h : FlowP L o u n A N) (b : Nat) : (A b != -1) = true ↔ Rch (preL L) b := by
  rw [← h.ord.mem b]
  obtain ⟨at', fr, _, h2⟩ := h.nw
  constructor
  · intro e
    by_cases hb : b ∈ o
    · exact hb
    · rw [h.no b hb] at e; simp at e
  · intro hb
    rw [h2 b hb]; simp

theorem olen (h : Ordered L o) : o.length ≤ L.length := by
  have h1 : o.length ≤ (List.range L.length).length := List.Nodup.length_le_of_subset h.nodup (fun x hx => List.mem_range.2 (h.lt x hx))
  rwa [List.length_range] at h1

open Classical in
theorem FlowP.above (h : FlowP L o u n A N) {a b : Nat} (ha : Rch (preL L) a) : (decide (A a ≤ A b) && decide (A b < wrap64 (A a + N a))) = abD L a b := by
  have hT := h.up.tree h.ord
  have hao := (h.ord.mem a).2 ha
  obtain ⟨at', fr, h1, h2⟩ := h.nw
  have hlen := olen h.ord
  have hle := h1.fw.le a (by rw [List.take_length]; exact hao)
  have hbig := h.big
  have hln := h.ln
  by_cases hb : b ∈ o
  · have hN : N a = ((manyL (fun b => (u b).getD 0) o a : Nat) : Int) := by rw [h.many]; exact wrap64_nat (by omega)
    have hW : wrap64 (A a + N a) = ((at' a + manyL (fun b => (u b).getD 0) o a : Nat) : Int) := by
      rw [h2 a hao, hN]
      have := wrap64_two' (a := at' a) (b := manyL (fun b => (u b).getD 0) o a) (by omega)
      rw [this]; omega
    rw [hW, h2 a hao, h2 b hb]
    have hR := (h.ord.mem b).1 hb
    have hch := ch_cq (u := u) hT h.up.st.zero (fun b hb h0 => h.up.tree2 h.ord hb h0) (a := a) hb
    have hab := h1.above hT hao hb
    have hd := h.up.dom b a hR
    unfold abD
    rw [Bool.eq_iff_iff, Bool.and_eq_true, decide_eq_true_iff, decide_eq_true_iff, decide_eq_true_iff]
    constructor
    · rintro ⟨e1, e2⟩
      exact ⟨ha, hR, hd.1 (hch.2 (hab.1 ⟨by omega, by omega⟩))⟩
    · rintro ⟨_, _, e⟩
      have := hab.2 (hch.1 (hd.2 e))
      omega
  · rw [h.no b hb, h2 a hao]
    have h3 : abD L a b = false := by
      unfold abD
      rw [decide_eq_false_iff_not]
      rintro ⟨_, e, _⟩
      exact hb ((h.ord.mem b).2 e)
    rw [h3]
    have : decide (((at' a : Nat) : Int) ≤ -1) = false := by rw [decide_eq_false_iff_not]; omega
    rw [this]; rfl

open Classical in
theorem FlowP.has (h : FlowP L o u n A N) (S : SetM) (v : Int) (hb : Nat) (ha : Int) : hasM S A N v hb ha = hasY L S v hb ha := by
  unfold hasM hasY
  rcases S v with _ | ⟨sb, sa⟩
  · rfl
  · simp only
    by_cases e : (sb == (hb : Int)) = true
    · rw [if_pos e, if_pos e]
    · rw [if_neg e, if_neg e]
      by_cases hr : Rch (preL L) sb.toNat
      · rw [(h.done _).2 hr, h.above hr]; rfl
      · have h1 : (A sb.toNat != -1) = false := by
          rw [← Bool.not_eq_true, h.done]; exact hr
        have h2 : abD L sb.toNat hb = false := by
          unfold abD
          rw [decide_eq_false_iff_not]
          rintro ⟨e, _⟩
          exact hr e
        rw [h1, h2]; rfl

open Classical in
theorem FlowP.ask (h : FlowP L o u n A N) (AH : List (List Int)) (bs : List (List Ins)) (S : SetM) (x : Ins) (hb : Nat) (ha : Int) (i : Nat) : askM AH bs S A N x hb ha i = askY L AH bs S x hb ha i := by
  unfold askM askY
  rcases x.ar[i]? with _ | a
  · rfl
  · simp only
    rw [h.has]
    congr 1
    by_cases hr : Rch (preL L) (fromM AH bs x hb ha i).1
    · have h1 := (h.done _).2 hr
      have h2 : (A (fromM AH bs x hb ha i).1 == -1) = false := by simpa using h1
      rw [h2]; simp [hr]
    · have h1 : (A (fromM AH bs x hb ha i).1 != -1) = false := by rw [← Bool.not_eq_true, h.done]; exact hr
      have h2 : (A (fromM AH bs x hb ha i).1 == -1) = true := by simpa using h1
      rw [h2]; simp [hr]

open Classical in
theorem FlowP.uses (h : FlowP L o u n A N) (AH : List (List Int)) (bs : List (List Ins)) (S : SetM) (hn : bs.length = n) : usesM AH bs S A N o = usesY L AH bs S := by
  unfold usesM usesY
  rw [Bool.eq_iff_iff, List.all_eq_true, List.all_eq_true]
  have key : ∀ b, ((List.range (bs.getD b []).length).all (useB AH bs S A N b (bs.getD b []))) = ((List.range (bs.getD b []).length).all fun k => match (bs.getD b [])[k]? with | some x => (List.range x.ar.length).all (askY L AH bs S x b (k : Int)) | none => true) := fun b => by
    congr 1
    funext k
    unfold useB
    rcases (bs.getD b [])[k]? with _ | x
    · rfl
    · simp only
      unfold asksM
      congr 1
      funext i
      exact h.ask AH bs S x b (k : Int) i
  constructor
  · intro k b hb
    by_cases hr : Rch (preL L) b
    · have := k b ((h.ord.mem b).2 hr)
      rw [key b] at this
      simp only [hr, decide_true, Bool.not_true, Bool.false_or]
      exact this
    · simp [hr]
  · intro k b hb
    have hr := (h.ord.mem b).1 hb
    have := k b (List.mem_range.2 (by have := h.ord.lt b hb; have := h.ln; omega))
    simp only [hr, decide_true, Bool.not_true, Bool.false_or] at this
    rw [key b]
    exact this
end

end Go.Proofs.YthlngmknifpbjaaDoor
