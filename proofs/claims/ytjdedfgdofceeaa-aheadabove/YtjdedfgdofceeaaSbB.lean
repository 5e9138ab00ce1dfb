/-
  Package ssa: the order in which blocks are gone through; plain.
-/
import Derived.Test.YtjdedfgdofceeaaSbA
namespace Go.Proofs.Ytjdedfgdofceeaa
set_option linter.unusedSimpArgs false
set_option linter.unusedVariables false

/-- the blocks that lead to one -/
def preL (L : List (List Int)) (b : Nat) : List Nat := if b < L.length then (List.range L.length).filter (fun a => (L.getD a []).contains (b : Int)) else []
theorem mem_preL {L : List (List Int)} {a b : Nat} : a ∈ preL L b ↔ b < L.length ∧ a < L.length ∧ (b : Int) ∈ L.getD a [] := by
  unfold preL
  split
  · rw [List.mem_filter, List.mem_range, List.contains_iff_mem]
    exact ⟨fun h => ⟨by assumption, h⟩, fun h => h.2⟩
  · exact ⟨fun h => absurd h (List.not_mem_nil), fun h => by omega⟩

/-- a way, block by block -/
def Leads (pre : Nat → List Nat) : List Nat → Prop
  | [] => True
  | [_] => True
  | a :: b :: l => a ∈ pre b ∧ Leads pre (b :: l)
theorem leads_snoc {pre : Nat → List Nat} {b y : Nat} (hb : b ∈ pre y) : ∀ l : List Nat, Leads pre (l ++ [b]) → Leads pre (l ++ [b, y])
  | [], _ => ⟨hb, trivial⟩
  | [a], h => ⟨h.1, hb, trivial⟩
  | a :: c :: l, h => ⟨h.1, leads_snoc hb (c :: l) h.2⟩
theorem leads_init {pre : Nat → List Nat} {b : Nat} : ∀ l : List Nat, Leads pre (l ++ [b]) → Leads pre l
  | [], _ => trivial
  | [a], _ => trivial
  | a :: c :: l, h => ⟨h.1, leads_init (c :: l) h.2⟩
theorem leads_last {pre : Nat → List Nat} {a b : Nat} : ∀ l : List Nat, Leads pre (l ++ [a, b]) → a ∈ pre b
  | [], h => h.1
  | [_], h => h.2.1
  | _ :: c :: l, h => leads_last (c :: l) h.2

/-- the look for an order, within its loop -/
structure Dfs (L : List (List Int)) (order way : List Nat) (met : Nat → Bool) (looked : Nat → Nat) : Prop where
  nodup : (order ++ way).Nodup
  iff : ∀ x, met x = true ↔ x ∈ order ∨ x ∈ way
  fresh : ∀ x, met x = false → looked x = 0
  ok : ∀ x, x ∈ order ∨ x ∈ way → x < L.length ∧ Rch (preL L) x
  path : Leads (preL L) way
  head : way.head? = some 0 ∨ (way = [] ∧ order.getLast? = some 0)
  par : ∀ x, x ∈ order → x ≠ 0 → ∃ a, a ∈ preL L x ∧ (a ∈ way ∨ ∃ l1 l2, order = l1 ++ l2 ∧ x ∈ l1 ∧ a ∈ l2)
  look : ∀ x j y, (x ∈ order ∨ (x ∈ way ∧ j < looked x)) → (L.getD x [])[j]? = some ((y : Nat) : Int) → y < L.length → met y = true

theorem Dfs.start {L : List (List Int)} (h : 0 < L.length) : Dfs L [] [0] (fun x => x == 0) (fun _ => 0) := by
  refine ⟨by simp, by simp, fun _ _ => rfl, ?_, trivial, .inl rfl, by simp, ?_⟩
  · intro x hx
    have : x = 0 := by simpa using hx
    subst this
    exact ⟨h, Rch.zero _⟩
  · intro x j y h; simp at h

def lookAt (f : Nat → Nat) (b : Nat) : Nat → Nat := fun x => if x = b then f b + 1 else f x
def metAt (f : Nat → Bool) (b : Nat) : Nat → Bool := fun x => if x = b then true else f x

/-- a place that is none, or has been met -/
theorem Dfs.pass {L : List (List Int)} {order ws : List Nat} {b : Nat} {met : Nat → Bool} {looked : Nat → Nat} (h : Dfs L order (ws ++ [b]) met looked) {z : Int} (hz : (L.getD b [])[looked b]? = some z) (hm : ¬ (0 ≤ z ∧ z < L.length ∧ met z.toNat = false)) : Dfs L order (ws ++ [b]) met (lookAt looked b) := by
  have hmb : met b = true := (h.iff b).2 (.inr (by simp))
  refine ⟨h.nodup, h.iff, ?_, h.ok, h.path, h.head, h.par, fun x j y hx hy hl => ?_⟩
  · intro x hx
    unfold lookAt
    rw [if_neg (by rintro rfl; rw [hmb] at hx; cases hx)]
    exact h.fresh x hx
  by_cases e : x ∈ order
  · exact h.look x j y (.inl e) hy hl
  · have hx' := hx.resolve_left e
    unfold lookAt at hx'
    by_cases hb : x = b
    · subst hb
      rw [if_pos rfl] at hx'
      by_cases hj : j = looked x
      · subst hj
        rw [hz] at hy
        cases hy
        rcases Bool.eq_false_or_eq_true (met y) with h' | h'
        · exact h'
        · exact absurd ⟨by omega, by omega, by simpa using h'⟩ hm
      · exact h.look x j y (.inr ⟨hx'.1, by omega⟩) hy hl
    · rw [if_neg hb] at hx'
      exact h.look x j y (.inr hx') hy hl

/-- a new block is met -/
theorem Dfs.push {L : List (List Int)} {order ws : List Nat} {b z : Nat} {met : Nat → Bool} {looked : Nat → Nat} (h : Dfs L order (ws ++ [b]) met looked) (hz : (L.getD b [])[looked b]? = some (z : Int)) (hl : z < L.length) (hm : met z = false) : Dfs L order (ws ++ [b, z]) (metAt met z) (lookAt looked b) := by
  have hl0 := h.fresh z hm
  have hb := h.ok b (.inr (by simp))
  have hpre : b ∈ preL L z := mem_preL.2 ⟨hl, hb.1, List.mem_of_getElem? hz⟩
  have hnew : ¬ (z ∈ order ∨ z ∈ ws ++ [b]) := fun hh => by rw [(h.iff z).2 hh] at hm; cases hm
  have hzb : z ≠ b := by rintro rfl; exact hnew (.inr (by simp))
  have e2 : order ++ (ws ++ [b, z]) = (order ++ (ws ++ [b])) ++ [z] := by simp
  have hw : ∀ x, x ∈ ws ++ [b, z] ↔ x ∈ ws ++ [b] ∨ x = z := by intro x; simp [or_assoc]
  have hmb : met b = true := (h.iff b).2 (.inr (by simp))
  refine ⟨?_, ?_, ?_, ?_, leads_snoc hpre ws h.path, ?_, ?_, ?_⟩
  · rw [e2, List.nodup_append]
    refine ⟨h.nodup, by simp, ?_⟩
    intro a ha c hc
    have : c = z := by simpa using hc
    subst this
    rintro rfl
    exact hnew (by simpa using ha)
  · intro x
    rw [hw]
    unfold metAt
    by_cases e : x = z
    · simp [e]
    · rw [if_neg e, h.iff x]; simp [e]
  · intro x hx
    unfold metAt at hx
    split at hx
    · cases hx
    · unfold lookAt
      rw [if_neg (by rintro rfl; rw [hmb] at hx; cases hx)]
      exact h.fresh x hx
  · intro x hx
    rw [hw] at hx
    rcases hx with hx | hx | rfl
    · exact h.ok x (.inl hx)
    · exact h.ok x (.inr hx)
    · exact ⟨hl, hb.2.next hpre⟩
  · left
    rcases h.head with h' | h'
    · cases ws with
      | nil => simpa using h'
      | cons a l => simpa using h'
    · exact absurd h'.1 (by simp)
  · intro x hx h0
    obtain ⟨a, ha, h'⟩ := h.par x hx h0
    exact ⟨a, ha, h'.imp (fun k => (hw a).2 (.inl k)) id⟩
  · intro x j y hx hy hly
    have goal : ∀ y, met y = true → metAt met z y = true := by
      intro y hy; unfold metAt; split
      · rfl
      · exact hy
    by_cases e : x ∈ order
    · exact goal y (h.look x j y (.inl e) hy hly)
    · have hx' := hx.resolve_left e
      rw [hw] at hx'
      unfold lookAt at hx'
      by_cases hb' : x = b
      · subst hb'
        rw [if_pos rfl] at hx'
        by_cases hj : j = looked x
        · subst hj
          rw [hz] at hy
          have : z = y := by have : ((z : Nat) : Int) = (y : Nat) := by simpa using hy
                             omega
          subst this
          unfold metAt; rw [if_pos rfl]
        · exact goal y (h.look x j y (.inr ⟨by simp, by omega⟩) hy hly)
      · rw [if_neg hb'] at hx'
        by_cases hxz : x = z
        · subst hxz; omega
        · exact goal y (h.look x j y (.inr ⟨hx'.1.resolve_right hxz, hx'.2⟩) hy hly)

/-- a block whose places have been looked at is in order -/
theorem Dfs.pop {L : List (List Int)} {order ws : List Nat} {b : Nat} {met : Nat → Bool} {looked : Nat → Nat} (h : Dfs L order (ws ++ [b]) met looked) (hl : (L.getD b []).length ≤ looked b) : Dfs L (order ++ [b]) ws met looked := by
  have hmem : ∀ x, (x ∈ order ++ [b] ∨ x ∈ ws) ↔ (x ∈ order ∨ x ∈ ws ++ [b]) := by
    intro x; simp only [List.mem_append, List.mem_singleton]; grind
  refine ⟨?_, fun x => (h.iff x).trans (hmem x).symm, h.fresh, fun x hx => h.ok x ((hmem x).1 hx), leads_init ws h.path, ?_, ?_, ?_⟩
  · have hn := h.nodup
    simp only [List.nodup_append, List.mem_append, List.mem_singleton] at hn ⊢
    grind
  · cases ws with
    | nil =>
      right
      refine ⟨rfl, ?_⟩
      rcases h.head with h' | h'
      · simpa using h'
      · exact absurd h'.1 (by simp)
    | cons a l =>
      left
      rcases h.head with h' | h'
      · simpa using h'
      · exact absurd h'.1 (by simp)
  · intro x hx h0
    rcases List.mem_append.1 hx with hx | hx
    · obtain ⟨a, ha, h'⟩ := h.par x hx h0
      refine ⟨a, ha, ?_⟩
      rcases h' with h' | ⟨l1, l2, e, h1, h2⟩
      · rcases List.mem_append.1 h' with h' | h'
        · exact .inl h'
        · exact .inr ⟨order, [b], rfl, hx, h'⟩
      · exact .inr ⟨l1, l2 ++ [b], by rw [e, List.append_assoc], h1, List.mem_append.2 (.inl h2)⟩
    · have hxb : x = b := by simpa using hx
      subst hxb
      rcases List.eq_nil_or_concat ws with rfl | ⟨l, a, rfl⟩
      · rcases h.head with h' | h'
        · have : x = 0 := by simpa using h'
          exact absurd this h0
        · exact absurd h'.1 (by simp)
      · refine ⟨a, ?_, .inl (by simp)⟩
        have hp := h.path
        rw [List.concat_eq_append, List.append_assoc] at hp
        exact leads_last l hp
  · intro x j y hx hy hly
    rcases hx with hx | hx
    · rcases List.mem_append.1 hx with hx | hx
      · exact h.look x j y (.inl hx) hy hly
      · have : x = b := by simpa using hx
        subst this
        have : j < (L.getD x []).length := by
          rcases Nat.lt_or_ge j (L.getD x []).length with h' | h'
          · exact h'
          · rw [List.getElem?_eq_none h'] at hy; cases hy
        exact h.look x j y (.inr ⟨by simp, by omega⟩) hy hly
    · exact h.look x j y (.inr ⟨List.mem_append.2 (.inl hx.1), hx.2⟩) hy hly

/-- what the order is at the end -/
structure Ordered (L : List (List Int)) (o : List Nat) : Prop where
  nodup : o.Nodup
  mem : ∀ x, x ∈ o ↔ Rch (preL L) x
  lt : ∀ x, x ∈ o → x < L.length
  head : o.head? = some 0
  par : ∀ x, x ∈ o → x ≠ 0 → ∃ a, a ∈ preL L x ∧ a ∈ o ∧ o.idxOf a < o.idxOf x

theorem Dfs.end {L : List (List Int)} {order : List Nat} {met : Nat → Bool} {looked : Nat → Nat} (h : Dfs L order [] met looked) : Ordered L order.reverse := by
  have hn : order.Nodup := by simpa using h.nodup
  have h0 : order.getLast? = some 0 := by
    rcases h.head with h' | h'
    · cases h'
    · exact h'.2
  have hn' : order.reverse.Nodup := by unfold List.Nodup at hn ⊢; rw [List.pairwise_reverse]; exact hn.imp fun h => h.symm
  refine ⟨hn', ?_, ?_, by rw [List.head?_reverse]; exact h0, ?_⟩
  · intro x
    rw [List.mem_reverse]
    refine ⟨fun hx => (h.ok x (.inl hx)).2, fun hx => ?_⟩
    unfold Rch at hx
    induction hx with
    | start _ => exact List.mem_of_getLast? h0
    | step hw ha hk ih =>
      rename_i a b
      obtain ⟨hb, ha', hc⟩ := mem_preL.1 ha
      obtain ⟨j, hj⟩ := List.getElem?_of_mem hc
      have := (h.iff b).1 (h.look a j b (.inl ih) hj hb)
      simpa using this
  · intro x hx; exact (h.ok x (.inl (List.mem_reverse.1 hx))).1
  · intro x hx h0
    obtain ⟨a, ha, h'⟩ := h.par x (List.mem_reverse.1 hx) h0
    rcases h' with h' | ⟨l1, l2, e, h1, h2⟩
    · exact absurd h' (List.not_mem_nil)
    · refine ⟨a, ha, ?_, ?_⟩
      · rw [List.mem_reverse, e]; exact List.mem_append.2 (.inr h2)
      · have hx2 : x ∉ l2 := by
          intro hx2
          rw [e, List.nodup_append] at hn
          exact hn.2.2 x h1 x hx2 rfl
        rw [e, List.reverse_append, List.idxOf_append, List.idxOf_append, if_pos (List.mem_reverse.2 h2), if_neg (fun h => hx2 (List.mem_reverse.1 h))]
        have := List.idxOf_lt_length_of_mem (List.mem_reverse.2 h2)
        omega

/-- the ranks of an order -/
theorem Ordered.ranks {L : List (List Int)} {o : List Nat} (h : Ordered L o) : ∃ p, Ranks (preL L) (fun x => o.idxOf x) p := by
  have hp : ∀ b, ∃ a, Rch (preL L) b → b ≠ 0 → a ∈ preL L b ∧ Rch (preL L) a ∧ o.idxOf a < o.idxOf b := by
    intro b
    by_cases hb : Rch (preL L) b ∧ b ≠ 0
    · obtain ⟨a, h1, h2, h3⟩ := h.par b ((h.mem b).2 hb.1) hb.2
      exact ⟨a, fun _ _ => ⟨h1, (h.mem a).1 h2, h3⟩⟩
    · exact ⟨0, fun h1 h2 => absurd ⟨h1, h2⟩ hb⟩
  refine ⟨fun b => Classical.choose (hp b), ?_, ?_, fun b h1 h2 => Classical.choose_spec (hp b) h1 h2⟩
  · have := h.head
    cases o with
    | nil => cases this
    | cons a l => cases this; simp
  · intro a b ha hb e
    have ha' := List.idxOf_lt_length_of_mem ((h.mem a).2 ha)
    have hb' := List.idxOf_lt_length_of_mem ((h.mem b).2 hb)
    have e1 := List.getElem_idxOf ha'
    have e2 := List.getElem_idxOf hb'
    have e : o.idxOf a = o.idxOf b := e
    rw [← e1, ← e2]
    simp only [e]

theorem Ordered.rank_lt {L : List (List Int)} {o : List Nat} (h : Ordered L o) {x : Nat} (hx : Rch (preL L) x) : o.idxOf x < o.length := List.idxOf_lt_length_of_mem ((h.mem x).2 hx)

end Go.Proofs.Ytjdedfgdofceeaa
