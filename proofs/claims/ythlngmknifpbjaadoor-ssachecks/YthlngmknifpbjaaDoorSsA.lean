/-
  Package ssa: where the blocks of the tree stand tells which is above which: plain.
-/
import Derived.Test.YthlngmknifpbjaaDoorJSbO2
namespace Go.Proofs.YthlngmknifpbjaaDoor
set_option linter.unusedSimpArgs false
set_option linter.unusedVariables false

section
variable {o : List Nat} {q : Nat → Nat}

/-- where the first i blocks stand: each within the one above it, those below one apart -/
structure NW (o : List Nat) (q : Nat → Nat) (i : Nat) (at' fr : Nat → Nat) : Prop where
  fw : FW o q i at' fr
  gt : ∀ b, b ∈ o.take i → at' b < fr b
  inn : ∀ b, b ∈ o.take i → b ≠ 0 → at' (q b) < at' b ∧ at' b + manyL q o b ≤ at' (q b) + manyL q o (q b)
  beh : ∀ b, b ∈ o.take i → b ≠ 0 → at' b + manyL q o b ≤ fr (q b)
  apart : ∀ b c, b ∈ o.take i → c ∈ o.take i → b ≠ 0 → c ≠ 0 → b ≠ c → q b = q c → at' b + manyL q o b ≤ at' c ∨ at' c + manyL q o c ≤ at' b

theorem take_one (T : TR o q) {b : Nat} (h : b ∈ o.take 1) : b = 0 := by
  have hh := T.head
  rcases o with _ | ⟨y, l⟩
  · cases hh
  · simp at hh h; omega

theorem NW.first (T : TR o q) : NW o q 1 (updN (fun _ => 0) 0 0) (updN (fun _ => 0) 0 1) :=
  ⟨FW.first T, fun b hb => by rw [take_one T hb]; simp [updN], fun b hb h0 => absurd (take_one T hb) h0, fun b hb h0 => absurd (take_one T hb) h0, fun b c hb _ h0 => absurd (take_one T hb) h0⟩
theorem NW.first' (T : TR o q) {at' fr : Nat → Nat} : NW o q 1 (updN at' 0 0) (updN fr 0 1) :=
  ⟨FW.first T, fun b hb => by rw [take_one T hb]; simp [updN], fun b hb h0 => absurd (take_one T hb) h0, fun b hb h0 => absurd (take_one T hb) h0, fun b c hb _ h0 => absurd (take_one T hb) h0⟩

theorem par_take (T : TR o q) {i c : Nat} (hc : c ∈ o.take i) (h0 : c ≠ 0) : q c ∈ o.take i := by
  rw [List.mem_take_iff_getElem] at hc ⊢
  obtain ⟨j, hj, rfl⟩ := hc
  have hx : o.idxOf o[j] = j := List.Nodup.idxOf_getElem T.nodup j (by omega)
  obtain ⟨h1, h2⟩ := T.par o[j] (List.getElem_mem _) h0
  rw [hx] at h2
  exact ⟨o.idxOf (q o[j]), by omega, List.getElem_idxOf (List.idxOf_lt_length_of_mem h1)⟩

theorem not_take (T : TR o q) {i b : Nat} (hb : o[i]? = some b) : b ∉ o.take i := fun hc => by
  obtain ⟨hil, hbe⟩ := List.getElem?_eq_some_iff.1 hb
  rw [List.mem_take_iff_getElem] at hc
  obtain ⟨j, hj, he⟩ := hc
  have h1 : o.idxOf b = j := by rw [← he]; exact List.Nodup.idxOf_getElem T.nodup j (by omega)
  have h2 : o.idxOf b = i := by rw [← hbe]; exact List.Nodup.idxOf_getElem T.nodup i hil
  omega

theorem NW.next (T : TR o q) {i b : Nat} {at' fr : Nat → Nat} (h : NW o q i at' fr) (hi : 0 < i) (hb : o[i]? = some b) :
    b ≠ 0 ∧ q b ∈ o.take i ∧ fr (q b) + manyL q o b ≤ o.length ∧ 1 ≤ manyL q o b ∧ NW o q (i + 1) (updN at' b (fr (q b))) (updN (updN fr (q b) (fr (q b) + manyL q o b)) b (fr (q b) + 1)) := by
  obtain ⟨h0, hq, h1, h2, hF⟩ := h.fw.next T hi hb
  refine ⟨h0, hq, h1, h2, hF, ?_, ?_, ?_, ?_⟩
  all_goals
    have hbt := not_take T hb
    have hqb : q b ≠ b := fun e => hbt (e ▸ hq)
    have hmem : ∀ c, c ∈ o.take (i + 1) → c = b ∨ (c ∈ o.take i ∧ c ≠ b) := fun c hc => by
      rw [List.take_add_one, hb] at hc
      simp only [Option.toList_some, List.mem_append, List.mem_singleton] at hc
      rcases hc with hc | hc
      · exact .inr ⟨hc, fun e => hbt (e ▸ hc)⟩
      · exact .inl hc
    have hpn : ∀ c, c ∈ o.take i → c ≠ 0 → q c ≠ b := fun c hc hz e => hbt (e ▸ par_take T hc hz)
  · intro c hc
    rcases hmem c hc with rfl | ⟨hc, hne⟩
    · simp [updN]
    · have := h.gt c hc
      by_cases e : c = q b
      · subst e; simp [updN, hqb]; omega
      · simp [updN, hne, e]; exact this
  · intro c hc hz
    rcases hmem c hc with rfl | ⟨hc, hne⟩
    · rw [updN_same, updN_other _ _ hqb]
      have g1 := h.gt (q c) hq
      have g2 := h.fw.eq (q c) hq
      rw [drop_cons hb] at g2
      have g3 : sumC q (manyL q o) (q c) (c :: o.drop (i + 1)) = manyL q o c + sumC q (manyL q o) (q c) (o.drop (i + 1)) := by
        show (if c ≠ 0 ∧ q c = q c then manyL q o c else 0) + _ = _
        rw [if_pos ⟨hz, rfl⟩]
      rw [g3] at g2
      exact ⟨g1, by omega⟩
    · rw [updN_other _ _ hne, updN_other _ _ (hpn c hc hz)]
      exact h.inn c hc hz
  · intro c hc hz
    rcases hmem c hc with rfl | ⟨hc, hne⟩
    · rw [updN_same, updN_other _ _ hqb, updN_same]
      exact Nat.le_refl _
    · rw [updN_other _ _ hne, updN_other _ _ (hpn c hc hz)]
      have := h.beh c hc hz
      by_cases e : q c = q b
      · rw [e, updN_same]; rw [e] at this; omega
      · rw [updN_other _ _ e]; exact this
  · intro c d hc hd hz hz2 hne he
    rcases hmem c hc with rfl | ⟨hc, hnc⟩
    · rcases hmem d hd with rfl | ⟨hd, hnd⟩
      · exact absurd rfl hne
      · right
        rw [updN_same, updN_other _ _ hnd, he]
        exact h.beh d hd hz2
    · rcases hmem d hd with rfl | ⟨hd, hnd⟩
      · left
        rw [updN_same, updN_other _ _ hnc, ← he]
        exact h.beh c hc hz
      · rw [updN_other _ _ hnc, updN_other _ _ hnd]
        exact h.apart c d hc hd hz hz2 hne he

theorem NW.zero' (f g : Nat → Nat) : NW o q 0 f g := ⟨FW.zero' f g, fun b hb => by simp at hb, fun b hb => by simp at hb, fun b hb => by simp at hb, fun b c hb => by simp at hb⟩

/-- in the chain of q -/
inductive Cq (q : Nat → Nat) (x : Nat) : Nat → Prop
  | here : Cq q x x
  | up {b : Nat} : b ≠ 0 → Cq q x (q b) → Cq q x b

variable {at' fr : Nat → Nat}
theorem NW.chain (T : TR o q) (h : NW o q o.length at' fr) {a b : Nat} (hb : b ∈ o) (hc : Cq q a b) : a ∈ o ∧ at' a ≤ at' b ∧ at' b + manyL q o b ≤ at' a + manyL q o a ∧ o.idxOf a ≤ o.idxOf b := by
  induction hc with
  | here => exact ⟨hb, Nat.le_refl _, Nat.le_refl _, Nat.le_refl _⟩
  | up h0 _ ih =>
    have h1 := T.par _ hb h0
    obtain ⟨i1, i2, i3, i4⟩ := ih h1.1
    have h2 := h.inn _ (by rw [List.take_length]; exact hb) h0
    exact ⟨i1, by omega, by omega, by omega⟩

/-- a proper way up ends below a -/
theorem Cq.child {a b : Nat} (hc : Cq q a b) (hne : a ≠ b) : ∃ c, c ≠ 0 ∧ q c = a ∧ Cq q c b := by
  induction hc with
  | here => exact absurd rfl hne
  | up h0 hk ih =>
    rename_i b
    by_cases e : a = q b
    · exact ⟨b, h0, e.symm, .here⟩
    · obtain ⟨c, h1, h2, h3⟩ := ih e
      exact ⟨c, h1, h2, .up h0 h3⟩

theorem NW.three (T : TR o q) (h : NW o q o.length at' fr) : ∀ (m : Nat) (a b : Nat), a ∈ o → b ∈ o → o.idxOf a + o.idxOf b ≤ m → Cq q a b ∨ Cq q b a ∨ at' a + manyL q o a ≤ at' b ∨ at' b + manyL q o b ≤ at' a := by
  have hall : ∀ b, b ∈ o → b ∈ o.take o.length := fun b hb => by rw [List.take_length]; exact hb
  have half : ∀ (m : Nat), (∀ a b, a ∈ o → b ∈ o → o.idxOf a + o.idxOf b < m → Cq q a b ∨ Cq q b a ∨ at' a + manyL q o a ≤ at' b ∨ at' b + manyL q o b ≤ at' a) →
      ∀ a b, a ∈ o → b ∈ o → o.idxOf a + o.idxOf b ≤ m → o.idxOf a < o.idxOf b → Cq q a b ∨ Cq q b a ∨ at' a + manyL q o a ≤ at' b ∨ at' b + manyL q o b ≤ at' a := by
    intro m ih a b ha hb hm hlt
    have h0 : b ≠ 0 := by
      rintro rfl
      have hh := T.head
      rw [List.head?_eq_getElem?] at hh
      obtain ⟨hz, he⟩ := List.getElem?_eq_some_iff.1 hh
      have : o.idxOf 0 = 0 := by have := List.Nodup.idxOf_getElem T.nodup 0 hz; rw [he] at this; exact this
      omega
    obtain ⟨hq, hql⟩ := T.par b hb h0
    have hi := h.inn b (hall b hb) h0
    rcases ih a (q b) ha hq (by omega) with h1 | h1 | h1 | h1
    · exact .inl (.up h0 h1)
    · by_cases e : q b = a
      · exact .inl (.up h0 (e ▸ .here))
      · obtain ⟨c, c0, c1, c2⟩ := h1.child e
        have hch := h.chain T ha c2
        have hcb : c ≠ b := by
          rintro rfl
          omega
        have := h.apart c b (hall c hch.1) (hall b hb) c0 h0 hcb c1
        rcases this with h2 | h2
        · right; right; left; omega
        · right; right; right; omega
    · right; right; left; omega
    · right; right; right; omega
  intro m
  induction m with
  | zero =>
    intro a b ha hb hm
    have e : o.idxOf a = o.idxOf b := by omega
    have : a = b := by
      have h1 := List.getElem_idxOf (List.idxOf_lt_length_of_mem ha)
      have h2 := List.getElem_idxOf (List.idxOf_lt_length_of_mem hb)
      rw [← h1, ← h2]; congr 1
    subst this
    exact .inl .here
  | succ m ih =>
    intro a b ha hb hm
    have ih2 : ∀ a b, a ∈ o → b ∈ o → o.idxOf a + o.idxOf b < m + 1 → _ := fun a b ha hb hl => ih a b ha hb (by omega)
    rcases Nat.lt_trichotomy (o.idxOf a) (o.idxOf b) with hl | hl | hl
    · exact half (m + 1) ih2 a b ha hb hm hl
    · have : a = b := by
        have h1 := List.getElem_idxOf (List.idxOf_lt_length_of_mem ha)
        have h2 := List.getElem_idxOf (List.idxOf_lt_length_of_mem hb)
        rw [← h1, ← h2]; congr 1
      subst this
      exact .inl .here
    · rcases half (m + 1) ih2 b a hb ha (by omega) hl with h1 | h1 | h1 | h1
      · exact .inr (.inl h1)
      · exact .inl h1
      · exact .inr (.inr (.inr h1))
      · exact .inr (.inr (.inl h1))

theorem NW.above (T : TR o q) (h : NW o q o.length at' fr) {a b : Nat} (ha : a ∈ o) (hb : b ∈ o) : (at' a ≤ at' b ∧ at' b < at' a + manyL q o a) ↔ Cq q a b := by
  constructor
  · rintro ⟨h1, h2⟩
    have hp : ∀ x, x ∈ o → 1 ≤ manyL q o x := fun x hx => by have := many_eq T hx; omega
    rcases h.three T _ a b ha hb (Nat.le_refl _) with h3 | h3 | h3 | h3
    · exact h3
    · by_cases e : b = a
      · subst e; exact .here
      · exfalso
        obtain ⟨c, c0, c1, c2⟩ := h3.child e
        have h4 := h.chain T ha c2
        have h5 := h.inn c (by rw [List.take_length]; exact h4.1) c0
        rw [c1] at h5
        omega
    · omega
    · have := hp b hb; omega
  · intro hc
    have h1 := h.chain T hb hc
    have := many_eq T hb
    exact ⟨h1.2.1, by omega⟩

/-- the chain of what is the nearest one above -/
theorem ch_cq {u : Nat → Option Nat} (T : TR o q) (hu0 : u 0 = none) (hu : ∀ b, b ∈ o → b ≠ 0 → u b = some (q b)) {a b : Nat} (hb : b ∈ o) : Ch u a b ↔ Cq q a b := by
  constructor
  · intro h
    induction h with
    | here => exact .here
    | @up b c e _ ih =>
      by_cases h0 : b = 0
      · subst h0; rw [hu0] at e; cases e
      · rw [hu b hb h0] at e
        injection e with e
        subst e
        exact .up h0 (ih (T.par b hb h0).1)
  · intro h
    induction h with
    | here => exact .here
    | up h0 _ ih => exact .up (hu _ hb h0) (ih (T.par _ hb h0).1)
end

end Go.Proofs.YthlngmknifpbjaaDoor
