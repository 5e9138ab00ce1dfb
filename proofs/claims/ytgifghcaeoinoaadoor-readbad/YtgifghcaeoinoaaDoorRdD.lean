/-
  What reads the tables: isOperator, skipType.
-/
import Derived.Test.YtgifghcaeoinoaaDoorRdC
import Derived.Test.YtgifghcaeoinoaaDoorRdT
namespace Go.Proofs.YtgifghcaeoinoaaDoor
open Go.RowKit
set_option linter.unusedSimpArgs false
set_option linter.unusedVariables false

theorem idx6_0 (x0 x1 x2 x3 x4 x5 : Value) (w : World) : (Instr.index 120 (.agg #[x0, x1, x2, x3, x4, x5]) (.int .i64 0)).run Tryd.prog w = .ok x0 w := by kernel_rfl
theorem idx6_1 (x0 x1 x2 x3 x4 x5 : Value) (w : World) : (Instr.index 120 (.agg #[x0, x1, x2, x3, x4, x5]) (.int .i64 1)).run Tryd.prog w = .ok x1 w := by kernel_rfl
theorem idx6_2 (x0 x1 x2 x3 x4 x5 : Value) (w : World) : (Instr.index 120 (.agg #[x0, x1, x2, x3, x4, x5]) (.int .i64 2)).run Tryd.prog w = .ok x2 w := by kernel_rfl
theorem idx6_3 (x0 x1 x2 x3 x4 x5 : Value) (w : World) : (Instr.index 120 (.agg #[x0, x1, x2, x3, x4, x5]) (.int .i64 3)).run Tryd.prog w = .ok x3 w := by kernel_rfl
theorem idx6_4 (x0 x1 x2 x3 x4 x5 : Value) (w : World) : (Instr.index 120 (.agg #[x0, x1, x2, x3, x4, x5]) (.int .i64 4)).run Tryd.prog w = .ok x4 w := by kernel_rfl
theorem idx6_5 (x0 x1 x2 x3 x4 x5 : Value) (w : World) : (Instr.index 120 (.agg #[x0, x1, x2, x3, x4, x5]) (.int .i64 5)).run Tryd.prog w = .ok x5 w := by kernel_rfl

theorem idx6 (x0 x1 x2 x3 x4 x5 : Value) (k : Nat) (hk : k < 6) (w : World) :
    (Instr.index 120 (.agg #[x0, x1, x2, x3, x4, x5]) (.int .i64 k)).run Tryd.prog w = .ok ([x0, x1, x2, x3, x4, x5].getD k undef) w := by
  have h : k = 0 ∨ k = 1 ∨ k = 2 ∨ k = 3 ∨ k = 4 ∨ k = 5 := by omega
  rcases h with rfl | rfl | rfl | rfl | rfl | rfl
  · exact idx6_0 _ _ _ _ _ _ _
  · exact idx6_1 _ _ _ _ _ _ _
  · exact idx6_2 _ _ _ _ _ _ _
  · exact idx6_3 _ _ _ _ _ _ _
  · exact idx6_4 _ _ _ _ _ _ _
  · exact idx6_5 _ _ _ _ _ _ _

theorem getD_str6 (s0 s1 s2 s3 s4 s5 : List UInt8) (k : Nat) (hk : k < 6) :
    [Value.string ⟨s0.toArray⟩, .string ⟨s1.toArray⟩, .string ⟨s2.toArray⟩, .string ⟨s3.toArray⟩, .string ⟨s4.toArray⟩, .string ⟨s5.toArray⟩].getD k undef = .string ⟨([s0, s1, s2, s3, s4, s5].getD k []).toArray⟩ := by
  have h : k = 0 ∨ k = 1 ∨ k = 2 ∨ k = 3 ∨ k = 4 ∨ k = 5 := by omega
  rcases h with rfl | rfl | rfl | rfl | rfl | rfl <;> rfl

theorem any6 (x s0 s1 s2 s3 s4 s5 : List UInt8) (k : Nat) (hk : k < 6) (h : (x == [s0, s1, s2, s3, s4, s5].getD k []) = true) : [s0, s1, s2, s3, s4, s5].any (fun o => x == o) = true := by
  rw [List.any_eq_true]
  refine ⟨_, ?_, h⟩
  have h : k = 0 ∨ k = 1 ∨ k = 2 ∨ k = 3 ∨ k = 4 ∨ k = 5 := by omega
  rcases h with rfl | rfl | rfl | rfl | rfl | rfl <;> simp

theorem none6 (x s0 s1 s2 s3 s4 s5 : List UInt8) (h : ∀ j, j < 6 → (x == [s0, s1, s2, s3, s4, s5].getD j []) = false) : [s0, s1, s2, s3, s4, s5].any (fun o => x == o) = false := by
  have h0 := h 0 (by omega); have h1 := h 1 (by omega); have h2 := h 2 (by omega); have h3 := h 3 (by omega); have h4 := h 4 (by omega); have h5 := h 5 (by omega)
  simp at h0 h1 h2 h3 h4 h5 ⊢
  exact ⟨h0, h1, h2, h3, h4, h5⟩

/-- is a piece an operator of a level? -/
def isOpM (t : Tok) (lv : Nat) : Bool := t.kind == 5 && ((levelsL.drop (lv * 6)).take 6).any (fun o => t.s == o)

set_option maxHeartbeats 1000000 in
theorem isOperator_core (t : Tok) (lv : Nat) (hlv : lv < 5) (w : World) (hG : 8 ≤ w.heap.size) (s0 s1 s2 s3 s4 s5 : List UInt8)
    (c0 : w.cell? ⟨7, lv * 6, none⟩ = some (.string ⟨s0.toArray⟩)) (c1 : w.cell? ⟨7, lv * 6 + 1, none⟩ = some (.string ⟨s1.toArray⟩)) (c2 : w.cell? ⟨7, lv * 6 + 2, none⟩ = some (.string ⟨s2.toArray⟩))
    (c3 : w.cell? ⟨7, lv * 6 + 3, none⟩ = some (.string ⟨s3.toArray⟩)) (c4 : w.cell? ⟨7, lv * 6 + 4, none⟩ = some (.string ⟨s4.toArray⟩)) (c5 : w.cell? ⟨7, lv * 6 + 5, none⟩ = some (.string ⟨s5.toArray⟩))
    (r : Bool) (HR : Hid (r = (t.kind == 5 && [s0, s1, s2, s3, s4, s5].any (fun o => t.s == o)))) :
    Calls Tryd.prog 126 #[t.val, .int .i64 lv] w fun e w' => e = .returned (.bool r) ∧ Below w.heap.size w w' := by
  unfold Tok.val
  have h7 : 7 < w.heap.size := by omega
  have hi := fun k hk w' => idx6 (.string ⟨s0.toArray⟩) (.string ⟨s1.toArray⟩) (.string ⟨s2.toArray⟩) (.string ⟨s3.toArray⟩) (.string ⟨s4.toArray⟩) (.string ⟨s5.toArray⟩) k hk w'
  rcases hk5 : (t.kind != 5) with _ | _
  · go_enter Tryd.func126, Tryd.ntmps126
    go_wp2
    have hk6 : (t.kind == 5) = true := by simpa using hk5
    go_loop [13] (fun i => ∃ k : Nat, k ≤ 6 ∧ i = .int .i64 k ∧ ∀ j, j < k → (t.s == [s0, s1, s2, s3, s4, s5].getD j []) = false) (fun i => 6 - (intOf i).toNat)
    case atStart => exact ⟨0, by omega, rfl, fun j hj => by omega⟩
    case round =>
      obtain ⟨k, hk, rfl, hno⟩ := hrel
      by_cases hlt : k < 6
      · have hik := hi k hlt
        rw [getD_str6 _ _ _ _ _ _ _ hlt] at hik
        clear hi
        generalize hs : [s0, s1, s2, s3, s4, s5].getD k [] = sk at *
        have HS : Hid ([s0, s1, s2, s3, s4, s5].getD k [] = sk) := hs
        clear hs
        rcases he : (t.s == sk) with _ | _
        · have HN : Hid (∀ j, j < k → (t.s == [s0, s1, s2, s3, s4, s5].getD j []) = false) := hno
          clear hno
          go_wp2
          go_round
          case rel => exact ⟨k + 1, by omega, by go_num, fun j hj => by
            rcases Nat.lt_or_eq_of_le (Nat.le_of_lt_succ hj) with h | rfl
            · exact HN.out j h
            · rw [HS.out]; exact he⟩
          case measure => simp [intOf]; omega
        · clear hno
          go_wp2
          go_ret
          exact ⟨by rw [HR.out, hk6, any6 _ _ _ _ _ _ _ k hlt (by rw [HS.out]; exact he)]; rfl, (Below.refl _ _).alloc (Nat.le_refl _) _⟩
      · obtain rfl : k = 6 := by omega
        have HN : Hid (∀ j, j < 6 → (t.s == [s0, s1, s2, s3, s4, s5].getD j []) = false) := hno
        clear hno hi
        go_wp2
        go_ret
        exact ⟨by rw [HR.out, none6 _ _ _ _ _ _ _ HN.out, Bool.and_false]; rfl, (Below.refl _ _).alloc (Nat.le_refl _) _⟩
  · have hk6 : (t.kind == 5) = false := by simp at hk5 ⊢; exact hk5
    go_enter Tryd.func126, Tryd.ntmps126
    go_wp2
    go_ret
    exact ⟨by rw [HR.out, hk6]; rfl, (Below.refl _ _).alloc (Nat.le_refl _) _⟩

theorem isOperator_any (t : Tok) (lv : Nat) (hlv : lv < 5) (w : World) (hG : 8 ≤ w.heap.size) (ht : Tab w) :
    Calls Tryd.prog 126 #[t.val, .int .i64 lv] w fun e w' => e = .returned (.bool (isOpM t lv)) ∧ Below w.heap.size w w' := by
  have hc : ∀ i, i < 30 → w.cell? ⟨7, i, none⟩ = some (.string ⟨(levelsL.getD i []).toArray⟩) := fun i hi => ht.lv i hi
  refine isOperator_core t lv hlv w hG _ _ _ _ _ _ (hc _ (by omega)) (hc _ (by omega)) (hc _ (by omega)) (hc _ (by omega)) (hc _ (by omega)) (hc _ (by omega)) _ ?_
  unfold isOpM Hid
  have h : lv = 0 ∨ lv = 1 ∨ lv = 2 ∨ lv = 3 ∨ lv = 4 := by omega
  rcases h with rfl | rfl | rfl | rfl | rfl <;> rfl

/-- which type a piece is; none: it is none -/
def typeM (t : Tok) : Option Nat := if t.kind != 2 then none else (List.range 6).find? (fun j => typeWordsL.getD j [] == t.s)

/-- .. and which piece is next behind it -/
def typeP (t : Tok) (n : Nat) : Nat × Nat := match typeM t with
  | some j => (j, n + 1)
  | none => (0, n)

theorem find6_some {p : Nat → Bool} {k : Nat} (hk : k < 6) (hp : p k = true) (hno : ∀ j, j < k → p j = false) : (List.range 6).find? p = some k := by
  rw [List.find?_range_eq_some]
  exact ⟨hp, by simpa using hk, fun j hj => by simp [hno j hj]⟩

theorem find6_none {p : Nat → Bool} (hno : ∀ j, j < 6 → p j = false) : (List.range 6).find? p = none := by
  rw [List.find?_range_eq_none]
  intro i hi
  simp [hno i hi]

set_option maxHeartbeats 1000000 in
theorem skipType_core (w : World) (b bp cap T : Nat) (ps : List Tok) (q : RS) (h : Rdr w b bp cap T ps q) (s0 s1 s2 s3 s4 s5 : List UInt8)
    (hl : typeWordsL = [s0, s1, s2, s3, s4, s5]) (tv n' : Nat) (HR : Hid ((tv, n') = typeP (cur ps q.next) q.next)) :
    Calls Tryd.prog 60 #[.pointer (some ⟨b, 0, none⟩)] w fun e w' => e = .returned (.int .i64 tv) ∧ Rdr w' b bp cap T ps { q with next := n' } ∧ Kept b w w' := by
  have hty := h.tab.ty
  rw [hl] at hty
  unfold typeP typeM at HR
  rw [hl] at HR
  clear hl
  have c0 := hty 0 (by simp); have c1 := hty 1 (by simp); have c2 := hty 2 (by simp); have c3 := hty 3 (by simp); have c4 := hty 4 (by simp); have c5 := hty 5 (by simp)
  simp at c0 c1 c2 c3 c4 c5
  have hg := World.block_lt_of_cell? w _ c0
  clear hty
  have hfar := h.far
  have hbs := h.bsize
  have hi := fun k hk w' => idx6 (.string ⟨s0.toArray⟩) (.string ⟨s1.toArray⟩) (.string ⟨s2.toArray⟩) (.string ⟨s3.toArray⟩) (.string ⟨s4.toArray⟩) (.string ⟨s5.toArray⟩) k hk w'
  rcases hk2 : ((cur ps q.next).kind != 2) with _ | _
  · rw [hk2] at HR
    have hkk : ((cur ps q.next).kind != 0) = true := by simp at hk2 ⊢; omega
    go_enter Tryd.func60, Tryd.ntmps60
    go_wp2_with fail
    refine (peek_any _ _ _ _ _ _ _ h).mono ?_
    rintro e w1 ⟨rfl, hb1⟩
    have h1 := h.below hb1
    have hs1 := hb1.size
    have d0 := (hb1.cell (p := ⟨3, 0, none⟩) hg).trans c0
    have d1 := (hb1.cell (p := ⟨3, 1, none⟩) hg).trans c1
    have d2 := (hb1.cell (p := ⟨3, 2, none⟩) hg).trans c2
    have d3 := (hb1.cell (p := ⟨3, 3, none⟩) hg).trans c3
    have d4 := (hb1.cell (p := ⟨3, 4, none⟩) hg).trans c4
    have d5 := (hb1.cell (p := ⟨3, 5, none⟩) hg).trans c5
    have hg1 : 3 < w1.heap.size := by omega
    clear c0 c1 c2 c3 c4 c5
    unfold Tok.val
    go_wp2_with fail
    go_loop [12] (fun i => ∃ k : Nat, k ≤ 6 ∧ i = .int .i64 k ∧ ∀ j, j < k → ([s0, s1, s2, s3, s4, s5].getD j [] == (cur ps q.next).s) = false) (fun i => 6 - (intOf i).toNat)
    case atStart => exact ⟨0, by omega, rfl, fun j hj => by omega⟩
    case round =>
      obtain ⟨k, hk, rfl, hno⟩ := hrel
      by_cases hlt : k < 6
      · have hik := hi k hlt
        rw [getD_str6 _ _ _ _ _ _ _ hlt] at hik
        clear hi
        generalize hs : [s0, s1, s2, s3, s4, s5].getD k [] = sk at *
        have HS : Hid ([s0, s1, s2, s3, s4, s5].getD k [] = sk) := hs
        clear hs
        rcases he : (sk == (cur ps q.next).s) with _ | _
        · have HN : Hid (∀ j, j < k → ([s0, s1, s2, s3, s4, s5].getD j [] == (cur ps q.next).s) = false) := hno
          clear hno
          go_wp2_with fail
          go_round
          case rel => exact ⟨k + 1, by omega, by go_num, fun j hj => by
            rcases Nat.lt_or_eq_of_le (Nat.le_of_lt_succ hj) with h | rfl
            · exact HN.out j h
            · rw [HS.out]; exact he⟩
          case measure => simp [intOf]; omega
        · have hf := find6_some (p := fun j => [s0, s1, s2, s3, s4, s5].getD j [] == (cur ps q.next).s) hlt (by show ([s0, s1, s2, s3, s4, s5].getD k [] == _) = true; rw [HS.out]; exact he) hno
          have HF : Hid (tv = k ∧ n' = q.next + 1) := by
            have := HR.out
            rw [hf] at this
            unfold Hid
            simpa using this
          clear hno hf HR
          go_wp2_with fail
          refine (step_any _ _ _ _ _ _ _ (h1.below ((Below.refl _ _).alloc (Nat.le_refl _) _)) hkk).mono ?_
          rintro e w2 ⟨rfl, h2, k2⟩
          go_wp2_with fail
          go_ret
          obtain ⟨rfl, rfl⟩ := HF.out
          exact ⟨rfl, h2, ((Kept.of_below hb1).trans (Kept.of_below ((Below.refl _ _).alloc (Nat.le_refl _) _))).trans k2⟩
      · obtain rfl : k = 6 := by omega
        have hf := find6_none (p := fun j => [s0, s1, s2, s3, s4, s5].getD j [] == (cur ps q.next).s) hno
        have HF : Hid (tv = 0 ∧ n' = q.next) := by
            have := HR.out
            rw [hf] at this
            unfold Hid
            simpa using this
        clear hno hi hf HR
        go_wp2_with fail
        go_ret
        obtain ⟨rfl, rfl⟩ := HF.out
        exact ⟨rfl, h1.below ((Below.refl _ _).alloc (Nat.le_refl _) _), (Kept.of_below hb1).trans (Kept.of_below ((Below.refl _ _).alloc (Nat.le_refl _) _))⟩
  · rw [hk2] at HR
    go_enter Tryd.func60, Tryd.ntmps60
    go_wp2_with fail
    refine (peek_any _ _ _ _ _ _ _ h).mono ?_
    rintro e w1 ⟨rfl, hb1⟩
    have h1 := h.below hb1
    unfold Tok.val
    go_wp2_with fail
    go_ret
    obtain ⟨rfl, rfl⟩ : tv = 0 ∧ n' = q.next := by simpa using HR.out
    exact ⟨rfl, h1.below ((Below.refl _ _).alloc (Nat.le_refl _) _), (Kept.of_below hb1).trans (Kept.of_below ((Below.refl _ _).alloc (Nat.le_refl _) _))⟩

theorem skipType_any (w : World) (b bp cap T : Nat) (ps : List Tok) (q : RS) (h : Rdr w b bp cap T ps q) :
    Calls Tryd.prog 60 #[.pointer (some ⟨b, 0, none⟩)] w fun e w' => e = .returned (.int .i64 (typeP (cur ps q.next) q.next).1) ∧ Rdr w' b bp cap T ps { q with next := (typeP (cur ps q.next) q.next).2 } ∧ Kept b w w' :=
  skipType_core w b bp cap T ps q h _ _ _ _ _ _ rfl _ _ (Prod.eta _)

end Go.Proofs.YtgifghcaeoinoaaDoor
