/-
  A source cut into pieces.
-/
import Derived.Test.YtgifghcaeoinoaaDoorReR
import Derived.Test.YtgifghcaeoinoaaDoorReF
namespace Go.Proofs.YtgifghcaeoinoaaDoor
open Go.RowKit
set_option linter.unusedSimpArgs false
set_option linter.unusedVariables false

theorem infoPiece : (Tryd.prog.info? 78).map (fun i => (i.zero, i.size, i.bytes)) = some (some (.agg #[.int .i64 0, .int .i64 0, .int .i64 0, .string ⟨#[]⟩]), 4, 40) := by kernel_rfl

def toksF (l : List Tok) : List Value := flat (l.map Tok.val)

theorem toksF_append (a b : List Tok) : toksF (a ++ b) = toksF a ++ toksF b := by simp [toksF, flat_append]

theorem toksF_cons (t : Tok) (l : List Tok) : toksF (t :: l) = [.int .i64 t.kind, .int .i64 t.at_, .int .i64 t.n, .string ⟨t.s.toArray⟩] ++ toksF l := by simp [toksF, flat, Tok.val, Value.cells]

theorem toksF_get : ∀ (l : List Tok) (i : Nat), i < l.length → (toksF l)[i * 4]? = some (.int .i64 (cur l i).kind) ∧ (toksF l)[i * 4 + 1]? = some (.int .i64 (cur l i).at_) ∧ (toksF l)[i * 4 + 2]? = some (.int .i64 (cur l i).n) ∧ (toksF l)[i * 4 + 3]? = some (.string ⟨(cur l i).s.toArray⟩)
  | [], i, h => by simp at h
  | t :: l, 0, _ => by rw [toksF_cons]; simp [cur]
  | t :: l, i + 1, h => by
    have ih := toksF_get l i (by simpa using h)
    have e : ∀ j, (toksF (t :: l))[(i + 1) * 4 + j]? = (toksF l)[i * 4 + j]? := by
      intro j
      rw [toksF_cons, List.getElem?_append_right (by simp; omega)]
      congr 1
      simp; omega
    have c : cur (t :: l) (i + 1) = cur l i := by simp [cur]
    rw [c]
    have e0 := e 0
    simp only [Nat.add_zero] at e0
    rw [e0, e 1, e 2, e 3]
    exact ih

theorem tokRow_of_owns {w : World} {base g cap : Nat} {e : TypeId} {l : List Tok} (h : w.ownsRow base e 4 (.slice (some ⟨g, 0, none⟩) l.length cap) l.length (toksF l)) : TokRow w g l ∧ base ≤ g ∧ g < w.heap.size := by
  obtain ⟨h1, h2⟩ := h
  rcases h2 with ⟨h2, _⟩ | ⟨g', cap', cc, hv, hb, hh, hn, hc, hs, ht⟩
  · cases h2
  · cases hv
    refine ⟨?_, hb, ?_⟩
    · intro i hi
      have hg := toksF_get l i hi
      have hcell : ∀ j, j < 4 → w.cell? ⟨g, i * 4 + j, none⟩ = (toksF l)[i * 4 + j]? := by
        intro j hj
        rw [← ht, List.getElem?_take_of_lt (by omega)]
        simp [World.cell?, hh]
      have e0 := hcell 0 (by omega)
      simp only [Nat.add_zero] at e0
      rw [e0, hcell 1 (by omega), hcell 2 (by omega), hcell 3 (by omega)]
      exact hg
    · rcases Nat.lt_or_ge g w.heap.size with h | h
      · exact h
      · rw [Array.getElem?_eq_none h] at hh; cases hh

/-! bounds of what is cut off -/
theorem runW_le (s : ByteArray) : ∀ f i, runW s f i ≤ i + f
  | 0, i => by simp [runW]
  | f + 1, i => by
    rw [runW]
    split
    · have := runW_le s f (i + 1); omega
    · omega

theorem runN_le (s : ByteArray) : ∀ f i n, (runN s f i n).1 ≤ i + f
  | 0, i, n => by simp [runN]
  | f + 1, i, n => by
    rw [runN]
    split
    · have := runN_le s f (i + 1) (if n ≤ 1099511627776 then n * 10 + ((bN s i : Nat) - 48) else n); omega
    · simp

theorem runT_ok (s : ByteArray) : ∀ f i acc, (∀ x, runT s f i acc = .inr x → x.2 ≤ s.size) ∧ (∀ k, runT s f i acc = .inl k → k ≠ 0)
  | 0, i, acc => ⟨fun x h => (by simp [runT] at h), fun k h => by simp [runT] at h; omega⟩
  | f + 1, i, acc => by
    rw [runT]
    split
    · split
      · exact ⟨fun x h => (by cases h; simp; omega), fun k h => by cases h⟩
      · split
        · exact ⟨fun x h => (by cases h), fun k h => by cases h; decide⟩
        · split
          · split
            · exact ⟨fun x h => (by cases h), fun k h => by cases h; decide⟩
            · exact runT_ok s f _ _
          · exact runT_ok s f _ _
    · exact ⟨fun x h => (by cases h), fun k h => by cases h; decide⟩

theorem prefix_len {a b : List UInt8} (h : Lib.hasPrefix a b = true) : b.length ≤ a.length := by
  rw [← Lib.hasPrefix_of_take] at h
  simp at h
  exact h.1

theorem firstPiece_ok (s : ByteArray) (hs : 0 < s.size) (m : List (List UInt8)) : (∀ x, firstPieceM s m = .inr x → x.2 ≤ s.size) ∧ (∀ k, firstPieceM s m = .inl k → k ≠ 0) := by
  unfold firstPieceM
  split
  · have hw := runW_le s (s.size - 1) 1
    unfold cutWordM
    split
    · exact ⟨fun x h => (by cases h), fun k h => by cases h; decide⟩
    · split
      · exact ⟨fun x h => (by cases h; simp; omega), fun k h => by cases h⟩
      · exact ⟨fun x h => (by cases h; simp; omega), fun k h => by cases h⟩
  · split
    · have hw := runN_le s s.size 0 0
      unfold cutNumberM
      split
      · exact ⟨fun x h => (by cases h), fun k h => by cases h; decide⟩
      · split
        · exact ⟨fun x h => (by cases h), fun k h => by cases h; decide⟩
        · exact ⟨fun x h => (by cases h; simp; omega), fun k h => by cases h⟩
    · split
      · exact runT_ok s _ _ _
      · split
        · rename_i mm hf
          have := List.find?_some hf
          have h2 := prefix_len this
          rw [← Lib.size_eq] at h2
          exact ⟨fun x h => (by cases h; exact h2), fun k h => by cases h⟩
        · exact ⟨fun x h => (by cases h), fun k h => by cases h; decide⟩

def cutLoop (s : ByteArray) : Nat → Nat → List Tok → Option (Sum (Nat × Int) (List Tok))
  | 0, _, _ => none
  | f + 1, i, acc =>
    if i < s.size then
      (if isBlankB (bN s i) then cutLoop s f (i + 1) acc
      else match firstPieceM (s.extract i s.size) marksL with
        | .inl k => some (.inl (i, k))
        | .inr x => cutLoop s f (i + x.2) (acc ++ [⟨x.1.kind, (i : Nat), x.1.n, x.1.s⟩]))
    else some (.inr (acc ++ [⟨0, (s.size : Nat), 0, []⟩]))

/-- what cutting a source leaves -/
def PostC (w : World) (r : Sum (Nat × Int) (List Tok)) (e : Ending) (w' : World) : Prop :=
  Below w.heap.size w w' ∧ match r with
  | .inl k => e = .returned (.tuple #[.slice none 0 0, .int .i64 (k.1 : Nat), .int .i64 k.2]) ∧ k.2 ≠ 0
  | .inr l => ∃ g c, e = .returned (.tuple #[.slice (some ⟨g, 0, none⟩) l.length c, .int .i64 0, .int .i64 0]) ∧ TokRow w' g l ∧ w.heap.size ≤ g ∧ g < w'.heap.size

theorem piece_one (p0 p1 p2 : Int) (p3 : ByteArray) : ∀ u ∈ [Value.int .i64 p0, .int .i64 p1, .int .i64 p2, .string p3], u.oneCell' = true := by
  intro u hu
  simp at hu
  rcases hu with rfl | rfl | rfl | rfl <;> rfl

end Go.Proofs.YtgifghcaeoinoaaDoor
