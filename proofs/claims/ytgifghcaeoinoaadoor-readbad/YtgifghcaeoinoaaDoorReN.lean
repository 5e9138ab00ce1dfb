/-
  The tables of words and of marks, loaded and looked into.
-/
import Derived.Test.YtgifghcaeoinoaaDoorReM
import Derived.Test.YtgifghcaeoinoaaDoorRdE
import Derived.Deep.MidRow
namespace Go.Proofs.YtgifghcaeoinoaaDoor
open Go.RowKit
set_option linter.unusedSimpArgs false
set_option linter.unusedVariables false

theorem tab_range {w : World} {g : Nat} {l : List (List UInt8)} (h : TabRow w g l) : w.rangeAt g 0 (l.map fun s => Value.string ⟨s.toArray⟩) := by
  intro j v hv
  rw [List.getElem?_map] at hv
  rcases hj : l[j]? with _ | x
  · rw [hj] at hv; cases hv
  · rw [hj] at hv
    cases hv
    have hlt : j < l.length := by
      rcases Nat.lt_or_ge j l.length with h | h
      · exact h
      · rw [List.getElem?_eq_none h] at hj; cases hj
    have := h j hlt
    rw [List.getD_eq_getElem?_getD, hj] at this
    rw [Nat.zero_add]
    exact this

def kwV : Array Value := (keywordsL.map fun s => Value.string ⟨s.toArray⟩).toArray

theorem idx22_c : ∀ k, k < 22 → ∀ w : World, (Instr.index 113 (.agg kwV) (.int .i64 (k : Nat))).run Tryd.prog w = .ok (.string ⟨(keywordsL.getD k []).toArray⟩) w
  | 0, _, w => by kernel_rfl
  | 1, _, w => by kernel_rfl
  | 2, _, w => by kernel_rfl
  | 3, _, w => by kernel_rfl
  | 4, _, w => by kernel_rfl
  | 5, _, w => by kernel_rfl
  | 6, _, w => by kernel_rfl
  | 7, _, w => by kernel_rfl
  | 8, _, w => by kernel_rfl
  | 9, _, w => by kernel_rfl
  | 10, _, w => by kernel_rfl
  | 11, _, w => by kernel_rfl
  | 12, _, w => by kernel_rfl
  | 13, _, w => by kernel_rfl
  | 14, _, w => by kernel_rfl
  | 15, _, w => by kernel_rfl
  | 16, _, w => by kernel_rfl
  | 17, _, w => by kernel_rfl
  | 18, _, w => by kernel_rfl
  | 19, _, w => by kernel_rfl
  | 20, _, w => by kernel_rfl
  | 21, _, w => by kernel_rfl
  | k + 22, h, _ => absurd h (by omega)

theorem size22_c : (Tryd.prog.info? 113).map (·.size) = some (keywordsL.map fun s => Value.string ⟨s.toArray⟩).length := by kernel_rfl

theorem load_kw (w : World) (h : TabRow w 2 keywordsL) : (Instr.loadAt 113 (.pointer (some ⟨2, 0, none⟩))).run Tryd.prog w = .ok (.agg kwV) w :=
  run_loadAt_mid w 2 0 113 _ _ (tab_range h) Tryd.underlying113 rfl size22_c

def mrV : Array Value := (marksL.map fun s => Value.string ⟨s.toArray⟩).toArray

theorem idx24_c : ∀ k, k < 24 → ∀ w : World, (Instr.index 99 (.agg mrV) (.int .i64 (k : Nat))).run Tryd.prog w = .ok (.string ⟨(marksL.getD k []).toArray⟩) w
  | 0, _, w => by kernel_rfl
  | 1, _, w => by kernel_rfl
  | 2, _, w => by kernel_rfl
  | 3, _, w => by kernel_rfl
  | 4, _, w => by kernel_rfl
  | 5, _, w => by kernel_rfl
  | 6, _, w => by kernel_rfl
  | 7, _, w => by kernel_rfl
  | 8, _, w => by kernel_rfl
  | 9, _, w => by kernel_rfl
  | 10, _, w => by kernel_rfl
  | 11, _, w => by kernel_rfl
  | 12, _, w => by kernel_rfl
  | 13, _, w => by kernel_rfl
  | 14, _, w => by kernel_rfl
  | 15, _, w => by kernel_rfl
  | 16, _, w => by kernel_rfl
  | 17, _, w => by kernel_rfl
  | 18, _, w => by kernel_rfl
  | 19, _, w => by kernel_rfl
  | 20, _, w => by kernel_rfl
  | 21, _, w => by kernel_rfl
  | 22, _, w => by kernel_rfl
  | 23, _, w => by kernel_rfl
  | k + 24, h, _ => absurd h (by omega)

theorem size24_c : (Tryd.prog.info? 99).map (·.size) = some (marksL.map fun s => Value.string ⟨s.toArray⟩).length := by kernel_rfl

theorem load_mr (w : World) (h : TabRow w 1 marksL) : (Instr.loadAt 99 (.pointer (some ⟨1, 0, none⟩))).run Tryd.prog w = .ok (.agg mrV) w :=
  run_loadAt_mid w 1 0 99 _ _ (tab_range h) Tryd.underlying99 rfl size24_c

/-- what the cutters answer: an error, or a piece and how many bytes it has -/
def lexE (r : Sum Int (Tok × Nat)) : Ending := match r with
  | .inl k => .returned (.tuple #[.agg #[.int .i64 0, .int .i64 0, .int .i64 0, .string ⟨#[]⟩], .int .i64 0, .int .i64 k])
  | .inr x => .returned (.tuple #[x.1.val, .int .i64 (x.2 : Nat), .int .i64 0])

theorem fin_lex {fn : Func} {Q : Ending → World → Prop} {a : Act} {w : World} {rt st ut x : Nat} {v0 v1 v2 v3 u1 u2 : Value} {T : TypeId} {f : Nat × Nat}
    (hres : fn.results = #[.cell rt 78, .tmp st, .tmp ut]) (hp : a.tmps.getD rt undef = .pointer (some ⟨x, 0, none⟩)) (ho : a.tmps.getD st undef = u1) (ho2 : a.tmps.getD ut undef = u2) (hd : a.defers = [])
    (hblk : w.heap[x]? = some (.cells #[v0, v1, v2, v3] T f)) (hQ : Q (.returned (.tuple #[.agg #[v0, v1, v2, v3], u1, u2])) w) : bodyPost Tryd.prog fn Q Exit.ret a w := by
  refine bodyPost_ret ?_ hd hQ
  obtain ⟨q0, q1, q2, q3⟩ := cells4 hblk
  simp only [Array.getD_eq_getD_getElem?] at hp ho ho2
  simp [results, hres, hp, ho, ho2, go_sem, q0, q1, q2, q3]

end Go.Proofs.YtgifghcaeoinoaaDoor
