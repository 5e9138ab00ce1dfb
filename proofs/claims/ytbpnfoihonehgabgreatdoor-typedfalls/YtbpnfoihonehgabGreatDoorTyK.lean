/-
  Expressions.
-/
import Derived.Test.YtbpnfoihonehgabGreatDoorTyJ
namespace Go.Proofs.YtbpnfoihonehgabGreatDoor
open Go.RowKit Go.Maps
set_option linter.unusedSimpArgs false
set_option linter.unusedVariables false

def argsT (V : Ex → Option (Int × Int)) : List Ex → List Int → Option (Sum Int (List Int))
  | [], ts => some (.inr ts)
  | x :: xs, ts => match V x with
    | none => none
    | some p => if p.2 != 0 then some (.inl p.2) else argsT V xs (ts ++ [p.1])

def exprT (pl : DataW Unit) (fs : List Fn') (sc : List (DataW Unit)) : Nat → Nat → Ex → Option (Int × Int)
  | 0, _, _ => none
  | f + 1, d, x =>
    if x.kind < 1 ∨ 12 < x.kind then some (0, 3)
    else if argC x.kind != -1 && ((x.args.length : Nat) : Int) != argC x.kind then some (0, 10)
    else if 120 ≤ d then some (0, 8)
    else if 1000000 < x.args.length then none
    else match argsT (fun y => valT (exprT pl fs sc f (d + 1) y)) x.args [] with
      | none => none
      | some (.inl k) => some (0, k)
      | some (.inr ts) => typeOfT pl fs sc x.kind x.n x.s ts

theorem anE_parts {S : Nat → Prop} {w : World} {v : Value} {x : Ex} (h : AnE S w v x) : ∃ a c, v = .agg #[.int .i64 x.kind, .int .i64 x.n, .string ⟨x.s.toArray⟩, .slice a x.args.length c] ∧ Row S w (AnE S w) (.slice a x.args.length c) x.args := by
  obtain ⟨f, h⟩ := h
  cases f with
  | zero => exact h.elim
  | succ f =>
    obtain ⟨a, rfl, hr⟩ := h
    obtain ⟨a', c', rfl⟩ := hr.slice
    obtain ⟨vs, h1, h2⟩ := hr
    exact ⟨a', c', rfl, vs, h1, h2.imp fun _ _ h => ⟨f, h⟩⟩

theorem anE_len {S : Nat → Prop} {w : World} (u : Value) (x : Ex) (h : AnE S w u x) : u.cells.toList.length = 4 := by
  obtain ⟨k, n, s, a, l, c, rfl⟩ := h.sh
  simp [Value.cells]

theorem leave_depth (F : FuncId) (hF : F = 105 ∨ F = 67) (w : World) (B cb bx : Nat) (X : List Nat) (fv : Value) (pl : DataW Unit) (res : Int) (sc : List (DataW Unit)) (d l : Nat) (u : FrameMode) (h : Chk w B cb X fv pl res sc (d + 1) l) (hx : w.cell? ⟨bx, 0, none⟩ = some (.pointer (some ⟨cb, 0, none⟩))) :
    CallsD Tryz.prog F #[.pointer (some ⟨bx, 0, none⟩)] u w fun e u' w' => u' = u ∧ (e = .returned (.tuple #[]) ∧ Chk w' B cb X fv pl res sc d l ∧ KX X X w w') := by
  obtain ⟨q0, q2, q4, q5, qz⟩ := h.cells
  have qz4 := qz 4
  have hdp := h.dp
  obtain ⟨dI, hdd⟩ : ∃ y : Int, y = ((d + 1 : Nat) : Int) := ⟨_, rfl⟩
  have hd1 : (1 : Int) ≤ dI := by omega
  have hd2 : dI ≤ 120 := by omega
  have HX : Hid (Chk (w.setCell ⟨cb, 4, none⟩ (.int .i64 (dI - 1))) B cb X fv pl res sc d l ∧ KX X X w (w.setCell ⟨cb, 4, none⟩ (.int .i64 (dI - 1)))) := h.setInt 4 d l _ (.inl ⟨rfl, by rw [hdd]; congr 1; omega, rfl⟩) (by omega) h.lp
  rw [← hdd] at q4
  clear h q0 q2 q5 qz hdd hdp
  rcases hF with rfl | rfl
  · go_enter_d Tryz.func105, Tryz.ntmps105
    go_wp2_with fail
    go_end0
    exact ⟨rfl, HX.out⟩
  · go_enter_d Tryz.func67, Tryz.ntmps67
    go_wp2_with fail
    go_end0
    exact ⟨rfl, HX.out⟩

end Go.Proofs.YtbpnfoihonehgabGreatDoor
