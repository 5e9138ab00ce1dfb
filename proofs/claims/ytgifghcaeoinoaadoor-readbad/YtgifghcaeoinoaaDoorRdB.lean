/-
  The reader's smallest methods.
-/
import Derived.Test.YtgifghcaeoinoaaDoorRdA
import Derived.Test.YtgifghcaeoinoaaDoorRdS
import Derived.RegionTactic
import Derived.ChangeAlike
import Derived.Deep.QuietTactic
import Derived.BigQuiet
namespace Go.Proofs.YtgifghcaeoinoaaDoor
open Go.RowKit
set_option linter.unusedSimpArgs false
set_option linter.unusedVariables false

@[go_sem] theorem fld_piece_0 (x0 x1 x2 x3 : Value) (w : World) : (Instr.field 78 (.agg #[x0, x1, x2, x3]) 0).run Tryd.prog w = .ok x0 w := by kernel_rfl
@[go_sem] theorem fld_piece_1 (x0 x1 x2 x3 : Value) (w : World) : (Instr.field 78 (.agg #[x0, x1, x2, x3]) 1).run Tryd.prog w = .ok x1 w := by kernel_rfl
@[go_sem] theorem fld_piece_2 (x0 x1 x2 x3 : Value) (w : World) : (Instr.field 78 (.agg #[x0, x1, x2, x3]) 2).run Tryd.prog w = .ok x2 w := by kernel_rfl
@[go_sem] theorem fld_piece_3 (x0 x1 x2 x3 : Value) (w : World) : (Instr.field 78 (.agg #[x0, x1, x2, x3]) 3).run Tryd.prog w = .ok x3 w := by kernel_rfl

set_option maxHeartbeats 400000 in
theorem is_any (t : Tok) (k : Int) (s : List UInt8) (w : World) :
    Calls Tryd.prog 86 #[t.val, .int .i64 k, .string ⟨s.toArray⟩] w fun e w' => e = .returned (.bool (isT t k s)) ∧ Below w.heap.size w w' := by
  unfold Tok.val isT
  rcases h1 : (t.kind == k) with _ | _ <;>
  (go_enter Tryd.func86, Tryd.ntmps86
   go_wp2
   go_ret
   exact ⟨rfl, (Below.refl _ _).alloc (Nat.le_refl _) _⟩)

set_option maxHeartbeats 400000 in
theorem peek_any (w : World) (b bp cap T : Nat) (ps : List Tok) (q : RS) (h : Rdr w b bp cap T ps q) :
    Calls Tryd.prog 28 #[.pointer (some ⟨b, 0, none⟩)] w fun e w' => e = .returned (cur ps q.next).val ∧ Below w.heap.size w w' := by
  obtain ⟨c0, c1, c2, c3, c4⟩ := h.cells
  obtain ⟨t0, t1, t2, t3⟩ := h.row q.next h.nx
  have hn := h.nx
  have hl := h.len
  have hlt := h.lt
  have hb := h.bsize
  go_enter Tryd.func28, Tryd.ntmps28
  go_wp2
  go_region
  go_wp2
  exact bodyPost_ret (v := (cur ps q.next).val) (by simp [results, Tryd.results28, go_sem, Tok.val]) rfl ⟨rfl, ((Below.refl _ _).alloc (Nat.le_refl _) _).drew⟩

set_option maxHeartbeats 400000 in
theorem step_any (w : World) (b bp cap T : Nat) (ps : List Tok) (q : RS) (h : Rdr w b bp cap T ps q) (hk : ((cur ps q.next).kind != 0) = true) :
    Calls Tryd.prog 76 #[.pointer (some ⟨b, 0, none⟩)] w fun e w' => e = .returned (.tuple #[]) ∧ Rdr w' b bp cap T ps { q with next := q.next + 1 } ∧ Kept b w w' := by
  have hn := h.nx
  have hl := h.len
  go_enter Tryd.func76, Tryd.ntmps76
  go_wp2_with fail
  refine (peek_any _ _ _ _ _ _ _ h).mono ?_
  rintro e w1 ⟨rfl, hb1⟩
  have h1 := h.below hb1
  obtain ⟨c0, c1, c2, c3, c4⟩ := h1.cells
  have hz := h1.thaw 1
  unfold Tok.val
  go_wp2_with fail
  go_end0
  exact ⟨rfl, h1.setNext (q.next + 1) (h.fin _ hn (by simpa using hk)) _ (by go_num), (Kept.of_below hb1).setCell _ _⟩

set_option maxHeartbeats 400000 in
theorem fail_any (w : World) (b bp cap T : Nat) (ps : List Tok) (q : RS) (a k : Int) (h : Rdr w b bp cap T ps q) :
    Calls Tryd.prog 30 #[.pointer (some ⟨b, 0, none⟩), .int .i64 a, .int .i64 k] w fun e w' => e = .returned (.bool false) ∧ Rdr w' b bp cap T ps { q with at_ := a, errno := k } ∧ Kept b w w' := by
  obtain ⟨c0, c1, c2, c3, c4⟩ := h.cells
  have hz3 := h.thaw 3
  have hz4 := h.thaw 4
  go_enter Tryd.func30, Tryd.ntmps30
  go_wp2
  go_ret
  exact ⟨rfl, (h.setAt a).setErrno k, ((Kept.refl _ _).setCell _ _).setCell _ _⟩

end Go.Proofs.YtgifghcaeoinoaaDoor
