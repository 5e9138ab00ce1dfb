/-
  strings.Clone.
-/
import Derived.Test.YtgifghcaeoinoaaDoorReL
import Derived.Lib.BufferWrite
import Derived.Lib.UnsafeStr
import Derived.Lib.Walk
import Derived.WalkKit
namespace Go.Proofs.YtgifghcaeoinoaaDoor
open Go.RowKit
set_option linter.unusedSimpArgs false
set_option linter.unusedVariables false

theorem infoByte : (Tryd.prog.info? 5).map (fun i => (i.zero, i.size, i.bytes)) = some (some (.int .u8 0), 1, 1) := by kernel_rfl

/-- a row is made, bytes are copied into it, the string over it is taken: three worlds -/
theorem clone_steps (l : List UInt8) (hne : l ≠ []) (hl : l.length ≤ 1000000) (w : World) : ∃ W1 W2 W3 : World,
    (Instr.makeSlice 115 (.int .i64 l.length) (.int .i64 l.length)).run Tryd.prog w = .ok (.slice (some ⟨w.heap.size, 0, none⟩) l.length l.length) W1 ∧
    (Builtin.copy_ #[115, 9] 3 #[.slice (some ⟨w.heap.size, 0, none⟩) l.length l.length, .string ⟨l.toArray⟩]).run Tryd.prog W1 = .ok (.int .i64 l.length) W2 ∧
    (Builtin.unsafeString_ #[133, 3] 9 #[.pointer (some ⟨w.heap.size, 0, none⟩), .int .i64 l.length]).run Tryd.prog W2 = .ok (.string ⟨l.toArray⟩) W3 ∧ Below w.heap.size w W3 := by
  obtain ⟨i0, hi, hz0, hz1, hz2⟩ := info_parts infoByte
  have hsz : (⟨l.toArray⟩ : ByteArray).size = l.length := by rw [Lib.size_eq]
  have h1 := run_make (P := Tryd.prog) w 115 5 i0 (.int .u8 0) Tryd.underlying115 hi hz0 .i64 .i64 (l.length : Int) (l.length : Int) (by omega) (by omega) (by rw [hz2]; omega) (by omega)
  simp only [Int.toNat_natCast] at h1
  have hms : (madeCells (Value.int .u8 0).cells (l.length * i0.size)).size = l.length := by rw [size_madeCells, hz1]; simp
  generalize madeCells (Value.int .u8 0).cells (l.length * i0.size) = M at h1 hms
  have h2 := Lib.run_copy_row_string (P := Tryd.prog) (w.alloc (.cells M 5)) 115 9 3 5 w.heap.size 0 l.length l.length ⟨l.toArray⟩ M 5 Tryd.underlying115 (by rw [hi]; simp [hz1]) (heap_alloc_new w _) (by omega) (by omega)
  have hrow : (M.toList.take 0 ++ Lib.byteCells (⟨l.toArray⟩ : ByteArray).data.toList ++ M.toList.drop (0 + (⟨l.toArray⟩ : ByteArray).size)) = Lib.byteCells l := by
    have : M.toList.drop l.length = [] := List.drop_of_length_le (by simp [hms])
    simp [hsz, this]
  rw [hrow, hsz] at h2
  have hblk : ((w.alloc (.cells M 5)).setRow w.heap.size (Lib.byteCells l).toArray).heap[w.heap.size]? = some (.cells (Lib.byteCells l).toArray 5 (0, 0)) := setRow_heap _ _ M _ 5 (0, 0) (heap_alloc_new w _)
  have hcell : ∀ j x, l[j]? = some x → ((w.alloc (.cells M 5)).setRow w.heap.size (Lib.byteCells l).toArray).cell? ((⟨w.heap.size, 0, none⟩ : Addr).add j) = some (.int .u8 x.toNat) := by
    intro j x hx
    refine Lib.cells_of_row hblk l.length j _ ?_
    rw [List.getElem?_take_of_lt (by have := (List.getElem?_eq_some_iff.1 hx).1; exact this)]
    simp [Lib.byteCells, hx]
  have h3 := Lib.run_unsafeString_row (P := Tryd.prog) ((w.alloc (.cells M 5)).setRow w.heap.size (Lib.byteCells l).toArray) 133 3 9 5 Tryd.underlying133 (by simp [Program.cellsOf, hi, hz1]) w.heap.size l.length
    (by unfold World.shape?; rw [hblk]; simp [Lib.byteCells]) l hne (Nat.le_refl _) (by omega) hcell
  refine ⟨_, _, _, h1, h2, h3, ?_⟩
  refine Lib.below_freeze ?_ (p := ⟨w.heap.size, 0, none⟩) (Nat.le_refl _) _
  exact ((Below.refl _ w).alloc (Nat.le_refl _) _).trans ⟨rfl, rfl, rfl, by simp, fun k hk => setRow_other _ _ _ _ (by omega)⟩

set_option maxHeartbeats 1000000 in
theorem cloneQ_any (l : List UInt8) (w : World) (hl : l.length ≤ 1000000) :
    Calls Tryd.prog 85 #[.string ⟨l.toArray⟩] w fun e w' => e = .returned (.string ⟨l.toArray⟩) ∧ Below w.heap.size w w' := by
  have hsz : (⟨l.toArray⟩ : ByteArray).size = l.length := by rw [Lib.size_eq]
  by_cases hne : l = []
  · subst hne
    go_enter Tryd.func85, Tryd.ntmps85
    go_wp2
    go_ret
    exact ⟨rfl, Below.refl _ _⟩
  · obtain ⟨W1, W2, W3, h1, h2, h3, hb⟩ := clone_steps l hne hl w
    have hpos : (0 : Int) < (l.length : Int) := by have := List.length_pos_iff.2 hne; omega
    have hn0 : ((l.length : Int) == 0) = false := by simpa using (show (l.length : Int) ≠ 0 by omega)
    go_enter Tryd.func85, Tryd.ntmps85
    go_wp2_with fail
    go_ret
    exact ⟨rfl, hb⟩

theorem clone0_any (s : ByteArray) (w : World) (hlim : s.size ≤ 1000000) :
    Calls Tryd.prog 85 #[.string s] w fun e w' => e = .returned (.string s) ∧ Below w.heap.size w w' := by
  have h := cloneQ_any s.data.toList w (by rw [← Lib.size_eq]; exact hlim)
  rw [Lib.mk_data] at h
  exact h

set_option maxHeartbeats 400000 in
theorem clone_any (s : ByteArray) (w : World) (hlim : s.size ≤ 1000000) :
    Calls Tryd.prog 71 #[.string s] w fun e w' => e = .returned (.string s) ∧ Below w.heap.size w w' := by
  go_enter Tryd.func71, Tryd.ntmps71
  go_wp2_with fail
  refine (clone0_any _ _ hlim).mono ?_
  rintro e w1 ⟨rfl, hb⟩
  go_wp2_with fail
  go_ret
  exact ⟨rfl, hb⟩

end Go.Proofs.YtgifghcaeoinoaaDoor
