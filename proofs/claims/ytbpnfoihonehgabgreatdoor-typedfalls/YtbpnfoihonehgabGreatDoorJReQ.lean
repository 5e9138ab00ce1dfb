/-
  A text.
-/
import Derived.Test.YtbpnfoihonehgabGreatDoorJRdE
import Derived.Lib.Strings
import Derived.Lib.Slices
import Derived.Laws.Strings3
import Derived.Laws.MakeOwn
import Derived.Lib.BufferWrite
import Derived.Lib.UnsafeStr
import Derived.Lib.Walk
import Derived.WalkKit
import Derived.Deep.MidRow
import Derived.Deep.LoopGhost
import Derived.Laws.IdiomStrings
import Derived.Laws.BytesArg
import Derived.Test.YtbpnfoihonehgabGreatDoorJRdK
namespace Go.Proofs.YtbpnfoihonehgabGreatDoor
section
open Go.RowKit
set_option linter.unusedSimpArgs false
set_option linter.unusedVariables false

/-- the byte at a place -/
def bN (s : ByteArray) (i : Nat) : Nat := (s.data.toList.getD i 0).toNat

@[go_sem] theorem byte_eq (s : ByteArray) (i : Nat) (h : i < s.size) : (s[i]'h).toNat = bN s i := by
  unfold bN
  have h' : i < s.data.toList.length := by simpa using h
  rw [List.getD_eq_getElem?_getD, List.getElem?_eq_getElem h']
  rfl

def escM (s : ByteArray) : Option Int :=
  if s.toList == [] then none
  else if ((bN s 0 : Nat) : Int) == 34 || ((bN s 0 : Nat) : Int) == 92 then some (bN s 0)
  else if ((bN s 0 : Nat) : Int) == 110 then some 10 else none

def escE (s : ByteArray) : Ending := match escM s with
  | some c => .returned (.tuple #[.int .u8 c, .bool true])
  | none => .returned (.tuple #[.int .u8 0, .bool false])

set_option maxHeartbeats 400000 in
theorem escaped_any (s : ByteArray) (w : World) : Calls Tryz.prog 54 #[.string s] w fun e w' => e = escE s ∧ w' = w := by
  by_cases h0 : (s.toList == []) = true
  · have he : escE s = .returned (.tuple #[.int .u8 0, .bool false]) := by simp only [escE, escM, if_pos h0]
    rw [he]
    go_enter Tryz.func54, Tryz.ntmps54
    go_wp2
    go_ret2
    exact ⟨rfl, rfl⟩
  · have h0' : (s.toList == []) = false := by simpa using h0
    have hsz : 0 < s.size := by
      rcases Nat.eq_zero_or_pos s.size with h | h
      · exact absurd (by rw [Lib.toList_data]; have := Lib.size_eq s; rw [h] at this; simp [List.eq_nil_of_length_eq_zero this.symm]) h0
      · exact h
    clear h0
    rcases h1 : (((bN s 0 : Nat) : Int) == 34) with _ | _ <;> rcases h2 : (((bN s 0 : Nat) : Int) == 92) with _ | _ <;> rcases h3 : (((bN s 0 : Nat) : Int) == 110) with _ | _ <;>
    (unfold escE escM
     simp only [h0', h1, h2, h3, Bool.false_eq_true, if_false, Bool.or_true, Bool.true_or, Bool.or_false, if_true, Bool.or_self]
     go_enter Tryz.func54, Tryz.ntmps54
     go_wp2
     go_ret2
     exact ⟨rfl, rfl⟩)

set_option maxHeartbeats 400000 in
theorem hasPrefixQ_any (s p : ByteArray) (w : World) (r : Bool) (HR : Hid ((decide (p.size ≤ s.size) && ((s.extract 0 p.size).toList == p.toList)) = r)) :
    Calls Tryz.prog 55 #[.string s, .string p] w fun e w' => e = .returned (.bool r) ∧ w' = w := by
  by_cases hle : p.size ≤ s.size
  · have hI : (p.size : Int) ≤ (s.size : Int) := by omega
    have hr := HR.out
    rw [decide_eq_true hle, Bool.true_and] at hr
    go_enter Tryz.func55, Tryz.ntmps55
    go_wp2_with fail
    go_ret
    exact ⟨by rw [← hr]; rfl, rfl⟩
  · have hI : ¬ (p.size : Int) ≤ (s.size : Int) := by omega
    have hr := HR.out
    rw [decide_eq_false hle, Bool.false_and] at hr
    subst hr
    go_enter Tryz.func55, Tryz.ntmps55
    go_wp2_with fail
    go_ret
    exact ⟨rfl, rfl⟩

theorem hasPrefix0_any (s p : ByteArray) (w : World) :
    Calls Tryz.prog 55 #[.string s, .string p] w fun e w' => e = .returned (.bool (Lib.hasPrefix s.data.toList p.data.toList)) ∧ w' = w :=
  hasPrefixQ_any s p w _ (Lib.hasPrefix_raw s p)

set_option maxHeartbeats 400000 in
theorem hasPrefix_any (s p : ByteArray) (w : World) :
    Calls Tryz.prog 39 #[.string s, .string p] w fun e w' => e = .returned (.bool (Lib.hasPrefix s.data.toList p.data.toList)) ∧ w' = w := by
  go_enter Tryz.func39, Tryz.ntmps39
  go_wp2_with fail
  refine (hasPrefix0_any _ _ _).mono ?_
  rintro e w1 ⟨rfl, rfl⟩
  go_wp2_with fail
  go_ret
  exact ⟨rfl, rfl⟩
end

section
open Go.RowKit
set_option linter.unusedSimpArgs false
set_option linter.unusedVariables false

theorem infoByte : (Tryz.prog.info? 5).map (fun i => (i.zero, i.size, i.bytes)) = some (some (.int .u8 0), 1, 1) := by kernel_rfl

/-- a row is made, bytes are copied into it, the string over it is taken: three worlds -/
theorem clone_steps (l : List UInt8) (hne : l ≠ []) (hl : l.length ≤ 1000000) (w : World) : ∃ W1 W2 W3 : World,
    (Instr.makeSlice 101 (.int .i64 l.length) (.int .i64 l.length)).run Tryz.prog w = .ok (.slice (some ⟨w.heap.size, 0, none⟩) l.length l.length) W1 ∧
    (Builtin.copy_ #[101, 9] 3 #[.slice (some ⟨w.heap.size, 0, none⟩) l.length l.length, .string ⟨l.toArray⟩]).run Tryz.prog W1 = .ok (.int .i64 l.length) W2 ∧
    (Builtin.unsafeString_ #[127, 3] 9 #[.pointer (some ⟨w.heap.size, 0, none⟩), .int .i64 l.length]).run Tryz.prog W2 = .ok (.string ⟨l.toArray⟩) W3 ∧ Below w.heap.size w W3 := by
  obtain ⟨i0, hi, hz0, hz1, hz2⟩ := info_parts infoByte
  have hsz : (⟨l.toArray⟩ : ByteArray).size = l.length := by rw [Lib.size_eq]
  have h1 := run_make (P := Tryz.prog) w 101 5 i0 (.int .u8 0) Tryz.underlying101 hi hz0 .i64 .i64 (l.length : Int) (l.length : Int) (by omega) (by omega) (by rw [hz2]; omega) (by omega)
  simp only [Int.toNat_natCast] at h1
  have hms : (madeCells (Value.int .u8 0).cells (l.length * i0.size)).size = l.length := by rw [size_madeCells, hz1]; simp
  generalize madeCells (Value.int .u8 0).cells (l.length * i0.size) = M at h1 hms
  have h2 := Lib.run_copy_row_string (P := Tryz.prog) (w.alloc (.cells M 5)) 101 9 3 5 w.heap.size 0 l.length l.length ⟨l.toArray⟩ M 5 Tryz.underlying101 (by rw [hi]; simp [hz1]) (heap_alloc_new w _) (by omega) (by omega)
  have hrow : (M.toList.take 0 ++ Lib.byteCells (⟨l.toArray⟩ : ByteArray).data.toList ++ M.toList.drop (0 + (⟨l.toArray⟩ : ByteArray).size)) = Lib.byteCells l := by
    have : M.toList.drop l.length = [] := List.drop_of_length_le (by simp [hms])
    simp [hsz, this]
  rw [hrow, hsz] at h2
  have hblk : ((w.alloc (.cells M 5)).setRow w.heap.size (Lib.byteCells l).toArray).heap[w.heap.size]? = some (.cells (Lib.byteCells l).toArray 5 (0, 0)) := setRow_heap _ _ M _ 5 (0, 0) (heap_alloc_new w _)
  have hcell : ∀ j x, l[j]? = some x → ((w.alloc (.cells M 5)).setRow w.heap.size (Lib.byteCells l).toArray).cell? ((⟨w.heap.size, 0, none⟩ : Addr).add j) = some (.int .u8 x.toNat) := by
    intro j x hx
    refine Lib.cells_of_row hblk l.length j _ ?_
    rw [List.getElem?_take_of_lt (by have := (List.getElem?_eq_some_iff.1 hx).1; exact this)]
    simp [Lib.byteCells, hx]
  have h3 := Lib.run_unsafeString_row (P := Tryz.prog) ((w.alloc (.cells M 5)).setRow w.heap.size (Lib.byteCells l).toArray) 127 3 9 5 Tryz.underlying127 (by simp [Program.cellsOf, hi, hz1]) w.heap.size l.length
    (by unfold World.shape?; rw [hblk]; simp [Lib.byteCells]) l hne (Nat.le_refl _) (by omega) hcell
  refine ⟨_, _, _, h1, h2, h3, ?_⟩
  refine Lib.below_freeze ?_ (p := ⟨w.heap.size, 0, none⟩) (Nat.le_refl _) _
  exact ((Below.refl _ w).alloc (Nat.le_refl _) _).trans ⟨rfl, rfl, rfl, by simp, fun k hk => setRow_other _ _ _ _ (by omega)⟩

set_option maxHeartbeats 1000000 in
theorem cloneQ_any (l : List UInt8) (w : World) (hl : l.length ≤ 1000000) :
    Calls Tryz.prog 74 #[.string ⟨l.toArray⟩] w fun e w' => e = .returned (.string ⟨l.toArray⟩) ∧ Below w.heap.size w w' := by
  have hsz : (⟨l.toArray⟩ : ByteArray).size = l.length := by rw [Lib.size_eq]
  by_cases hne : l = []
  · subst hne
    go_enter Tryz.func74, Tryz.ntmps74
    go_wp2
    go_ret
    exact ⟨rfl, Below.refl _ _⟩
  · obtain ⟨W1, W2, W3, h1, h2, h3, hb⟩ := clone_steps l hne hl w
    have hpos : (0 : Int) < (l.length : Int) := by have := List.length_pos_iff.2 hne; omega
    have hn0 : ((l.length : Int) == 0) = false := by simpa using (show (l.length : Int) ≠ 0 by omega)
    go_enter Tryz.func74, Tryz.ntmps74
    go_wp2_with fail
    go_ret
    exact ⟨rfl, hb⟩

theorem clone0_any (s : ByteArray) (w : World) (hlim : s.size ≤ 1000000) :
    Calls Tryz.prog 74 #[.string s] w fun e w' => e = .returned (.string s) ∧ Below w.heap.size w w' := by
  have h := cloneQ_any s.data.toList w (by rw [← Lib.size_eq]; exact hlim)
  rw [Lib.mk_data] at h
  exact h

set_option maxHeartbeats 400000 in
theorem clone_any (s : ByteArray) (w : World) (hlim : s.size ≤ 1000000) :
    Calls Tryz.prog 53 #[.string s] w fun e w' => e = .returned (.string s) ∧ Below w.heap.size w w' := by
  go_enter Tryz.func53, Tryz.ntmps53
  go_wp2_with fail
  refine (clone0_any _ _ hlim).mono ?_
  rintro e w1 ⟨rfl, hb⟩
  go_wp2_with fail
  go_ret
  exact ⟨rfl, hb⟩
end

section
open Go.RowKit
set_option linter.unusedSimpArgs false
set_option linter.unusedVariables false

theorem tab_range {w : World} {g : Nat} {l : List (List UInt8)} (h : TabRow w g l) : w.rangeAt g 0 (l.map fun s => Value.string ⟨s.toArray⟩) := by
  intro j v hv
  rw [List.getElem?_map] at hv
  rcases hj : l[j]? with _ | x
  · rw [hj] at hv; cases hv
  · rw [hj] at hv
    cases hv
    have hlt : j < l.length := by
      rcases Nat.lt_or_ge j l.length with h | h
      · exact h
      · rw [List.getElem?_eq_none h] at hj; cases hj
    have := h j hlt
    rw [List.getD_eq_getElem?_getD, hj] at this
    rw [Nat.zero_add]
    exact this

def kwV : Array Value := (keywordsL.map fun s => Value.string ⟨s.toArray⟩).toArray

theorem idx22_c : ∀ k, k < 22 → ∀ w : World, (Instr.index 111 (.agg kwV) (.int .i64 (k : Nat))).run Tryz.prog w = .ok (.string ⟨(keywordsL.getD k []).toArray⟩) w
  | 0, _, w => by kernel_rfl
  | 1, _, w => by kernel_rfl
  | 2, _, w => by kernel_rfl
  | 3, _, w => by kernel_rfl
  | 4, _, w => by kernel_rfl
  | 5, _, w => by kernel_rfl
  | 6, _, w => by kernel_rfl
  | 7, _, w => by kernel_rfl
  | 8, _, w => by kernel_rfl
  | 9, _, w => by kernel_rfl
  | 10, _, w => by kernel_rfl
  | 11, _, w => by kernel_rfl
  | 12, _, w => by kernel_rfl
  | 13, _, w => by kernel_rfl
  | 14, _, w => by kernel_rfl
  | 15, _, w => by kernel_rfl
  | 16, _, w => by kernel_rfl
  | 17, _, w => by kernel_rfl
  | 18, _, w => by kernel_rfl
  | 19, _, w => by kernel_rfl
  | 20, _, w => by kernel_rfl
  | 21, _, w => by kernel_rfl
  | k + 22, h, _ => absurd h (by omega)

theorem size22_c : (Tryz.prog.info? 111).map (·.size) = some (keywordsL.map fun s => Value.string ⟨s.toArray⟩).length := by kernel_rfl

theorem load_kw (w : World) (h : TabRow w 2 keywordsL) : (Instr.loadAt 111 (.pointer (some ⟨2, 0, none⟩))).run Tryz.prog w = .ok (.agg kwV) w :=
  run_loadAt_mid w 2 0 111 _ _ (tab_range h) Tryz.underlying111 rfl size22_c

def mrV : Array Value := (marksL.map fun s => Value.string ⟨s.toArray⟩).toArray

theorem idx24_c : ∀ k, k < 24 → ∀ w : World, (Instr.index 89 (.agg mrV) (.int .i64 (k : Nat))).run Tryz.prog w = .ok (.string ⟨(marksL.getD k []).toArray⟩) w
  | 0, _, w => by kernel_rfl
  | 1, _, w => by kernel_rfl
  | 2, _, w => by kernel_rfl
  | 3, _, w => by kernel_rfl
  | 4, _, w => by kernel_rfl
  | 5, _, w => by kernel_rfl
  | 6, _, w => by kernel_rfl
  | 7, _, w => by kernel_rfl
  | 8, _, w => by kernel_rfl
  | 9, _, w => by kernel_rfl
  | 10, _, w => by kernel_rfl
  | 11, _, w => by kernel_rfl
  | 12, _, w => by kernel_rfl
  | 13, _, w => by kernel_rfl
  | 14, _, w => by kernel_rfl
  | 15, _, w => by kernel_rfl
  | 16, _, w => by kernel_rfl
  | 17, _, w => by kernel_rfl
  | 18, _, w => by kernel_rfl
  | 19, _, w => by kernel_rfl
  | 20, _, w => by kernel_rfl
  | 21, _, w => by kernel_rfl
  | 22, _, w => by kernel_rfl
  | 23, _, w => by kernel_rfl
  | k + 24, h, _ => absurd h (by omega)

theorem size24_c : (Tryz.prog.info? 89).map (·.size) = some (marksL.map fun s => Value.string ⟨s.toArray⟩).length := by kernel_rfl

theorem load_mr (w : World) (h : TabRow w 0 marksL) : (Instr.loadAt 89 (.pointer (some ⟨0, 0, none⟩))).run Tryz.prog w = .ok (.agg mrV) w :=
  run_loadAt_mid w 0 0 89 _ _ (tab_range h) Tryz.underlying89 rfl size24_c

/-- what the cutters answer: an error, or a piece and how many bytes it has -/
def lexE (r : Sum Int (Tok × Nat)) : Ending := match r with
  | .inl k => .returned (.tuple #[.agg #[.int .i64 0, .int .i64 0, .int .i64 0, .string ⟨#[]⟩], .int .i64 0, .int .i64 k])
  | .inr x => .returned (.tuple #[x.1.val, .int .i64 (x.2 : Nat), .int .i64 0])

theorem fin_lex {fn : Func} {Q : Ending → World → Prop} {a : Act} {w : World} {rt st ut x : Nat} {v0 v1 v2 v3 u1 u2 : Value} {T : TypeId} {f : Nat × Nat}
    (hres : fn.results = #[.cell rt 69, .tmp st, .tmp ut]) (hp : a.tmps.getD rt undef = .pointer (some ⟨x, 0, none⟩)) (ho : a.tmps.getD st undef = u1) (ho2 : a.tmps.getD ut undef = u2) (hd : a.defers = [])
    (hblk : w.heap[x]? = some (.cells #[v0, v1, v2, v3] T f)) (hQ : Q (.returned (.tuple #[.agg #[v0, v1, v2, v3], u1, u2])) w) : bodyPost Tryz.prog fn Q Exit.ret a w := by
  refine bodyPost_ret ?_ hd hQ
  obtain ⟨q0, q1, q2, q3⟩ := cells4 hblk
  simp only [Array.getD_eq_getD_getElem?] at hp ho ho2
  simp [results, hres, hp, ho, ho2, go_sem, q0, q1, q2, q3]
end

section
open Go.RowKit
set_option linter.unusedSimpArgs false
set_option linter.unusedVariables false

theorem below_own {w w2 W : World} (h : Below w.heap.size w w2) (k : Kept w.heap.size w2 W) : Below w.heap.size w W :=
  ⟨k.os.trans h.os, k.tape.trans h.tape, k.output.trans h.output, Nat.le_trans h.size k.size, fun i hi => (k.block i (Nat.lt_of_lt_of_le hi h.size) (by omega)).trans (h.block i hi)⟩

theorem below_after {w w1 w2 : World} (h : Below w.heap.size w w1) (k : Below w1.heap.size w1 w2) : Below w.heap.size w w2 :=
  ⟨k.os.trans h.os, k.tape.trans h.tape, k.output.trans h.output, Nat.le_trans h.size k.size, fun i hi => (k.block i (Nat.lt_of_lt_of_le hi h.size)).trans (h.block i hi)⟩

theorem none22 (x : List UInt8) (l : List (List UInt8)) (h : ∀ j, j < 22 → (x == l.getD j []) = false) (hl : l.length = 22) : l.any (fun o => x == o) = false := by
  rw [List.any_eq_false]
  intro o ho
  obtain ⟨j, hj, rfl⟩ := List.getElem_of_mem ho
  have := h j (by omega)
  rw [List.getD_eq_getElem?_getD, List.getElem?_eq_getElem hj] at this
  simpa using this

theorem any22 (x : List UInt8) (l : List (List UInt8)) (k : Nat) (hk : k < 22) (h : (x == l.getD k []) = true) (hl : l.length = 22) : l.any (fun o => x == o) = true := by
  rw [List.any_eq_true]
  have hj : k < l.length := by omega
  rw [List.getD_eq_getElem?_getD, List.getElem?_eq_getElem hj] at h
  exact ⟨_, List.getElem_mem hj, h⟩

/-- how far a word goes: from i on, f bytes are left -/
def runW (s : ByteArray) : Nat → Nat → Nat
  | 0, i => i
  | f + 1, i => if isLetterB (bN s i) || isDigitB (bN s i) then runW s f (i + 1) else i

def cutWordM (s : ByteArray) (kws : List (List UInt8)) : Sum Int (Tok × Nat) :=
  if (12 : Int) < (runW s (s.size - 1) 1 : Nat) then .inl 1
  else if kws.any (fun o => s.data.toList.take (runW s (s.size - 1) 1) == o) then .inr (⟨2, 0, 0, s.data.toList.take (runW s (s.size - 1) 1)⟩, runW s (s.size - 1) 1)
  else .inr (⟨1, 0, 0, s.data.toList.take (runW s (s.size - 1) 1)⟩, runW s (s.size - 1) 1)

theorem runW_le (s : ByteArray) : ∀ f i, runW s f i ≤ i + f
  | 0, i => by simp [runW]
  | f + 1, i => by
    rw [runW]
    split
    · have := runW_le s f (i + 1); omega
    · omega

theorem runW_ge (s : ByteArray) : ∀ f i, i ≤ runW s f i
  | 0, i => by simp [runW]
  | f + 1, i => by
    rw [runW]
    split
    · have := runW_ge s f (i + 1); omega
    · omega

def longM (s : ByteArray) : Nat := if isLetterB (bN s 0) then runW s (s.size - 1) 1 else 0

set_option maxHeartbeats 2000000 in
theorem long_any (s : ByteArray) (hs : 0 < s.size) (hlim : s.size ≤ 1000000) (w : World) :
    Calls Tryz.prog 34 #[.string s] w fun e w' => e = .returned (.int .i64 (longM s : Nat)) ∧ w' = w := by
  have h0' : (s.toList == []) = false := by
    rw [Lib.toList_data]
    have := Lib.size_eq s
    rcases h : s.data.toList with _ | ⟨a, l⟩
    · rw [h, List.length_nil] at this; omega
    · rfl
  have hsI : (0 : Int) < (s.size : Int) := by omega
  rcases hL0 : isLetterB ((bN s 0 : Nat) : Int) with _ | _
  · go_enter Tryz.func34, Tryz.ntmps34
    go_wp2_with fail
    refine (isLetter_any _ _).mono ?_
    rintro e w1 ⟨rfl, rfl⟩
    rw [hL0]
    go_wp2_with fail
    go_ret
    exact ⟨by rw [longM, hL0]; rfl, rfl⟩
  · have HL : Hid (longM s = runW s (s.size - 1) 1) := by unfold Hid; rw [longM, hL0]; rfl
    go_enter Tryz.func34, Tryz.ntmps34
    go_wp2_with fail
    refine (isLetter_any _ _).mono ?_
    rintro e w1 ⟨rfl, rfl⟩
    rw [hL0]
    go_wp2_with fail
    go_loopg [3] (s.size - 1) (fun g s3 wr => ∃ i : Nat, s3 = .int .i64 (i : Nat) ∧ wr = w1 ∧ 1 ≤ i ∧ i + g = s.size ∧ Hid (runW s g i = runW s (s.size - 1) 1))
    case atStart => exact ⟨1, rfl, rfl, by omega, by omega, rfl⟩
    case round =>
      obtain ⟨i, rfl, rfl, hi1, hi2, HN⟩ := hrel
      clear hL0
      cases gk with
      | zero =>
        have hN : longM s = i := by rw [HL.out, ← HN.out]; rfl
        have hlt : ¬ (i : Int) < (s.size : Int) := by omega
        have hltb : decide ((i : Int) < (s.size : Int)) = false := by simpa using hlt
        have HN2 : Hid (longM s = i) := hN
        clear hN
        go_wp2_with fail
        go_ret
        exact ⟨by rw [HN2.out]; rfl, rfl⟩
      | succ g =>
        have hlt : (i : Int) < (s.size : Int) := by omega
        have hltb : decide ((i : Int) < (s.size : Int)) = true := by simpa using hlt
        have hltn : i < s.size := by omega
        have hile : i ≤ s.size := by omega
        rcases hL : isLetterB ((bN s i : Nat) : Int) with _ | _
        · rcases hD : isDigitB ((bN s i : Nat) : Int) with _ | _
          · have HN2 : Hid (longM s = i) := by unfold Hid; rw [HL.out, ← HN.out, runW, hL, hD]; rfl
            go_wp2_with fail
            refine (isLetter_any _ _).mono ?_
            rintro e w1 ⟨rfl, rfl⟩
            rw [hL]
            go_wp2_with fail
            refine (wIsDigit_any _ _).mono ?_
            rintro e w1 ⟨rfl, rfl⟩
            rw [hD]
            go_wp2_with fail
            go_ret
            exact ⟨by rw [HN2.out]; rfl, rfl⟩
          · go_wp2_with fail
            refine (isLetter_any _ _).mono ?_
            rintro e w1 ⟨rfl, rfl⟩
            rw [hL]
            go_wp2_with fail
            refine (wIsDigit_any _ _).mono ?_
            rintro e w1 ⟨rfl, rfl⟩
            rw [hD]
            go_wp2_with fail
            go_roundg g
            case measure => omega
            case rel =>
              refine ⟨i + 1, by go_num, rfl, by omega, by omega, ?_⟩
              have := HN.out
              rw [runW, hL, hD] at this
              exact this
        · go_wp2_with fail
          refine (isLetter_any _ _).mono ?_
          rintro e w1 ⟨rfl, rfl⟩
          rw [hL]
          go_wp2_with fail
          go_roundg g
          case measure => omega
          case rel =>
            refine ⟨i + 1, by go_num, rfl, by omega, by omega, ?_⟩
            have := HN.out
            rw [runW, hL] at this
            exact this

set_option maxHeartbeats 2000000 in
theorem isKeyword_core (wd : List UInt8) (w : World) (kwl : List (List UInt8)) (hkl : kwl.length = 22) (KW : List Value)
    (HRG : Hid (w.rangeAt 2 0 KW)) (HSZ : Hid ((Tryz.prog.info? 111).map (·.size) = some KW.length))
    (HIDX : Hid (∀ k, k < 22 → ∀ w' : World, (Instr.index 111 (.agg KW.toArray) (.int .i64 (k : Nat))).run Tryz.prog w' = .ok (.string ⟨(kwl.getD k []).toArray⟩) w'))
    (r : Bool) (HR : Hid (kwl.any (fun o => wd == o) = r)) :
    Calls Tryz.prog 47 #[.string ⟨wd.toArray⟩] w fun e w' => e = .returned (.bool r) ∧ w' = w := by
  go_enter Tryz.func47, Tryz.ntmps47
  go_wp2_with (refine wpList_load_mid (by rfl) 111 (.global 2) (by rfl) 2 0 (by rfl) KW _ HRG.out Tryz.underlying111 rfl HSZ.out ?_)
  go_loopg [6] 22 (fun g s6 wr => ∃ k : Nat, s6 = .int .i64 (k : Nat) ∧ wr = w ∧ k + g = 22 ∧ Hid (∀ j, j < k → (wd == kwl.getD j []) = false))
  case atStart => exact ⟨0, rfl, rfl, rfl, fun j hj => absurd hj (by omega)⟩
  case round =>
    obtain ⟨k, rfl, rfl, hk, HJ⟩ := hrel
    cases gk with
    | zero =>
      have hk22 : k = 22 := by omega
      subst hk22
      have hno : kwl.any (fun o => wd == o) = false := none22 _ _ HJ.out hkl
      have HR2 : Hid (r = false) := HR.out.symm.trans hno
      clear hno
      go_wp2_with fail
      go_ret
      exact ⟨by rw [HR2.out]; rfl, rfl⟩
    | succ g =>
      have hk22 : k < 22 := by omega
      have hkI : (k : Int) < 22 := by omega
      obtain ⟨o, ho⟩ : ∃ o, o = kwl.getD k [] := ⟨_, rfl⟩
      have hi := fun w' => HIDX.out k hk22 w'
      rw [← ho] at hi
      have HO : Hid (o = kwl.getD k []) := ho
      clear ho
      rcases hm : (wd == o) with _ | _
      · go_wp2_with fail
        go_roundg g
        case measure => omega
        case rel =>
          refine ⟨k + 1, by go_num, rfl, by omega, fun j hj => ?_⟩
          rcases Nat.lt_or_ge j k with h | h
          · exact HJ.out j h
          · have : j = k := by omega
            subst this; rw [← HO.out]; exact hm
      · have hyes : kwl.any (fun o => wd == o) = true := any22 _ _ k hk22 (by rw [← HO.out]; exact hm) hkl
        have HR2 : Hid (r = true) := HR.out.symm.trans hyes
        clear hyes
        go_wp2_with fail
        go_ret
        exact ⟨by rw [HR2.out]; rfl, rfl⟩

theorem tab_alloc {w : World} {g : Nat} {l : List (List UInt8)} (h : TabRow w g l) (hl : 0 < l.length) (o : Obj) : TabRow (w.alloc o) g l :=
  h.same (Below.heap_alloc _ _ _ (h.lt hl))

theorem isKeyword_any (wd : List UInt8) (w : World) (ht : TabRow w 2 keywordsL) :
    Calls Tryz.prog 47 #[.string ⟨wd.toArray⟩] w fun e w' => e = .returned (.bool (keywordsL.any (fun o => wd == o))) ∧ w' = w :=
  isKeyword_core wd w keywordsL rfl _ (tab_range ht) size22_c idx22_c _ rfl

def wordPieceM (wd : List UInt8) (kws : List (List UInt8)) : Sum Int (Tok × Nat) :=
  if (12 : Int) < (wd.length : Nat) then .inl 1
  else if kws.any (fun o => wd == o) then .inr (⟨2, 0, 0, wd⟩, wd.length)
  else .inr (⟨1, 0, 0, wd⟩, wd.length)

set_option maxHeartbeats 2000000 in
theorem wordPiece_any (wd : List UInt8) (hlim : wd.length ≤ 1000000) (w : World) (ht : TabRow w 2 keywordsL) (e0 : Ending) (HE : Hid (e0 = lexE (wordPieceM wd keywordsL))) :
    Calls Tryz.prog 35 #[.string ⟨wd.toArray⟩] w fun e w' => e = e0 ∧ Below w.heap.size w w' := by
  have hsz : (⟨wd.toArray⟩ : ByteArray).size = wd.length := by rw [Lib.size_eq]
  by_cases hbig : (12 : Int) < (wd.length : Nat)
  · have hbb : decide ((12 : Int) < ((wd.length : Nat) : Int)) = true := by simpa using hbig
    clear ht
    go_enter Tryz.func35, Tryz.ntmps35
    go_wp2_with fail
    exact fin_lex Tryz.results35 rfl rfl rfl rfl (heap_alloc_new w _) ⟨by rw [HE.out, wordPieceM, if_pos hbig]; rfl, (Below.refl _ _).alloc (Nat.le_refl _) _⟩
  · have hbb : decide ((12 : Int) < ((wd.length : Nat) : Int)) = false := by simpa using hbig
    have hle : (wd.length : Int) ≤ 12 := by omega
    have hE : e0 = lexE (if keywordsL.any (fun o => wd == o) then .inr (⟨2, 0, 0, wd⟩, wd.length) else .inr (⟨1, 0, 0, wd⟩, wd.length)) := by rw [HE.out, wordPieceM, if_neg hbig]
    have HE2 : Hid (_) := hE
    have HKT : Hid (TabRow (w.alloc (.cells #[.int .i64 0, .int .i64 0, .int .i64 0, .string ⟨#[]⟩] 69)) 2 keywordsL) := tab_alloc ht (by decide) _
    clear hE ht
    go_enter Tryz.func35, Tryz.ntmps35
    go_wp2_with fail
    refine (clone_any _ _ (by omega)).mono ?_
    rintro e w2 ⟨rfl, hb2⟩
    have hblk := (hb2.block w.heap.size (by simp)).trans (heap_alloc_new w (.cells #[.int .i64 0, .int .i64 0, .int .i64 0, .string ⟨#[]⟩] 69))
    have HT2 : Hid (TabRow (w2.alloc (.cells #[.int .i64 1, .int .i64 0, .int .i64 0, .string ⟨wd.toArray⟩] 69)) 2 keywordsL) :=
      tab_alloc (HKT.out.same (hb2.block _ (HKT.out.lt (by decide)))) (by decide) _
    have hs2 := hb2.size
    simp at hs2
    have HB : Hid (Below w.heap.size w w2) := below_after ((Below.refl _ _).alloc (Nat.le_refl _) _) hb2
    have hblk2 := heap_alloc_new w2 (.cells #[.int .i64 1, .int .i64 0, .int .i64 0, .string ⟨wd.toArray⟩] 69)
    have hblk1 := blk_alloc hblk (.cells #[.int .i64 1, .int .i64 0, .int .i64 0, .string ⟨wd.toArray⟩] 69)
    clear hb2
    go_wp2_with fail
    refine (isKeyword_any wd _ HT2.out).mono ?_
    rintro e w3 ⟨rfl, hw3⟩
    have hw3' := hw3.symm
    subst hw3'
    have hc2 := cells4 hblk2
    have hz2 := thaw4 hblk2
    have hc1 := cells4 hblk1
    have hz1 := thaw4 hblk1
    have hblk3 := blk_alloc hblk (.cells #[.int .i64 2, .int .i64 0, .int .i64 0, .string ⟨wd.toArray⟩] 69)
    rcases hkw : keywordsL.any (fun o => wd == o) with _ | _
    · rw [hkw] at HE2
      go_wp2_with fail
      exact fin_lex Tryz.results35 rfl rfl rfl rfl (store4 hblk1 _ _ _ _) ⟨HE2.out.symm ▸ rfl, below_own (below_after HB.out ((Below.refl _ _).alloc (Nat.le_refl _) _)) (kept4 _ _ _ _ _ _)⟩
    · rw [hkw] at HE2
      have hc3 := cells4 hblk3
      have hz3 := thaw4 hblk3
      go_wp2_with fail
      exact fin_lex Tryz.results35 rfl rfl rfl rfl (store4 hblk3 _ _ _ _) ⟨HE2.out.symm ▸ rfl, below_own (below_after HB.out ((Below.refl _ _).alloc (Nat.le_refl _) _)) (kept4 _ _ _ _ _ _)⟩

theorem wordPieceM_cut (s : ByteArray) (hL : isLetterB (bN s 0) = true) (hs : 0 < s.size) : wordPieceM (s.data.toList.take (longM s)) keywordsL = cutWordM s keywordsL ∧ 0 < longM s ∧ longM s ≤ s.size := by
  have h1 : longM s = runW s (s.size - 1) 1 := by rw [longM, hL]; rfl
  have hle : runW s (s.size - 1) 1 ≤ 1 + (s.size - 1) := runW_le s _ _
  have hge := runW_ge s (s.size - 1) 1
  have hlen : (s.data.toList.take (longM s)).length = longM s := by
    rw [List.length_take, ← Lib.size_eq]; omega
  refine ⟨?_, by omega, by omega⟩
  unfold wordPieceM cutWordM
  rw [hlen, h1]
end

section
open Go.RowKit
set_option linter.unusedSimpArgs false
set_option linter.unusedVariables false

/-- how far a number goes, and what it comes to: f bytes are left -/
def runN (s : ByteArray) : Nat → Nat → Int → Nat × Int
  | 0, i, n => (i, n)
  | f + 1, i, n => if isDigitB (bN s i) then runN s f (i + 1) (if n ≤ 1099511627776 then n * 10 + ((bN s i : Nat) - 48) else n) else (i, n)

def cutNumberM (s : ByteArray) : Sum Int (Tok × Nat) :=
  if (1099511627776 : Int) < (runN s s.size 0 0).2 then .inl 2
  else if ((bN s 0 : Nat) : Int) == 48 && decide ((1 : Int) < ((runN s s.size 0 0).1 : Nat)) then .inl 4
  else .inr (⟨3, 0, (runN s s.size 0 0).2, []⟩, (runN s s.size 0 0).1)

theorem digit_bounds {c : Int} (h : isDigitB c = true) : 48 ≤ c ∧ c ≤ 57 := by
  simpa [isDigitB] using h

set_option maxHeartbeats 2000000 in
theorem cutNumber_core (s : ByteArray) (hs : 0 < s.size) (hlim : s.size ≤ 1000000) (w : World) (e0 : Ending) (HE : Hid (lexE (cutNumberM s) = e0)) :
    Calls Tryz.prog 37 #[.string s] w fun e w' => e = e0 ∧ Below w.heap.size w w' := by
  go_enter Tryz.func37, Tryz.ntmps37
  go_wp2_with fail
  go_loopg [5, 6] s.size (fun g s5 s6 wr => ∃ (i : Nat) (n : Int), s5 = .int .i64 n ∧ s6 = .int .i64 (i : Nat) ∧ wr = (w.alloc (.cells #[.int .i64 0, .int .i64 0, .int .i64 0, .string ⟨#[]⟩] 69)) ∧ 0 ≤ n ∧ n ≤ 10995116277770 ∧ i + g = s.size ∧ Hid (runN s g i n = runN s s.size 0 0))
  case atStart => exact ⟨0, 0, rfl, rfl, rfl, by omega, by omega, by omega, rfl⟩
  case round =>
    obtain ⟨i, n, rfl, rfl, rfl, hn0, hn1, hi2, HN⟩ := hrel
    cases gk with
    | zero =>
      have hN : runN s s.size 0 0 = (i, n) := HN.out.symm
      have hlt : ¬ (i : Int) < (s.size : Int) := by omega
      have hltb : decide ((i : Int) < (s.size : Int)) = false := by simpa using hlt
      have hile : i ≤ s.size := by omega
      have hm := HE.out
      unfold cutNumberM at hm
      rw [hN] at hm
      simp only at hm
      by_cases hbig : (1099511627776 : Int) < n
      · have hbb : decide ((1099511627776 : Int) < n) = true := by simpa using hbig
        rw [if_pos hbig] at hm
        have HM : Hid (_) := hm
        clear hm
        go_wp2_with fail
        exact fin_lex Tryz.results37 rfl rfl rfl rfl (heap_alloc_new w _) ⟨HM.out, (Below.refl _ _).alloc (Nat.le_refl _) _⟩
      · have hbb : decide ((1099511627776 : Int) < n) = false := by simpa using hbig
        have hbn : n ≤ 1099511627776 := by omega
        rw [if_neg hbig] at hm
        rcases hz : (((bN s 0 : Nat) : Int) == 48) with _ | _
        · rw [hz] at hm
          have HM : Hid (_) := hm
          clear hm
          go_wp2_with fail
          exact fin_lex Tryz.results37 rfl rfl rfl rfl (heap_alloc_new w _) ⟨HM.out, (Below.refl _ _).alloc (Nat.le_refl _) _⟩
        · rw [hz] at hm
          by_cases hone : (1 : Int) < (i : Int)
          · have hob : decide ((1 : Int) < (i : Int)) = true := by simpa using hone
            rw [hob] at hm
            have HM : Hid (_) := hm
            clear hm
            go_wp2_with fail
            exact fin_lex Tryz.results37 rfl rfl rfl rfl (heap_alloc_new w _) ⟨HM.out, (Below.refl _ _).alloc (Nat.le_refl _) _⟩
          · have hob : decide ((1 : Int) < (i : Int)) = false := by simpa using hone
            have hon : (i : Int) ≤ 1 := by omega
            rw [hob] at hm
            have HM : Hid (_) := hm
            clear hm
            go_wp2_with fail
            exact fin_lex Tryz.results37 rfl rfl rfl rfl (heap_alloc_new w _) ⟨HM.out, (Below.refl _ _).alloc (Nat.le_refl _) _⟩
    | succ g =>
      have hlt : (i : Int) < (s.size : Int) := by omega
      have hltb : decide ((i : Int) < (s.size : Int)) = true := by simpa using hlt
      have hltn : i < s.size := by omega
      have hile : i ≤ s.size := by omega
      rcases hD : isDigitB ((bN s i : Nat) : Int) with _ | _
      · have hN : runN s s.size 0 0 = (i, n) := by rw [← HN.out, runN, hD]; rfl
        go_wp2_with fail
        refine (isDigit_any _ _).mono ?_
        rintro e w1 ⟨rfl, rfl⟩
        rw [hD]
        have hm := HE.out
        unfold cutNumberM at hm
        rw [hN] at hm
        simp only at hm
        by_cases hbig : (1099511627776 : Int) < n
        · have hbb : decide ((1099511627776 : Int) < n) = true := by simpa using hbig
          rw [if_pos hbig] at hm
          have HM : Hid (_) := hm
          clear hm
          go_wp2_with fail
          exact fin_lex Tryz.results37 rfl rfl rfl rfl (heap_alloc_new w _) ⟨HM.out, (Below.refl _ _).alloc (Nat.le_refl _) _⟩
        · have hbb : decide ((1099511627776 : Int) < n) = false := by simpa using hbig
          have hbn : n ≤ 1099511627776 := by omega
          rw [if_neg hbig] at hm
          rcases hz : (((bN s 0 : Nat) : Int) == 48) with _ | _
          · rw [hz] at hm
            have HM : Hid (_) := hm
            clear hm
            go_wp2_with fail
            exact fin_lex Tryz.results37 rfl rfl rfl rfl (heap_alloc_new w _) ⟨HM.out, (Below.refl _ _).alloc (Nat.le_refl _) _⟩
          · rw [hz] at hm
            by_cases hone : (1 : Int) < (i : Int)
            · have hob : decide ((1 : Int) < (i : Int)) = true := by simpa using hone
              rw [hob] at hm
              have HM : Hid (_) := hm
              clear hm
              go_wp2_with fail
              exact fin_lex Tryz.results37 rfl rfl rfl rfl (heap_alloc_new w _) ⟨HM.out, (Below.refl _ _).alloc (Nat.le_refl _) _⟩
            · have hob : decide ((1 : Int) < (i : Int)) = false := by simpa using hone
              have hon : (i : Int) ≤ 1 := by omega
              rw [hob] at hm
              have HM : Hid (_) := hm
              clear hm
              go_wp2_with fail
              exact fin_lex Tryz.results37 rfl rfl rfl rfl (heap_alloc_new w _) ⟨HM.out, (Below.refl _ _).alloc (Nat.le_refl _) _⟩
      · obtain ⟨hd1, hd2⟩ := digit_bounds hD
        have hR := HN.out
        rw [runN, hD] at hR
        simp only [if_true] at hR
        go_wp2_with fail
        refine (isDigit_any _ _).mono ?_
        rintro e w1 ⟨rfl, rfl⟩
        rw [hD]
        by_cases hsm : n ≤ 1099511627776
        · have hsb : decide (n ≤ 1099511627776) = true := by simpa using hsm
          rw [if_pos hsm] at hR
          have HR : Hid (_) := hR
          clear hR
          go_wp2_with fail
          go_roundg g
          case measure => omega
          case rel =>
            exact ⟨i + 1, n * 10 + ((bN s i : Nat) - 48), by go_num, by go_num, rfl, by omega, by omega, by omega, HR.out⟩
        · have hsb : decide (n ≤ 1099511627776) = false := by simpa using hsm
          rw [if_neg hsm] at hR
          have hsm' : 1099511627776 < n := by omega
          have HR : Hid (_) := hR
          clear hR
          go_wp2_with fail
          go_roundg g
          case measure => omega
          case rel => exact ⟨i + 1, n, rfl, by go_num, rfl, hn0, hn1, by omega, HR.out⟩

theorem cutNumber_any (s : ByteArray) (hs : 0 < s.size) (hlim : s.size ≤ 1000000) (w : World) :
    Calls Tryz.prog 37 #[.string s] w fun e w' => e = lexE (cutNumberM s) ∧ Below w.heap.size w w' :=
  cutNumber_core s hs hlim w _ rfl
end

section
open Go.RowKit
set_option linter.unusedSimpArgs false
set_option linter.unusedVariables false

theorem conv_own {w : World} {base : Nat} {v : Value} {acc : List UInt8} (h : w.ownsRow base 5 1 v acc.length (Lib.byteCells acc)) : (convert 101 9 v).run Tryz.prog w = .ok (.string ⟨acc.toArray⟩) w := by
  rcases h.2 with ⟨rfl, h0⟩ | ⟨g, cap, cur, rfl, hb, hh, hn, hc, hs, ht⟩
  · have : acc = [] := List.eq_nil_of_length_eq_zero h0
    subst this
    exact run_convert_bytes_nil w 101 5 Tryz.underlying101 Tryz.underlying5 0 0 9 Tryz.underlying9
  · refine run_convert_bytes_back w 101 9 5 ⟨g, 0, none⟩ cap acc Tryz.underlying101 Tryz.underlying5 Tryz.underlying9 ?_
    intro j hj
    have e1 : (⟨g, 0, none⟩ : Addr).add j = ⟨g, j, none⟩ := by rw [Addr.add_mid]; simp
    have h1 : cur.toList[j]? = some (.int .u8 (acc[j].toNat : Int)) := by
      have h2 : (cur.toList.take (acc.length * 1))[j]? = (Lib.byteCells acc)[j]? := by rw [ht]
      rw [List.getElem?_take_of_lt (by omega)] at h2
      rw [h2]
      simp [Lib.byteCells, hj]
    rw [e1]
    simp only [World.cell?, hh]
    simpa using h1

theorem below_grown {w wa w2 : World} {o : Option Nat} (h : Below w.heap.size w wa) (hg : wa.grownBy w2 o) (ho : ∀ k, o = some k → w.heap.size ≤ k) : Below w.heap.size w w2 :=
  ⟨hg.os.trans h.os, hg.tape.trans h.tape, hg.output.trans h.output, Nat.le_trans h.size hg.size, fun i hi => (hg.block i (Nat.lt_of_lt_of_le hi h.size) (fun e => by have := ho i e.symm; omega)).trans (h.block i hi)⟩

def escB (s : ByteArray) : Option UInt8 :=
  if s.toList == [] then none
  else if ((bN s 0 : Nat) : Int) == 34 || ((bN s 0 : Nat) : Int) == 92 then some (s.data.toList.getD 0 0)
  else if ((bN s 0 : Nat) : Int) == 110 then some 10 else none

theorem escE_eq (s : ByteArray) : (∃ c, escB s = some c ∧ escE s = .returned (.tuple #[.int .u8 (c.toNat : Int), .bool true])) ∨ (escB s = none ∧ escE s = .returned (.tuple #[.int .u8 0, .bool false])) := by
  unfold escE escM escB
  split
  · exact .inr ⟨rfl, rfl⟩
  · split
    · exact .inl ⟨_, rfl, rfl⟩
    · split
      · exact .inl ⟨_, rfl, rfl⟩
      · exact .inr ⟨rfl, rfl⟩

/-- a text's bytes, from place i on: f: at least so many bytes are left -/
def runT (s : ByteArray) : Nat → Nat → List UInt8 → Sum Int (Tok × Nat)
  | 0, _, _ => .inl 5
  | f + 1, i, acc =>
    if i < s.size then
      (if ((bN s i : Nat) : Int) == 34 then .inr (⟨4, 0, 0, acc⟩, i + 1)
      else if ((bN s i : Nat) : Int) == 10 then .inl 4
      else if ((bN s i : Nat) : Int) == 92 then (match escB (s.extract (i + 1) s.size) with
        | none => .inl 4
        | some c => runT s f (i + 1 + 1) (acc ++ [c]))
      else runT s f (i + 1) (acc ++ [s.data.toList.getD i 0]))
    else .inl 5

def cutTextM (s : ByteArray) : Sum Int (Tok × Nat) := runT s (s.size + 1) 1 []

set_option maxHeartbeats 2000000 in
theorem cutText_core (s : ByteArray) (hs : 0 < s.size) (hlim : s.size ≤ 1000000) (w : World) (r : Sum Int (Tok × Nat)) (HE : Hid (cutTextM s = r)) :
    Calls Tryz.prog 38 #[.string s] w fun e w' => e = lexE r ∧ Below w.heap.size w w' := by
  obtain ⟨i0, hi, hz0, hz1, hz2⟩ := info_parts infoByte
  go_enter Tryz.func38, Tryz.ntmps38
  go_wp2_with fail
  go_loopg [5, 6] (s.size + 1) (fun g s5 s6 wr => ∃ (acc : List UInt8) (i : Nat), s6 = .int .i64 (i : Nat) ∧ Below w.heap.size w wr ∧ wr.heap[w.heap.size]? = some (.cells #[.int .i64 0, .int .i64 0, .int .i64 0, .string ⟨#[]⟩] 69 (0, 0)) ∧
    wr.ownsRow (w.heap.size + 1) 5 1 s5 acc.length (Lib.byteCells acc) ∧ i ≤ s.size ∧ s.size < i + g ∧ acc.length ≤ i ∧ Hid (runT s g i acc = r))
  case atStart => exact ⟨[], 1, rfl, (Below.refl _ _).alloc (Nat.le_refl _) _, heap_alloc_new w _, World.ownsRow_nil _ _ _ _, by omega, by omega, by simp, HE⟩
  case round =>
    obtain ⟨acc, i, rfl, hB, hx, hown, hi1, hi2, hal, HN⟩ := hrel
    obtain ⟨av, cv, rfl⟩ := ownsRow_slice hown
    have HOW : Hid (wr.ownsRow (w.heap.size + 1) 5 1 (.slice av acc.length cv) acc.length (Lib.byteCells acc)) := hown
    have HB : Hid (Below w.heap.size w wr) := hB
    have hsw := hB.size
    have hxl : w.heap.size < wr.heap.size := by
      rcases Nat.lt_or_ge w.heap.size wr.heap.size with h | h
      · exact h
      · rw [Array.getElem?_eq_none h] at hx; cases hx
    have hc := cells4 hx
    have hz := thaw4 hx
    have hcv := conv_own hown
    clear hown hB
    cases gk with
    | zero => exact absurd hi2 (by omega)
    | succ g =>
      have hr := HN.out
      simp only [runT] at hr
      by_cases hin : i < s.size
      · rw [if_pos hin] at hr
        have hlt : (i : Int) < (s.size : Int) := by omega
        have hltb : decide ((i : Int) < (s.size : Int)) = true := by simpa using hlt
        rcases h34 : (((bN s i : Nat) : Int) == 34) with _ | _
        · rw [h34] at hr
          simp only [Bool.false_eq_true, if_false] at hr
          rcases h10 : (((bN s i : Nat) : Int) == 10) with _ | _
          · rw [h10] at hr
            simp only [Bool.false_eq_true, if_false] at hr
            rcases h92 : (((bN s i : Nat) : Int) == 92) with _ | _
            · rw [h92] at hr
              simp only [Bool.false_eq_true, if_false] at hr
              have HR : Hid (_) := hr
              clear hr hcv
              have HO : Hid ((wr.alloc (.cells #[.int .u8 (bN s i : Nat)] 5)).ownsRow (w.heap.size + 1) 5 1 (.slice av acc.length cv) acc.length (Lib.byteCells acc)) := HOW.out.alloc _
              have HNW : Hid (∀ j u, [Value.int .u8 (bN s i : Nat)][j]? = some u → (wr.alloc (.cells #[.int .u8 (bN s i : Nat)] 5)).cell? ((⟨wr.heap.size, 0, none⟩ : Addr).add j) = some u) :=
                World.news_of_block (B := wr.heap.size) (cs := #[.int .u8 (bN s i : Nat)]) (heap_alloc_new wr _)
              have hm63 : acc.length + 1 ≤ maxLen := by unfold maxLen; omega
              have hone : ∀ u ∈ [Value.int .u8 (bN s i : Nat)], u.oneCell' = true := by
                intro u hu
                simp at hu
                subst hu; rfl
              go_wp2_with (at_builtin; refine wpList_append_lies _ rfl _ _ 101 (by rfl) (w.heap.size + 1) 5 i0 _ 1 1 Tryz.underlying101 hi hz0 hz1 hz2 rfl (by decide) (.slice av acc.length cv) acc.length (Lib.byteCells acc) (by rfl) HO.out ⟨wr.heap.size, 0, none⟩ 1 1 [.int .u8 (bN s i : Nat)] (by rfl) rfl HNW.out hone (by decide) hm63 (by omega) (by simp; omega) (wr.heap.size + 1) (by simp) ?_)
              intro gg cp w8 hown8 hgrow8 hat8 hlt8
              have HO8 : Hid (_) := hown8
              have HG8 : Hid (_) := hgrow8
              clear hown8 hgrow8 hat8 hone
              go_wp2_with fail
              go_roundg g
              case measure => omega
              case rel =>
                have hv := HOW.out.lt
                refine ⟨acc ++ [s.data.toList.getD i 0], i + 1, by go_num, ?_, ?_, ?_, by omega, by omega, by simp; omega, HR.out⟩
                · exact below_grown (below_after HB.out ((Below.refl _ _).alloc (Nat.le_refl _) _)) HG8.out (fun k e => by have := hv k e; omega)
                · have hsz := HB.out.size
                  rw [HG8.out.block w.heap.size (by simp; omega) (fun e => by have := hv _ e.symm; omega)]
                  exact blk_alloc hx _
                · have e1 : Lib.byteCells (acc ++ [s.data.toList.getD i 0]) = Lib.byteCells acc ++ [Value.int .u8 (bN s i : Nat)] := by simp [Lib.byteCells, bN]
                  rw [e1, List.length_append]
                  exact HO8.out
            · rw [h92] at hr
              simp only [if_true] at hr
              have hi1' : (i : Int) + 1 ≤ (s.size : Int) := by omega
              have hi0' : (0 : Int) ≤ (i : Int) + 1 := by omega
              have htn : ((i : Int) + 1).toNat = i + 1 := by omega
              clear hcv
              rcases escE_eq (s.extract (i + 1) s.size) with ⟨c, hb, he⟩ | ⟨hb, he⟩
              · rw [hb] at hr
                simp only at hr
                have HR : Hid (_) := hr
                have HEE : Hid (_) := he
                have hin2 : i + 1 < s.size := by
                  rcases Nat.lt_or_ge (i + 1) s.size with h | h
                  · exact h
                  · exfalso
                    have h0 : (s.extract (i + 1) s.size).toList == [] := by
                      rw [Lib.extract_toList]
                      have : i + 1 = s.size := by omega
                      simp [this]
                    unfold escB at hb
                    rw [if_pos h0] at hb
                    cases hb
                clear hr he hb
                go_wp2_with fail
                refine (escaped_any _ _).mono ?_
                rintro e w1 ⟨rfl, hw1⟩
                have hw1' := hw1.symm
                subst hw1'
                rw [HEE.out]
                have HO : Hid ((wr.alloc (.cells #[.int .u8 (c.toNat : Nat)] 5)).ownsRow (w.heap.size + 1) 5 1 (.slice av acc.length cv) acc.length (Lib.byteCells acc)) := HOW.out.alloc _
                have HNW : Hid (∀ j u, [Value.int .u8 (c.toNat : Nat)][j]? = some u → (wr.alloc (.cells #[.int .u8 (c.toNat : Nat)] 5)).cell? ((⟨wr.heap.size, 0, none⟩ : Addr).add j) = some u) :=
                  World.news_of_block (B := wr.heap.size) (cs := #[.int .u8 (c.toNat : Nat)]) (heap_alloc_new wr _)
                have hm63 : acc.length + 1 ≤ maxLen := by unfold maxLen; omega
                have hone : ∀ u ∈ [Value.int .u8 (c.toNat : Nat)], u.oneCell' = true := by
                  intro u hu
                  simp at hu
                  subst hu; rfl
                go_wp2_with (at_builtin; refine wpList_append_lies _ rfl _ _ 101 (by rfl) (w.heap.size + 1) 5 i0 _ 1 1 Tryz.underlying101 hi hz0 hz1 hz2 rfl (by decide) (.slice av acc.length cv) acc.length (Lib.byteCells acc) (by rfl) HO.out ⟨wr.heap.size, 0, none⟩ 1 1 [.int .u8 (c.toNat : Nat)] (by rfl) rfl HNW.out hone (by decide) hm63 (by omega) (by simp; omega) (wr.heap.size + 1) (by simp) ?_)
                intro gg cp w8 hown8 hgrow8 hat8 hlt8
                have HO8 : Hid (_) := hown8
                have HG8 : Hid (_) := hgrow8
                clear hown8 hgrow8 hat8 hone
                go_wp2_with fail
                go_roundg g
                case measure => omega
                case rel =>
                  have hv := HOW.out.lt
                  refine ⟨acc ++ [c], i + 1 + 1, by go_num, ?_, ?_, ?_, by omega, by omega, by simp; omega, HR.out⟩
                  · exact below_grown (below_after HB.out ((Below.refl _ _).alloc (Nat.le_refl _) _)) HG8.out (fun k e => by have := hv k e; omega)
                  · have hsz := HB.out.size
                    rw [HG8.out.block w.heap.size (by simp; omega) (fun e => by have := hv _ e.symm; omega)]
                    exact blk_alloc hx _
                  · have e1 : Lib.byteCells (acc ++ [c]) = Lib.byteCells acc ++ [Value.int .u8 (c.toNat : Nat)] := by simp [Lib.byteCells, bN]
                    rw [e1, List.length_append]
                    exact HO8.out
              · rw [hb] at hr
                simp only at hr
                subst hr
                have HEE : Hid (_) := he
                clear he hb
                go_wp2_with fail
                refine (escaped_any _ _).mono ?_
                rintro e w1 ⟨rfl, hw1⟩
                have hw1' := hw1.symm
                subst hw1'
                rw [HEE.out]
                go_wp2_with fail
                exact fin_lex Tryz.results38 rfl rfl rfl rfl (store4 hx _ _ _ _) ⟨rfl, below_own HB.out (kept4 _ _ _ _ _ _)⟩
          · rw [h10] at hr
            simp only [if_true] at hr
            subst hr
            clear hcv
            go_wp2_with fail
            exact fin_lex Tryz.results38 rfl rfl rfl rfl (store4 hx _ _ _ _) ⟨rfl, below_own HB.out (kept4 _ _ _ _ _ _)⟩
        · rw [h34] at hr
          simp only [if_true] at hr
          subst hr
          go_wp2_with fail
          exact fin_lex Tryz.results38 rfl rfl rfl rfl (store4 hx _ _ _ _) ⟨by simp [lexE, Tok.val], below_own HB.out (kept4 _ _ _ _ _ _)⟩
      · rw [if_neg hin] at hr
        subst hr
        have hlt : ¬ (i : Int) < (s.size : Int) := by omega
        have hltb : decide ((i : Int) < (s.size : Int)) = false := by simpa using hlt
        clear hcv
        go_wp2_with fail
        exact fin_lex Tryz.results38 rfl rfl rfl rfl (store4 hx _ _ _ _) ⟨rfl, below_own HB.out (kept4 _ _ _ _ _ _)⟩

theorem cutText_any (s : ByteArray) (hs : 0 < s.size) (hlim : s.size ≤ 1000000) (w : World) :
    Calls Tryz.prog 38 #[.string s] w fun e w' => e = lexE (cutTextM s) ∧ Below w.heap.size w w' :=
  cutText_core s hs hlim w _ rfl
end

end Go.Proofs.YtbpnfoihonehgabGreatDoor
