/-
  The program that the laws on numbers do.
-/
import Derived.Test.YtbpnfoihonehgacDoorJaC
namespace Go.Proofs.YtbpnfoihonehgacDoor
open Go.RowKit
set_option linter.unusedSimpArgs false
set_option linter.unusedVariables false

/-- blocks laid one behind the other -/
def allocs : World → List Obj → World
  | w, [] => w
  | w, o :: os => allocs (w.alloc o) os

theorem allocs_size : ∀ (os : List Obj) (w : World), (allocs w os).heap.size = w.heap.size + os.length
  | [], _ => rfl
  | o :: os, w => by rw [allocs, allocs_size os]; simp; omega

theorem allocs_below : ∀ (os : List Obj) (w : World), Below w.heap.size w (allocs w os)
  | [], _ => Below.refl _ _
  | o :: os, w => below_after (below_alloc w o) (allocs_below os _)

theorem allocs_at : ∀ (os : List Obj) (w : World) (i : Nat) (o : Obj), os[i]? = some o → (allocs w os).heap[w.heap.size + i]? = some o
  | [], _, _, _, h => by simp at h
  | o :: os, w, 0, o', h => by
    cases h
    exact ((allocs_below os (w.alloc o)).block _ (by simp)).trans (heap_alloc_new w o)
  | o :: os, w, i + 1, o', h => by
    have := allocs_at os (w.alloc o) i o' (by simpa using h)
    rw [show (w.alloc o).heap.size = w.heap.size + 1 by simp] at this
    rw [allocs, show w.heap.size + (i + 1) = w.heap.size + 1 + i by omega]
    exact this

def mainT : List UInt8 := [109, 97, 105, 110]
def oneI (s : List UInt8) (a b : Int) : List Ins := [⟨1, [0], [], a, [], []⟩, ⟨1, [1], [], b, [], []⟩, ⟨3, [2], [0, 1], 0, s, []⟩, ⟨8, [], [2], 0, tInt, []⟩, ⟨12, [], [], 0, [], []⟩]
def oneC (s : List UInt8) (a b : Int) : Cod := ⟨mainT, 0, 0, 3, 0, [oneI s a b]⟩

def slN : Value := .slice none 0 0
def oneO (h : Nat) (s : List UInt8) (a b : Int) : List Obj :=
  [.cells #[.slice (some ⟨h + 8, 0, none⟩) 1 1, slN] 25, .cells #[.int .i64 0] 3, .cells #[.int .i64 1] 3, .cells #[.int .i64 2] 3, .cells #[.int .i64 0, .int .i64 1] 3, .cells #[.int .i64 2] 3,
   .cells #[.int .i64 1, .slice (some ⟨h + 1, 0, none⟩) 1 1, slN, .int .i64 a, .string ⟨#[]⟩, slN, .int .i64 1, .slice (some ⟨h + 2, 0, none⟩) 1 1, slN, .int .i64 b, .string ⟨#[]⟩, slN,
     .int .i64 3, .slice (some ⟨h + 3, 0, none⟩) 1 1, .slice (some ⟨h + 4, 0, none⟩) 2 2, .int .i64 0, .string ⟨s.toArray⟩, slN, .int .i64 8, slN, .slice (some ⟨h + 5, 0, none⟩) 1 1, .int .i64 0, .string ⟨#[105, 110, 116]⟩, slN, .int .i64 12, slN, slN, .int .i64 0, .string ⟨#[]⟩, slN] 58,
   .cells #[.slice (some ⟨h + 6, 0, none⟩) 5 5] 55, .cells #[.string ⟨#[109, 97, 105, 110]⟩, .int .i64 0, .int .i64 0, .int .i64 3, .int .i64 0, .slice (some ⟨h + 7, 0, none⟩) 1 1] 28]

set_option maxHeartbeats 4000000 in
set_option maxRecDepth 20000 in
theorem one_any (s : List UInt8) (a b : Int) (w : World) :
    Calls Tryd.prog 16 #[.string ⟨s.toArray⟩, .int .i64 a, .int .i64 b] w fun e w' => e = .returned (prgV (.slice (some ⟨w.heap.size + 8, 0, none⟩) 1 1) slN) ∧ w' = allocs w (oneO w.heap.size s a b) := by
  unfold prgV
  go_enter Tryd.func16, Tryd.ntmps16
  go_wp2_with fail
  exact bodyPost_ret (v := .agg #[.slice (some ⟨w.heap.size + 8, 0, none⟩) 1 1, .slice none 0 0]) (by simp [results, Tryd.results16, go_sem]) rfl ⟨rfl, rfl⟩

/-! ### how it lies -/
theorem cell_at {w : World} {g o : Nat} {arr : Array Value} {T : TypeId} (h : w.heap[g]? = some (.cells arr T)) : w.cell? ⟨g, o, none⟩ = arr[o]? := by simp [World.cell?, h]

theorem nums_block {w : World} {B g k : Nat} {xs : List Int} {T : TypeId} (h : w.heap[g]? = some (.cells (numsL xs).toArray T)) (hg : g < B) (hl : xs.length ≤ maxLen) (hi : ∀ x ∈ xs, I64 x) : Nums B w (.slice (some ⟨g, 0, none⟩) xs.length k) xs := by
  refine ⟨hl, _, _, rfl, fun _ => ⟨g, 0, rfl, hg, fun i x hx => ⟨[.int .i64 x], rfl, ⟨rfl, hi x (List.mem_of_getElem? hx)⟩, fun j hj => ?_⟩⟩⟩
  have : j = 0 := by omega
  subst this
  rw [cell_at h]
  simp [numsL, numV, hx]

theorem nums_nil (B : Nat) (w : World) : Nums B w slN [] := ⟨Nat.zero_le _, _, _, rfl, fun h => absurd h (by decide)⟩

theorem small_len (n : Nat) (h : n ≤ 100) : n ≤ maxLen := by unfold maxLen; omega

structure OneL (w : World) (h : Nat) (s : List UInt8) (a b : Int) : Prop where
  at_ : ∀ i o, (oneO h s a b)[i]? = some o → w.heap[h + i]? = some o

theorem one_blk {w : World} {h : Nat} {s : List UInt8} {a b : Int} (hw : OneL w h s a b) (hs : s.length ≤ 100) (ha : I64 a) (hb : I64 b) : Blk (h + 9) w (.slice (some ⟨h + 6, 0, none⟩) 5 5) (oneI s a b) := by
  have h1 := hw.at_ 1 _ rfl
  have h2 := hw.at_ 2 _ rfl
  have h3 := hw.at_ 3 _ rfl
  have h4 := hw.at_ 4 _ rfl
  have h5 := hw.at_ 5 _ rfl
  have h6 := hw.at_ 6 _ rfl
  have z : I64 0 := ⟨by decide, by decide⟩
  have o : I64 1 := ⟨by decide, by decide⟩
  have t : I64 2 := ⟨by decide, by decide⟩
  have n1 : Nums (h + 9) w (.slice (some ⟨h + 1, 0, none⟩) 1 1) [0] := nums_block (xs := [0]) h1 (by omega) (small_len _ (by decide)) (by intro x hx; simp at hx; subst hx; exact z)
  have n2 : Nums (h + 9) w (.slice (some ⟨h + 2, 0, none⟩) 1 1) [1] := nums_block (xs := [1]) h2 (by omega) (small_len _ (by decide)) (by intro x hx; simp at hx; subst hx; exact o)
  have n3 : Nums (h + 9) w (.slice (some ⟨h + 3, 0, none⟩) 1 1) [2] := nums_block (xs := [2]) h3 (by omega) (small_len _ (by decide)) (by intro x hx; simp at hx; subst hx; exact t)
  have n4 : Nums (h + 9) w (.slice (some ⟨h + 4, 0, none⟩) 2 2) [0, 1] := nums_block (xs := [0, 1]) h4 (by omega) (small_len _ (by decide)) (by intro x hx; simp at hx; rcases hx with rfl | rfl; exact z; exact o)
  have n5 : Nums (h + 9) w (.slice (some ⟨h + 5, 0, none⟩) 1 1) [2] := nums_block (xs := [2]) h5 (by omega) (small_len _ (by decide)) (by intro x hx; simp at hx; subst hx; exact t)
  have n0 := nums_nil (h + 9) w
  refine ⟨small_len _ (by show 5 ≤ 100; decide), _, _, rfl, fun _ => ⟨h + 6, 0, rfl, by omega, fun i x hx => ?_⟩⟩
  match i, hx with
  | 0, hx =>
    cases hx
    refine ⟨_, rfl, ⟨_, _, _, rfl, n1, n0, n0, Nat.zero_le _, ha⟩, fun j hj => ?_⟩
    rw [cell_at h6]
    match j, hj with
    | 0, _ => rfl
    | 1, _ => rfl
    | 2, _ => rfl
    | 3, _ => rfl
    | 4, _ => rfl
    | 5, _ => rfl
  | 1, hx =>
    cases hx
    refine ⟨_, rfl, ⟨_, _, _, rfl, n2, n0, n0, Nat.zero_le _, hb⟩, fun j hj => ?_⟩
    rw [cell_at h6]
    match j, hj with
    | 0, _ => rfl
    | 1, _ => rfl
    | 2, _ => rfl
    | 3, _ => rfl
    | 4, _ => rfl
    | 5, _ => rfl
  | 2, hx =>
    cases hx
    refine ⟨_, rfl, ⟨_, _, _, rfl, n3, n4, n0, small_len _ hs, z⟩, fun j hj => ?_⟩
    rw [cell_at h6]
    match j, hj with
    | 0, _ => rfl
    | 1, _ => rfl
    | 2, _ => rfl
    | 3, _ => rfl
    | 4, _ => rfl
    | 5, _ => rfl
  | 3, hx =>
    cases hx
    refine ⟨_, rfl, ⟨_, _, _, rfl, n0, n5, n0, small_len _ (by decide), z⟩, fun j hj => ?_⟩
    rw [cell_at h6]
    match j, hj with
    | 0, _ => rfl
    | 1, _ => rfl
    | 2, _ => rfl
    | 3, _ => rfl
    | 4, _ => rfl
    | 5, _ => rfl
  | 4, hx =>
    cases hx
    refine ⟨_, rfl, ⟨_, _, _, rfl, n0, n0, n0, Nat.zero_le _, z⟩, fun j hj => ?_⟩
    rw [cell_at h6]
    match j, hj with
    | 0, _ => rfl
    | 1, _ => rfl
    | 2, _ => rfl
    | 3, _ => rfl
    | 4, _ => rfl
    | 5, _ => rfl
  | i + 5, hx => simp [oneI] at hx

theorem one_cods {w : World} {h : Nat} {s : List UInt8} {a b : Int} (hw : OneL w h s a b) (hs : s.length ≤ 100) (ha : I64 a) (hb : I64 b) : Cods (h + 9) w (.slice (some ⟨h + 8, 0, none⟩) 1 1) [oneC s a b] := by
  have h7 := hw.at_ 7 _ rfl
  have h8 := hw.at_ 8 _ rfl
  have hbl : Blks (h + 9) w (.slice (some ⟨h + 7, 0, none⟩) 1 1) [oneI s a b] := by
    refine ⟨small_len _ (by show 1 ≤ 100; decide), _, _, rfl, fun _ => ⟨h + 7, 0, rfl, by omega, fun i x hx => ?_⟩⟩
    match i, hx with
    | 0, hx =>
      cases hx
      refine ⟨_, rfl, ⟨_, rfl, one_blk hw hs ha hb⟩, fun j hj => ?_⟩
      have : j = 0 := by omega
      subst this
      rw [cell_at h7]
      rfl
    | i + 1, hx => simp at hx
  refine ⟨small_len _ (by show 1 ≤ 100; decide), _, _, rfl, fun _ => ⟨h + 8, 0, rfl, by omega, fun i x hx => ?_⟩⟩
  match i, hx with
  | 0, hx =>
    cases hx
    refine ⟨_, rfl, ⟨_, rfl, hbl, small_len _ (by show 4 ≤ 100; decide), (⟨by decide, by decide⟩ : I64 0), (⟨by decide, by decide⟩ : I64 0), (⟨by decide, by decide⟩ : I64 3)⟩, fun j hj => ?_⟩
    rw [cell_at h8]
    match j, hj with
    | 0, _ => rfl
    | 1, _ => rfl
    | 2, _ => rfl
    | 3, _ => rfl
    | 4, _ => rfl
    | 5, _ => rfl
  | i + 1, hx => simp at hx

/-! ### what it does -/
def one0 (s : List UInt8) (a b : Int) : Mst := ⟨[], 0, [], oneI s a b, List.replicate 3 0⟩

theorem one_run (s : List UInt8) (a b : Int) : ∃ q', runM 9 (one0 s a b) = some (if ((calcM s a b).2 == 0) = true then 1 else (calcM s a b).2, q') ∧ q'.lines = if ((calcM s a b).2 == 0) = true then [Lib.itoa (calcM s a b).1] else [] := by
  have e1 : stepM (one0 s a b) = some (0, { one0 s a b with next := (oneI s a b).drop 1, vars := [a, 0, 0] }) := rfl
  have e2 : stepM { one0 s a b with next := (oneI s a b).drop 1, vars := [a, 0, 0] } = some (0, { one0 s a b with next := (oneI s a b).drop 2, vars := [a, b, 0] }) := rfl
  have e3 : stepM { one0 s a b with next := (oneI s a b).drop 2, vars := [a, b, 0] } = if ((calcM s a b).2 == 0) = true then some (0, { one0 s a b with next := (oneI s a b).drop 3, vars := [a, b, (calcM s a b).1] }) else some ((calcM s a b).2, { one0 s a b with next := (oneI s a b).drop 3, vars := [a, b, 0] }) := rfl
  have e4 : ∀ r : Int, stepM { one0 s a b with next := (oneI s a b).drop 3, vars := [a, b, r] } = some (0, { one0 s a b with next := (oneI s a b).drop 4, vars := [a, b, r], lines := [Lib.itoa r] }) := fun r => rfl
  have e5 : ∀ r : Int, stepM { one0 s a b with next := (oneI s a b).drop 4, vars := [a, b, r], lines := [Lib.itoa r] } = some (1, { one0 s a b with next := [], vars := [a, b, r], lines := [Lib.itoa r] }) := fun r => rfl
  rcases hc : ((calcM s a b).2 == 0) with _ | _
  · rw [hc] at e3
    simp only [Bool.false_eq_true, if_false] at e3
    refine ⟨{ one0 s a b with next := (oneI s a b).drop 3, vars := [a, b, 0] }, ?_, rfl⟩
    simp only [Bool.false_eq_true, if_false]
    unfold runM
    rw [e1]
    simp only [beq_self_eq_true, if_true]
    unfold runM
    rw [e2]
    simp only [beq_self_eq_true, if_true]
    unfold runM
    rw [e3]
    simp only [hc, Bool.false_eq_true, if_false]
  · rw [hc] at e3
    simp only [if_true] at e3
    refine ⟨{ one0 s a b with next := [], vars := [a, b, (calcM s a b).1], lines := [Lib.itoa (calcM s a b).1] }, ?_, rfl⟩
    simp only [if_true]
    unfold runM
    rw [e1]
    simp only [beq_self_eq_true, if_true]
    unfold runM
    rw [e2]
    simp only [beq_self_eq_true, if_true]
    unfold runM
    rw [e3]
    simp only [beq_self_eq_true, if_true]
    unfold runM
    rw [e4]
    simp only [beq_self_eq_true, if_true]
    unfold runM
    rw [e5]
    rfl

end Go.Proofs.YtbpnfoihonehgacDoor
