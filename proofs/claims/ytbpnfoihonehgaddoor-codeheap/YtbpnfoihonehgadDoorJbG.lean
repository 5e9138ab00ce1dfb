/-
  The program of the law on the heap: how it lies, what it does.
-/
import Derived.Test.YtbpnfoihonehgadDoorJbA1
namespace Go.Proofs.YtbpnfoihonehgadDoor
open Go.RowKit
set_option linter.unusedSimpArgs false
set_option linter.unusedVariables false

def heapI (k v a : Int) : List Ins := [⟨1, [0], [], k, [], []⟩, ⟨6, [1], [0], 0, [], []⟩, ⟨8, [], [1], 0, tInt, []⟩, ⟨1, [2], [], v, [], []⟩, ⟨5, [], [1, 2], a, [], []⟩, ⟨4, [3], [1], a, [], []⟩, ⟨8, [], [3], 0, tInt, []⟩, ⟨12, [], [], 0, [], []⟩]
def heapC (k v a : Int) : Cod := ⟨mainT, 0, 0, 4, 0, [heapI k v a]⟩

def insO (d : Nat) (n : Int) : Obj := .cells #[.int .i64 1, .slice (some ⟨d, 0, none⟩) 1 1, slN, .int .i64 n, .string ⟨#[]⟩, slN] 25
def heapO (h : Nat) (k v a : Int) : List Obj :=
  [.cells #[.int .i64 1, .int .i64 2] 3, insO (h + 2) k, .cells #[.int .i64 0] 3, .cells #[.int .i64 1] 3, .cells #[.int .i64 0] 3, .cells #[.int .i64 1] 3, insO (h + 7) v, .cells #[.int .i64 2] 3, .cells #[.int .i64 1, .int .i64 2] 3, .cells #[.int .i64 3] 3, .cells #[.int .i64 1] 3, .cells #[.int .i64 3] 3,
   .cells #[.int .i64 1, .slice (some ⟨h + 2, 0, none⟩) 1 1, slN, .int .i64 k, .string ⟨#[]⟩, slN, .int .i64 6, .slice (some ⟨h + 3, 0, none⟩) 1 1, .slice (some ⟨h + 4, 0, none⟩) 1 1, .int .i64 0, .string ⟨#[]⟩, slN,
     .int .i64 8, slN, .slice (some ⟨h + 5, 0, none⟩) 1 1, .int .i64 0, .string ⟨#[105, 110, 116]⟩, slN, .int .i64 1, .slice (some ⟨h + 7, 0, none⟩) 1 1, slN, .int .i64 v, .string ⟨#[]⟩, slN,
     .int .i64 5, slN, .slice (some ⟨h + 8, 0, none⟩) 2 2, .int .i64 a, .string ⟨#[]⟩, slN, .int .i64 4, .slice (some ⟨h + 9, 0, none⟩) 1 1, .slice (some ⟨h + 10, 0, none⟩) 1 1, .int .i64 a, .string ⟨#[]⟩, slN,
     .int .i64 8, slN, .slice (some ⟨h + 11, 0, none⟩) 1 1, .int .i64 0, .string ⟨#[105, 110, 116]⟩, slN, .int .i64 12, slN, slN, .int .i64 0, .string ⟨#[]⟩, slN] 25,
   .cells #[.slice (some ⟨h + 12, 0, none⟩) 8 8] 27, .cells #[.string ⟨#[109, 97, 105, 110]⟩, .int .i64 0, .int .i64 0, .int .i64 4, .int .i64 0, .slice (some ⟨h + 13, 0, none⟩) 1 1] 30,
   .cells #[.slice (some ⟨h + 14, 0, none⟩) 1 1, .slice (some ⟨h, 0, none⟩) 2 2] 33]

structure HeapL (w : World) (h : Nat) (k v a : Int) : Prop where
  at_ : ∀ i o, (heapO h k v a)[i]? = some o → w.heap[h + i]? = some o

theorem i64_small {n : Int} (h0 : 0 ≤ n) (h1 : n ≤ 100) : I64 n := ⟨by omega, by omega⟩

theorem nums1 {w : World} {B g : Nat} {x : Int} {T : TypeId} (h : w.heap[g]? = some (.cells #[.int .i64 x] T)) (hg : g < B) (hx : I64 x) : Nums B w (.slice (some ⟨g, 0, none⟩) 1 1) [x] :=
  nums_block (xs := [x]) h hg (small_len _ (by show 1 ≤ 100; decide)) (by intro y hy; simp at hy; subst hy; exact hx)
theorem nums2 {w : World} {B g : Nat} {x y : Int} {T : TypeId} (h : w.heap[g]? = some (.cells #[.int .i64 x, .int .i64 y] T)) (hg : g < B) (hx : I64 x) (hy : I64 y) : Nums B w (.slice (some ⟨g, 0, none⟩) 2 2) [x, y] :=
  nums_block (xs := [x, y]) h hg (small_len _ (by show 2 ≤ 100; decide)) (by intro z hz; simp at hz; rcases hz with rfl | rfl; exact hx; exact hy)

theorem heap_blk {w : World} {h : Nat} {k v a : Int} (hw : HeapL w h k v a) (hk : I64 k) (hv : I64 v) (ha : I64 a) : Blk (h + 16) w (.slice (some ⟨h + 12, 0, none⟩) 8 8) (heapI k v a) := by
  have z : I64 0 := i64_small (by decide) (by decide)
  have o : I64 1 := i64_small (by decide) (by decide)
  have t : I64 2 := i64_small (by decide) (by decide)
  have t3 : I64 3 := i64_small (by decide) (by decide)
  have h12 := hw.at_ 12 _ rfl
  have n2 : Nums (h + 16) w (.slice (some ⟨h + 2, 0, none⟩) 1 1) [0] := nums1 (hw.at_ 2 _ rfl) (by omega) z
  have n3 : Nums (h + 16) w (.slice (some ⟨h + 3, 0, none⟩) 1 1) [1] := nums1 (hw.at_ 3 _ rfl) (by omega) o
  have n4 : Nums (h + 16) w (.slice (some ⟨h + 4, 0, none⟩) 1 1) [0] := nums1 (hw.at_ 4 _ rfl) (by omega) z
  have n5 : Nums (h + 16) w (.slice (some ⟨h + 5, 0, none⟩) 1 1) [1] := nums1 (hw.at_ 5 _ rfl) (by omega) o
  have n7 : Nums (h + 16) w (.slice (some ⟨h + 7, 0, none⟩) 1 1) [2] := nums1 (hw.at_ 7 _ rfl) (by omega) t
  have n8 : Nums (h + 16) w (.slice (some ⟨h + 8, 0, none⟩) 2 2) [1, 2] := nums2 (hw.at_ 8 _ rfl) (by omega) o t
  have n9 : Nums (h + 16) w (.slice (some ⟨h + 9, 0, none⟩) 1 1) [3] := nums1 (hw.at_ 9 _ rfl) (by omega) t3
  have n10 : Nums (h + 16) w (.slice (some ⟨h + 10, 0, none⟩) 1 1) [1] := nums1 (hw.at_ 10 _ rfl) (by omega) o
  have n11 : Nums (h + 16) w (.slice (some ⟨h + 11, 0, none⟩) 1 1) [3] := nums1 (hw.at_ 11 _ rfl) (by omega) t3
  have n0 := nums_nil (h + 16) w
  have six : ∀ {P : Nat → Prop}, P 0 → P 1 → P 2 → P 3 → P 4 → P 5 → ∀ j, j < 6 → P j := by
    intro P p0 p1 p2 p3 p4 p5 j hj
    match j, hj with
    | 0, _ => exact p0
    | 1, _ => exact p1
    | 2, _ => exact p2
    | 3, _ => exact p3
    | 4, _ => exact p4
    | 5, _ => exact p5
  refine ⟨small_len _ (by show 8 ≤ 100; decide), _, _, rfl, fun _ => ⟨h + 12, 0, rfl, by omega, fun i x hx => ?_⟩⟩
  match i, hx with
  | 0, hx => cases hx; exact ⟨_, rfl, ⟨_, _, _, rfl, n2, n0, n0, Nat.zero_le _, hk⟩, by simp only [cell_at h12]; exact six rfl rfl rfl rfl rfl rfl⟩
  | 1, hx => cases hx; exact ⟨_, rfl, ⟨_, _, _, rfl, n3, n4, n0, Nat.zero_le _, z⟩, by simp only [cell_at h12]; exact six rfl rfl rfl rfl rfl rfl⟩
  | 2, hx => cases hx; exact ⟨_, rfl, ⟨_, _, _, rfl, n0, n5, n0, small_len _ (by decide), z⟩, by simp only [cell_at h12]; exact six rfl rfl rfl rfl rfl rfl⟩
  | 3, hx => cases hx; exact ⟨_, rfl, ⟨_, _, _, rfl, n7, n0, n0, Nat.zero_le _, hv⟩, by simp only [cell_at h12]; exact six rfl rfl rfl rfl rfl rfl⟩
  | 4, hx => cases hx; exact ⟨_, rfl, ⟨_, _, _, rfl, n0, n8, n0, Nat.zero_le _, ha⟩, by simp only [cell_at h12]; exact six rfl rfl rfl rfl rfl rfl⟩
  | 5, hx => cases hx; exact ⟨_, rfl, ⟨_, _, _, rfl, n9, n10, n0, Nat.zero_le _, ha⟩, by simp only [cell_at h12]; exact six rfl rfl rfl rfl rfl rfl⟩
  | 6, hx => cases hx; exact ⟨_, rfl, ⟨_, _, _, rfl, n0, n11, n0, small_len _ (by decide), z⟩, by simp only [cell_at h12]; exact six rfl rfl rfl rfl rfl rfl⟩
  | 7, hx => cases hx; exact ⟨_, rfl, ⟨_, _, _, rfl, n0, n0, n0, Nat.zero_le _, z⟩, by simp only [cell_at h12]; exact six rfl rfl rfl rfl rfl rfl⟩
  | i + 8, hx => simp [heapI] at hx

theorem heap_cods {w : World} {h : Nat} {k v a : Int} (hw : HeapL w h k v a) (hk : I64 k) (hv : I64 v) (ha : I64 a) : Cods (h + 16) w (.slice (some ⟨h + 14, 0, none⟩) 1 1) [heapC k v a] := by
  have h13 := hw.at_ 13 _ rfl
  have h14 := hw.at_ 14 _ rfl
  have hbl : Blks (h + 16) w (.slice (some ⟨h + 13, 0, none⟩) 1 1) [heapI k v a] := by
    refine ⟨small_len _ (by show 1 ≤ 100; decide), _, _, rfl, fun _ => ⟨h + 13, 0, rfl, by omega, fun i x hx => ?_⟩⟩
    match i, hx with
    | 0, hx =>
      cases hx
      refine ⟨_, rfl, ⟨_, rfl, heap_blk hw hk hv ha⟩, fun j hj => ?_⟩
      have : j = 0 := by omega
      subst this
      rw [cell_at h13]
      rfl
    | i + 1, hx => simp at hx
  refine ⟨small_len _ (by show 1 ≤ 100; decide), _, _, rfl, fun _ => ⟨h + 14, 0, rfl, by omega, fun i x hx => ?_⟩⟩
  match i, hx with
  | 0, hx =>
    cases hx
    refine ⟨_, rfl, ⟨_, rfl, hbl, small_len _ (by show 4 ≤ 100; decide), (⟨by decide, by decide⟩ : I64 0), (⟨by decide, by decide⟩ : I64 0), (⟨by decide, by decide⟩ : I64 4)⟩, fun j hj => ?_⟩
    rw [cell_at h14]
    match j, hj with
    | 0, _ => rfl
    | 1, _ => rfl
    | 2, _ => rfl
    | 3, _ => rfl
    | 4, _ => rfl
    | 5, _ => rfl
  | i + 1, hx => simp at hx

theorem heap_checks (k v a : Int) : programF [heapC k v a] 2 = 0 := by
  simp [programF, dupN, atC, codeF, headF, blockF, accW, firstNZ, atF, instrF, countOk, belowB, formB, argsB, endsB, heapC, heapI, wrap64, tInt, tText]

/-! ### what it does -/
def heap0 (room : Nat) (k v a : Int) : Mst := ⟨[1, 2], (room : Int), [], heapI k v a, List.replicate 4 0⟩

theorem heap_small (k v a : Int) (k0 : 1 ≤ k) (k1 : k ≤ 20) (room : Nat) (hr : (room : Int) = 1 + k) : ∃ q', runM 20 (heap0 room k v a) = some (5, q') ∧ q'.lines = [] := by
  have e1 : stepM (heap0 room k v a) = some (0, { heap0 room k v a with next := (heapI k v a).drop 1, vars := [k, 0, 0, 0] }) := rfl
  have ea : allocM { heap0 room k v a with next := (heapI k v a).drop 2, vars := [k, 0, 0, 0] } k = ((0, 5), { heap0 room k v a with next := (heapI k v a).drop 2, vars := [k, 0, 0, 0] }) := by
    unfold allocM
    rw [if_neg (by omega), if_pos (by show wrap64 ((room : Int) - 2) < k; unfold wrap64; omega)]
  have e2 : stepM { heap0 room k v a with next := (heapI k v a).drop 1, vars := [k, 0, 0, 0] } = some (5, { heap0 room k v a with next := (heapI k v a).drop 2, vars := [k, 0, 0, 0] }) := by
    have ev : valueM { heap0 room k v a with next := (heapI k v a).drop 2, vars := [k, 0, 0, 0] } ⟨6, [1], [0], 0, [], []⟩ = some ((0, 5), { heap0 room k v a with next := (heapI k v a).drop 2, vars := [k, 0, 0, 0] }) := by
      rw [← ea]
      show (if _ then none else some _) = _
      rw [if_neg (by show ¬ (20000 < k ∨ 20000 < 2 ∨ (room : Int) < 0 ∨ 20000 < (room : Int)); omega)]
    show stepR { heap0 room k v a with next := (heapI k v a).drop 2, vars := [k, 0, 0, 0] } ⟨6, [1], [0], 0, [], []⟩ = _
    unfold stepR
    rw [ev]
    rfl
  refine ⟨{ heap0 room k v a with next := (heapI k v a).drop 2, vars := [k, 0, 0, 0] }, ?_, rfl⟩
  unfold runM
  rw [e1]
  simp only [beq_self_eq_true, if_true]
  unfold runM
  rw [e2]
  rfl

def heapH (k : Int) : List Int := [1, 2] ++ List.replicate k.toNat 0
def mst (room : Nat) (k v a : Int) (hp : List Int) (i : Nat) (vars : List Int) (lines : List (List UInt8)) : Mst := ⟨hp, (room : Int), lines, (heapI k v a).drop i, vars⟩

theorem heapH_len (k : Int) (k0 : 0 ≤ k) : ((heapH k).length : Int) = 2 + k := by unfold heapH; simp; omega

theorem heap_great (k v a : Int) (k0 : 1 ≤ k) (k1 : k ≤ 20) (a0 : 0 ≤ a) (a1 : a ≤ 40) (room : Nat) (hr : (room : Int) = 2 + k) :
    ∃ q', (if a < k then runM 20 (heap0 room k v a) = some (1, q') ∧ q'.lines = [Lib.itoa 2, Lib.itoa v] else runM 20 (heap0 room k v a) = some (2, q') ∧ q'.lines = [Lib.itoa 2]) := by
  have hlen := heapH_len k (by omega)
  have hw : wrap64 (2 + a) = 2 + a := by unfold wrap64; omega
  have e1 : stepM (heap0 room k v a) = some (0, mst room k v a [1, 2] 1 [k, 0, 0, 0] []) := rfl
  have ea : allocM (mst room k v a [1, 2] 2 [k, 0, 0, 0] []) k = ((2, 0), mst room k v a (heapH k) 2 [k, 0, 0, 0] []) := by
    unfold allocM
    rw [if_neg (by omega), if_neg (by show ¬ wrap64 ((room : Int) - 2) < k; unfold wrap64; omega)]
    rfl
  have e2 : stepM (mst room k v a [1, 2] 1 [k, 0, 0, 0] []) = some (0, mst room k v a (heapH k) 2 [k, 2, 0, 0] []) := by
    have ev : valueM (mst room k v a [1, 2] 2 [k, 0, 0, 0] []) ⟨6, [1], [0], 0, [], []⟩ = some ((2, 0), mst room k v a (heapH k) 2 [k, 0, 0, 0] []) := by
      rw [← ea]
      show (if _ then none else some _) = _
      rw [if_neg (by show ¬ (20000 < k ∨ 20000 < 2 ∨ (room : Int) < 0 ∨ 20000 < (room : Int)); omega)]
    show stepR (mst room k v a [1, 2] 2 [k, 0, 0, 0] []) ⟨6, [1], [0], 0, [], []⟩ = _
    unfold stepR
    rw [ev]
    rfl
  have e3 : stepM (mst room k v a (heapH k) 2 [k, 2, 0, 0] []) = some (0, mst room k v a (heapH k) 3 [k, 2, 0, 0] [Lib.itoa 2]) := rfl
  have e4 : stepM (mst room k v a (heapH k) 3 [k, 2, 0, 0] [Lib.itoa 2]) = some (0, mst room k v a (heapH k) 4 [k, 2, v, 0] [Lib.itoa 2]) := rfl
  have e5 : stepM (mst room k v a (heapH k) 4 [k, 2, v, 0] [Lib.itoa 2]) = some (storeM (mst room k v a (heapH k) 5 [k, 2, v, 0] [Lib.itoa 2]) 2 a v) := rfl
  have hin : inHeap (mst room k v a (heapH k) 5 [k, 2, v, 0] [Lib.itoa 2]) 2 a = decide (a < k) := by
    unfold inHeap
    show (decide (0 ≤ (2 : Int)) && (decide (0 ≤ wrap64 (2 + a)) && decide (wrap64 (2 + a) < ((heapH k).length : Int)))) = _
    rw [hw, hlen]
    have h1 : decide (0 ≤ 2 + a) = true := decide_eq_true (by omega)
    rw [h1]
    by_cases h : a < k
    · have h2 : decide (2 + a < 2 + k) = true := decide_eq_true (by omega)
      rw [h2, decide_eq_true h]; rfl
    · have h2 : decide (2 + a < 2 + k) = false := decide_eq_false (by omega)
      rw [h2, decide_eq_false h]; rfl
  by_cases h : a < k
  · have es : storeM (mst room k v a (heapH k) 5 [k, 2, v, 0] [Lib.itoa 2]) 2 a v = (0, mst room k v a ((heapH k).set (2 + a).toNat v) 5 [k, 2, v, 0] [Lib.itoa 2]) := by
      unfold storeM
      rw [hin, decide_eq_true h, hw]
      rfl
    rw [es] at e5
    have hin2 : inHeap (mst room k v a ((heapH k).set (2 + a).toNat v) 6 [k, 2, v, 0] [Lib.itoa 2]) 2 a = true := by
      unfold inHeap
      show (decide (0 ≤ (2 : Int)) && (decide (0 ≤ wrap64 (2 + a)) && decide (wrap64 (2 + a) < (((heapH k).set (2 + a).toNat v).length : Int)))) = _
      rw [hw, List.length_set, hlen]
      have h1 : decide (0 ≤ 2 + a) = true := decide_eq_true (by omega)
      have h2 : decide (2 + a < 2 + k) = true := decide_eq_true (by omega)
      rw [h1, h2]; rfl
    have el : loadM (mst room k v a ((heapH k).set (2 + a).toNat v) 6 [k, 2, v, 0] [Lib.itoa 2]) 2 a = (v, 0) := by
      unfold loadM
      rw [hin2, hw]
      have hlt : (2 + a).toNat < (heapH k).length := by omega
      show ((((heapH k).set (2 + a).toNat v).getD (2 + a).toNat 0), (0 : Int)) = (v, 0)
      rw [List.getD, List.getElem?_set_self hlt]
      rfl
    have e6 : stepM (mst room k v a ((heapH k).set (2 + a).toNat v) 5 [k, 2, v, 0] [Lib.itoa 2]) = some (0, mst room k v a ((heapH k).set (2 + a).toNat v) 6 [k, 2, v, v] [Lib.itoa 2]) := by
      have ev : valueM (mst room k v a ((heapH k).set (2 + a).toNat v) 6 [k, 2, v, 0] [Lib.itoa 2]) ⟨4, [3], [1], a, [], []⟩ = some ((v, 0), mst room k v a ((heapH k).set (2 + a).toNat v) 6 [k, 2, v, 0] [Lib.itoa 2]) := by
        show some (loadM (mst room k v a ((heapH k).set (2 + a).toNat v) 6 [k, 2, v, 0] [Lib.itoa 2]) 2 a, _) = _
        rw [el]
      show stepR (mst room k v a ((heapH k).set (2 + a).toNat v) 6 [k, 2, v, 0] [Lib.itoa 2]) ⟨4, [3], [1], a, [], []⟩ = _
      unfold stepR
      rw [ev]
      rfl
    have e7 : stepM (mst room k v a ((heapH k).set (2 + a).toNat v) 6 [k, 2, v, v] [Lib.itoa 2]) = some (0, mst room k v a ((heapH k).set (2 + a).toNat v) 7 [k, 2, v, v] [Lib.itoa 2, Lib.itoa v]) := rfl
    have e8 : stepM (mst room k v a ((heapH k).set (2 + a).toNat v) 7 [k, 2, v, v] [Lib.itoa 2, Lib.itoa v]) = some (1, mst room k v a ((heapH k).set (2 + a).toNat v) 8 [k, 2, v, v] [Lib.itoa 2, Lib.itoa v]) := rfl
    refine ⟨mst room k v a ((heapH k).set (2 + a).toNat v) 8 [k, 2, v, v] [Lib.itoa 2, Lib.itoa v], ?_⟩
    rw [if_pos h]
    refine ⟨?_, rfl⟩
    unfold runM; rw [e1]; simp only [beq_self_eq_true, if_true]
    unfold runM; rw [e2]; simp only [beq_self_eq_true, if_true]
    unfold runM; rw [e3]; simp only [beq_self_eq_true, if_true]
    unfold runM; rw [e4]; simp only [beq_self_eq_true, if_true]
    unfold runM; rw [e5]; simp only [beq_self_eq_true, if_true]
    unfold runM; rw [e6]; simp only [beq_self_eq_true, if_true]
    unfold runM; rw [e7]; simp only [beq_self_eq_true, if_true]
    unfold runM; rw [e8]; rfl
  · have es : storeM (mst room k v a (heapH k) 5 [k, 2, v, 0] [Lib.itoa 2]) 2 a v = (2, mst room k v a (heapH k) 5 [k, 2, v, 0] [Lib.itoa 2]) := by
      unfold storeM
      rw [hin, decide_eq_false h]
      rfl
    rw [es] at e5
    refine ⟨mst room k v a (heapH k) 5 [k, 2, v, 0] [Lib.itoa 2], ?_⟩
    rw [if_neg h]
    refine ⟨?_, rfl⟩
    unfold runM; rw [e1]; simp only [beq_self_eq_true, if_true]
    unfold runM; rw [e2]; simp only [beq_self_eq_true, if_true]
    unfold runM; rw [e3]; simp only [beq_self_eq_true, if_true]
    unfold runM; rw [e4]; simp only [beq_self_eq_true, if_true]
    unfold runM; rw [e5]; rfl

end Go.Proofs.YtbpnfoihonehgadDoor
