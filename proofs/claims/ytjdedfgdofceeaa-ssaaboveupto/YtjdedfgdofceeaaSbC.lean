/-
  Package posternref: which blocks can be done without one (doneWithout).
-/
import Derived.Test.YtjdedfgdofceeaaSaD
import Derived.Test.YtjdedfgdofceeaaSbB
namespace Go.Proofs.Ytjdedfgdofceeaa
open Go.RowKit
set_option linter.unusedSimpArgs false
set_option linter.unusedVariables false

theorem in_one (n a b : Int) (w : World) : Calls Try.prog 32 #[.int .i64 n, .int .i64 a, .int .i64 b] w fun e w' => e = .returned (.bool (decide (a ≤ n) && decide (n ≤ b))) ∧ w' = w := by
  by_cases h1 : a ≤ n
  · have h1' : n ≥ a := h1
    by_cases h2 : n ≤ b <;>
      (go_enter Try.func32, Try.ntmps32
       go_wp2_with fail
       go_ret
       exact ⟨by simp [h1, h2], rfl⟩)
  · have h1' : ¬ n ≥ a := h1
    go_enter Try.func32, Try.ntmps32
    go_wp2_with fail
    go_ret
    exact ⟨by simp; omega, rfl⟩

theorem infoBool : (Try.prog.info? 4).map (fun i => (i.zero, i.size, i.bytes)) = some (some (.bool false), 1, 1) := by kernel_rfl

def bools (n : Nat) (f : Nat → Bool) : List Value := (List.range n).map fun i => .bool (f i)
theorem bools_len (n : Nat) (f : Nat → Bool) : (bools n f).length = n := by simp [bools]
theorem bools_get {n i : Nat} (f : Nat → Bool) (h : i < n) : (bools n f)[i]? = some (.bool (f i)) := by
  unfold bools; rw [List.getElem?_map, List.getElem?_range h]; rfl
theorem bools_set {n i : Nat} (f : Nat → Bool) (h : i < n) : (bools n f).set i (.bool true) = bools n (metAt f i) := by
  refine List.ext_getElem? fun k => ?_
  by_cases hk : k < n
  · by_cases e : i = k
    · subst e
      rw [List.getElem?_set_self (by rw [bools_len]; exact h), bools_get _ hk]; unfold metAt; rw [if_pos rfl]
    · rw [List.getElem?_set_ne e, bools_get _ hk, bools_get _ hk]; unfold metAt; rw [if_neg (fun h => e h.symm)]
  · rw [List.getElem?_eq_none (by rw [List.length_set, bools_len]; omega), List.getElem?_eq_none (by rw [bools_len]; omega)]
theorem bools_none (n : Nat) : bools n (fun _ => false) = List.replicate n (.bool false) := by
  unfold bools; rw [List.map_const', List.length_range]

/-- how many have not been met -/
def unseen : Nat → (Nat → Bool) → Nat
  | 0, _ => 0
  | n + 1, f => unseen n f + if f n then 0 else 1
theorem unseen_off {y : Nat} (f : Nat → Bool) : ∀ n, n ≤ y → unseen n (metAt f y) = unseen n f
  | 0, _ => rfl
  | n + 1, h => by
    unfold unseen
    rw [unseen_off f n (by omega)]
    have : metAt f y n = f n := by unfold metAt; rw [if_neg (by omega)]
    rw [this]
theorem unseen_met {y : Nat} (f : Nat → Bool) (hf : f y = false) : ∀ n, y < n → unseen n (metAt f y) + 1 = unseen n f
  | 0, h => by omega
  | n + 1, h => by
    unfold unseen
    by_cases e : n = y
    · subst e
      rw [unseen_off f n (Nat.le_refl _), hf]
      have : metAt f n n = true := by unfold metAt; rw [if_pos rfl]
      rw [this]
      simp
    · have : metAt f y n = f n := by unfold metAt; rw [if_neg e]
      rw [this, ← unseen_met f hf n (by omega)]
      omega
theorem unseen_le (f : Nat → Bool) : ∀ n, unseen n f ≤ n
  | 0 => Nat.le_refl _
  | n + 1 => by unfold unseen; have := unseen_le f n; split <;> omega

/-- what has been met can be done without that block -/
structure Fill (L : List (List Int)) (out : Int) (f : Nat → Bool) : Prop where
  zero : f 0 = true
  way : ∀ x, f x = true → x < L.length ∧ Wy (preL L) (fun y => (y : Int) = out) x
def Shut (L : List (List Int)) (out : Int) (f : Nat → Bool) (l : List Int) : Prop := ∀ y : Nat, (y : Int) ∈ l → y < L.length → (y : Int) ≠ out → f y = true

theorem Fill.start {L : List (List Int)} {out : Int} (h : out ≠ 0) (hn : 0 < L.length) : Fill L out (metAt (fun _ => false) 0) := by
  refine ⟨by unfold metAt; rw [if_pos rfl], fun x hx => ?_⟩
  unfold metAt at hx
  split at hx
  · subst_vars; exact ⟨hn, .start fun e => h e.symm⟩
  · cases hx
theorem Fill.more {L : List (List Int)} {out : Int} {f : Nat → Bool} {a y : Nat} (h : Fill L out f) (ha : f a = true) (hy : (y : Int) ∈ L.getD a []) (hl : y < L.length) (ho : (y : Int) ≠ out) : Fill L out (metAt f y) := by
  refine ⟨?_, fun x hx => ?_⟩
  · unfold metAt; split
    · rfl
    · exact h.zero
  · unfold metAt at hx
    split at hx
    · subst_vars
      have := h.way a ha
      exact ⟨hl, .step this.2 (mem_preL.2 ⟨hl, this.1, hy⟩) ho⟩
    · exact h.way x hx
theorem Fill.end {L : List (List Int)} {out : Int} {f : Nat → Bool} (h : Fill L out f) (hs : ∀ x, x < L.length → f x = true → Shut L out f (L.getD x [])) (x : Nat) : f x = true ↔ Wy (preL L) (fun y => (y : Int) = out) x := by
  refine ⟨fun hx => (h.way x hx).2, fun hx => ?_⟩
  induction hx with
  | start _ => exact h.zero
  | step hw ha hk ih =>
    obtain ⟨hb, ha', hc⟩ := mem_preL.1 ha
    exact hs _ ha' ih _ hc hb hk

/-- what the loops keep -/
structure DW (w wr : World) (n gB : Nat) (hd : Array Value) (f : Nat → Bool) : Prop where
  row : wr.ownsRow (w.heap.size + 1) 4 1 (.slice (some ⟨gB, 0, none⟩) n n) n (bools n f)
  blk : wr.heap[w.heap.size]? = some (.cells hd 24)
  bel : Below w.heap.size w wr

theorem DW.get {w wr : World} {n gB : Nat} {hd : Array Value} {f : Nat → Bool} (h : DW w wr n gB hd f) {i : Nat} (hi : i < n) : wr.cell? ⟨gB, i, none⟩ = some (.bool (f i)) ∧ wr.frozen? ⟨gB, i, none⟩ = false := by
  obtain ⟨g, c, he, _, _, _, _, hfz, hat⟩ := own_at h.row (by omega)
  cases he
  exact ⟨hat i _ (bools_get f hi), hfz i⟩
theorem DW.put {w wr : World} {n gB : Nat} {hd : Array Value} {f : Nat → Bool} (h : DW w wr n gB hd f) {i : Nat} (hi : i < n) : DW w (wr.setCell ⟨gB, i, none⟩ (.bool true)) n gB hd (metAt f i) := by
  have hg := own_lt h.row (g := gB) rfl
  have h1 := own_set h.row i (.bool true) (by omega)
  rw [bools_set f hi] at h1
  have hk : ∀ k, k ≠ gB → (wr.setCell ⟨gB, i, none⟩ (.bool true)).heap[k]? = wr.heap[k]? := fun k hk => Below.heap_setCell _ _ _ _ hk
  refine ⟨h1, (hk _ (by omega)).trans h.blk, h.bel.os, h.bel.tape, h.bel.output, ?_, fun k hkN => (hk k (by omega)).trans (h.bel.block k hkN)⟩
  have := h.bel.size
  simpa [World.setCell] using this

end Go.Proofs.Ytjdedfgdofceeaa
