/-
  Package ssa: the look for an order (orderOf) in memory: a look at a place, a block that leaves the way, a block that is in order.
-/
import Derived.Test.YtjdedfgdofceeaaSbH
namespace Go.Proofs.Ytjdedfgdofceeaa
open Go.RowKit
set_option linter.unusedSimpArgs false
set_option linter.unusedVariables false

def lkL (n : Nat) (f : Nat → Nat) : List Int := (List.range n).map fun i => ((f i : Nat) : Int)
theorem lkL_len (n : Nat) (f : Nat → Nat) : (lkL n f).length = n := by simp [lkL]
theorem lkL_get {n i : Nat} (f : Nat → Nat) (h : i < n) : (numsL (lkL n f))[i]? = some (.int .i64 ((f i : Nat) : Int)) := by
  refine numsL_get _ _ _ ?_
  unfold lkL; rw [List.getElem?_map, List.getElem?_range h]; rfl
theorem lkL_set {n i : Nat} (f : Nat → Nat) (h : i < n) : (numsL (lkL n f)).set i (.int .i64 ((f i : Nat) + 1 : Int)) = numsL (lkL n (lookAt f i)) := by
  refine List.ext_getElem? fun k => ?_
  by_cases hk : k < n
  · by_cases e : i = k
    · subst e
      rw [List.getElem?_set_self (by rw [numsL_len, lkL_len]; exact h), lkL_get _ hk]; unfold lookAt; rw [if_pos rfl]; simp
    · rw [List.getElem?_set_ne e, lkL_get _ hk, lkL_get _ hk]; unfold lookAt; rw [if_neg (fun h => e h.symm)]
  · rw [List.getElem?_eq_none (by rw [List.length_set, numsL_len, lkL_len]; omega), List.getElem?_eq_none (by rw [numsL_len, lkL_len]; omega)]
theorem lkL_zero (n : Nat) : numsL (lkL n (fun _ => 0)) = List.replicate n (.int .i64 0) := by
  unfold numsL lkL; rw [List.map_map]; refine List.ext_getElem? fun k => ?_
  by_cases hk : k < n
  · rw [List.getElem?_map, List.getElem?_range hk, List.getElem?_replicate, if_pos hk]; rfl
  · rw [List.getElem?_eq_none (by simp; omega), List.getElem?_eq_none (by simp; omega)]

/-- how many places have not been looked at -/
def leftL (L : List (List Int)) : Nat → (Nat → Nat) → Nat
  | 0, _ => 0
  | n + 1, f => leftL L n f + ((L.getD n []).length - f n)
theorem leftL_off {L : List (List Int)} {b : Nat} (f : Nat → Nat) : ∀ n, n ≤ b → leftL L n (lookAt f b) = leftL L n f
  | 0, _ => rfl
  | n + 1, h => by
    unfold leftL
    rw [leftL_off f n (by omega)]
    have : lookAt f b n = f n := by unfold lookAt; rw [if_neg (by omega)]
    rw [this]
theorem leftL_look {L : List (List Int)} {b : Nat} (f : Nat → Nat) (hb : f b < (L.getD b []).length) : ∀ n, b < n → leftL L n (lookAt f b) + 1 = leftL L n f
  | 0, h => by omega
  | n + 1, h => by
    unfold leftL
    by_cases e : n = b
    · subst e
      rw [leftL_off f n (Nat.le_refl _)]
      have : lookAt f n n = f n + 1 := by unfold lookAt; rw [if_pos rfl]
      rw [this]
      omega
    · have : lookAt f b n = f n := by unfold lookAt; rw [if_neg e]
      rw [this, ← leftL_look f hb n (by omega)]
      omega

variable {w wr w' w1 : World} {n S M : Nat} {vL vw vo : Value} {way order lk : List Int} {met : Nat → Bool}

theorem OD.look? {f : Nat → Nat} (h : OD wr n S M vL vw vo way order (lkL n f) met) {i : Nat} (hi : i < n) : wr.cell? ⟨M + 1, i, none⟩ = some (.int .i64 ((f i : Nat) : Int)) ∧ wr.frozen? ⟨M + 1, i, none⟩ = false := by
  obtain ⟨g, c, he, _, _, _, _, hfz, hat⟩ := own_at h.rK (by omega)
  cases he
  exact ⟨hat i _ (lkL_get f hi), hfz i⟩

theorem OD.looked {f : Nat → Nat} (h : OD wr n S M vL vw vo way order (lkL n f) met) {i : Nat} (hi : i < n) : OD (wr.setCell ⟨M + 1, i, none⟩ (.int .i64 ((f i : Nat) + 1 : Int))) n S M vL vw vo way order (lkL n (lookAt f i)) met := by
  have hs := h.sz
  have hm := h.lt
  have hk : ∀ k, k ≠ M + 1 → (wr.setCell ⟨M + 1, i, none⟩ (.int .i64 ((f i : Nat) + 1 : Int))).heap[k]? = wr.heap[k]? := fun k hk => Below.heap_setCell _ _ _ _ hk
  have h1 := own_set h.rK i (.int .i64 ((f i : Nat) + 1 : Int)) (by omega)
  rw [lkL_set f hi] at h1
  refine ⟨(hk _ (by omega)).trans h.bL, (hk _ (by omega)).trans h.bW, (hk _ (by omega)).trans h.bM, own_same h.rM fun g hg => hk g ?_, h1, own_same h.rW fun g hg => hk g ?_, own_same h.rO fun g hg => hk g ?_, h.wo, by simpa [World.setCell] using hs, h.lt⟩
  · have : g = S + 2 := by simpa [Value.ownBlock] using hg.symm
    omega
  · have := (own_lt h.rW hg).1; omega
  · have := (own_lt h.rO hg).1; omega

/-- the last one of the way -/
theorem OD.top {ws : List Int} {b : Int} (h : OD wr n S M vL vw vo (ws ++ [b]) order lk met) : ∃ g c, vw = .slice (some ⟨g, 0, none⟩) (ws.length + 1) c ∧ M + 2 ≤ g ∧ wr.cell? ⟨g, ws.length, none⟩ = some (.int .i64 b) := by
  obtain ⟨g, c, he, hg, _, _, _, _, hat⟩ := own_at h.rW (by simp)
  refine ⟨g, c, by simpa using he, hg, hat _ _ (numsL_get _ _ b (by simp))⟩

theorem OD.pop {ws : List Int} {b : Int} {g c : Nat} (h : OD wr n S M vL (.slice (some ⟨g, 0, none⟩) (ws.length + 1) c) vo (ws ++ [b]) order lk met) :
    OD (wr.setCell ⟨S + 1, 0, none⟩ (.slice (some ⟨g, 0, none⟩) ws.length c)) n S M vL (.slice (some ⟨g, 0, none⟩) ws.length c) vo ws order lk met := by
  have hs := h.sz
  have hm := h.lt
  have hk : ∀ k, k ≠ S + 1 → (wr.setCell ⟨S + 1, 0, none⟩ (.slice (some ⟨g, 0, none⟩) ws.length c)).heap[k]? = wr.heap[k]? := fun k hk => Below.heap_setCell _ _ _ _ hk
  have hW := h.rW
  rw [List.length_append, List.length_singleton] at hW
  have hc := own_cut hW (k := ws.length) (by omega)
  have e : (numsL (ws ++ [b])).take (ws.length * 1) = numsL ws := by
    rw [← numsL_append, Nat.mul_one, List.take_append_of_le_length (by rw [numsL_len]; omega), List.take_of_length_le (by rw [numsL_len]; omega)]
  rw [e] at hc
  refine ⟨(hk _ (by omega)).trans h.bL, ?_, (hk _ (by omega)).trans h.bM, own_same h.rM fun g hg => hk g ?_, own_same h.rK fun g hg => hk g ?_, own_same hc fun g hg => hk g ?_, own_same h.rO fun g hg => hk g ?_, fun g hg => h.wo g hg, by simpa [World.setCell] using hs, h.lt⟩
  · have := heap_setCell_same (o := 0) h.bW (.slice (some ⟨g, 0, none⟩) ws.length c)
    simpa using this
  · have : g = S + 2 := by simpa [Value.ownBlock] using hg.symm
    omega
  · have : g = M + 1 := by simpa [Value.ownBlock] using hg.symm
    omega
  · have := (own_lt hc hg).1; omega
  · have := (own_lt h.rO hg).1; omega

/-- a block is in order -/
theorem OD.out (h : OD wr n S M vL vw vo way order lk met) {vo' : Value} {x : Int} (hg : wr.grownBy w1 vo.ownBlock) (hat : vo'.ownBlock = vo.ownBlock ∨ vo'.ownBlock = some wr.heap.size) (ho : w1.ownsRow (M + 2) 3 1 vo' (order.length + 1) (numsL order ++ [numV x])) :
    OD w1 n S M vL vw vo' way (order ++ [x]) lk met := by
  have hs := h.sz
  have hm := h.lt
  have hb : ∀ k, k < wr.heap.size → (∀ g, vo.ownBlock = some g → g ≠ k) → w1.heap[k]? = wr.heap[k]? := fun k h1 h3 => hg.block k h1 fun e => h3 k e.symm rfl
  have hl : ∀ k, k < M + 2 → w1.heap[k]? = wr.heap[k]? := fun k h1 => hb k (by omega) fun g hgg e => by have := (own_lt h.rO hgg).1; omega
  refine ⟨(hl _ (by omega)).trans h.bL, (hl _ (by omega)).trans h.bW, (hl _ (by omega)).trans h.bM, own_same h.rM fun g hgg => ?_, own_same h.rK fun g hgg => ?_, own_same h.rW fun g hgg => ?_, ?_, fun g hgg e => ?_, by have := hg.size; omega, h.lt⟩
  · have : g = S + 2 := by simpa [Value.ownBlock] using hgg.symm
    exact hl g (by omega)
  · have : g = M + 1 := by simpa [Value.ownBlock] using hgg.symm
    exact hl g (by omega)
  · exact hb g (own_lt h.rW hgg).2 fun g' hg' e => h.wo g hgg (by rw [← e]; exact hg')
  · rw [List.length_append, ← numsL_append]; exact ho
  · rcases hat with e2 | e2
    · exact h.wo g hgg (by rw [← e2]; exact e)
    · rw [e2] at e
      have := (own_lt h.rW hgg).2
      have : wr.heap.size = g := by simpa using e
      omega

end Go.Proofs.Ytjdedfgdofceeaa
