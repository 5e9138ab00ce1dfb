/-
  Package ssa: the look for an order (orderOf) in memory; a block comes on the way.
-/
import Derived.Test.YtjdedfgdofceeaaSbC
import Derived.Test.YtjdedfgdofceeaaSaE
namespace Go.Proofs.Ytjdedfgdofceeaa
open Go.RowKit
set_option linter.unusedSimpArgs false
set_option linter.unusedVariables false

theorem own_base' {w : World} {base base' size n : Nat} {e : TypeId} {v : Value} {xs : List Value} (h : w.ownsRow base e size v n xs) (hb : base' ≤ base) : w.ownsRow base' e size v n xs := by
  refine ⟨h.1, ?_⟩
  rcases h.2 with h2 | ⟨g, cap, cur, h1, h2, h3⟩
  · exact .inl h2
  · exact .inr ⟨g, cap, cur, h1, Nat.le_trans hb h2, h3⟩

/-- the look for an order in memory: S: the size of the heap at its start -/
structure OD (wr : World) (n S M : Nat) (vL vw vo : Value) (way order lk : List Int) (met : Nat → Bool) : Prop where
  bL : wr.heap[S]? = some (.cells #[vL] 25)
  bW : wr.heap[S + 1]? = some (.cells #[vw] 31)
  bM : wr.heap[M]? = some (.cells #[.slice (some ⟨S + 2, 0, none⟩) n n] 50)
  rM : wr.ownsRow (S + 2) 4 1 (.slice (some ⟨S + 2, 0, none⟩) n n) n (bools n met)
  rK : wr.ownsRow (M + 1) 3 1 (.slice (some ⟨M + 1, 0, none⟩) n n) n (numsL lk)
  rW : wr.ownsRow (M + 2) 3 1 vw way.length (numsL way)
  rO : wr.ownsRow (M + 2) 3 1 vo order.length (numsL order)
  wo : ∀ g, vw.ownBlock = some g → vo.ownBlock ≠ some g
  sz : M + 2 ≤ wr.heap.size
  lt : S + 2 < M

variable {w wr w' w1 : World} {n S M : Nat} {vL vw vo : Value} {way order lk : List Int} {met : Nat → Bool}

theorem OD.keep (h : OD wr n S M vL vw vo way order lk met) (k : Below wr.heap.size wr w') : OD w' n S M vL vw vo way order lk met := by
  have hs := h.sz
  have hm := h.lt
  refine ⟨(k.block _ (by omega)).trans h.bL, (k.block _ (by omega)).trans h.bW, (k.block _ (by omega)).trans h.bM, own_same h.rM fun g hg => k.block g (own_lt h.rM hg).2, own_same h.rK fun g hg => k.block g (own_lt h.rK hg).2, own_same h.rW fun g hg => k.block g (own_lt h.rW hg).2, own_same h.rO fun g hg => k.block g (own_lt h.rO hg).2, h.wo, by have := k.size; omega, h.lt⟩

theorem OD.meet (h : OD wr n S M vL vw vo way order lk met) {i : Nat} (hi : i < n) : OD (wr.setCell ⟨S + 2, i, none⟩ (.bool true)) n S M vL vw vo way order lk (metAt met i) := by
  have hs := h.sz
  have hm := h.lt
  have hk : ∀ k, k ≠ S + 2 → (wr.setCell ⟨S + 2, i, none⟩ (.bool true)).heap[k]? = wr.heap[k]? := fun k hk => Below.heap_setCell _ _ _ _ hk
  have h1 := own_set h.rM i (.bool true) (by omega)
  rw [bools_set met hi] at h1
  refine ⟨(hk _ (by omega)).trans h.bL, (hk _ (by omega)).trans h.bW, (hk _ (by omega)).trans h.bM, h1, own_same h.rK fun g hg => hk g ?_, own_same h.rW fun g hg => hk g ?_, own_same h.rO fun g hg => hk g ?_, h.wo, by simpa [World.setCell] using hs, h.lt⟩
  · have := (own_lt h.rK hg).1; omega
  · have := (own_lt h.rW hg).1; omega
  · have := (own_lt h.rO hg).1; omega

/-- the way grows by one -/
theorem OD.come (h : OD wr n S M vL vw vo way order lk met) {vw' : Value} {x : Int} (hg : wr.grownBy w1 vw.ownBlock) (hat : vw'.ownBlock = vw.ownBlock ∨ vw'.ownBlock = some wr.heap.size) (ho : w1.ownsRow (M + 2) 3 1 vw' (way.length + 1) (numsL way ++ [numV x])) :
    OD (w1.setCell ⟨S + 1, 0, none⟩ vw') n S M vL vw' vo (way ++ [x]) order lk met := by
  have hs := h.sz
  have hm := h.lt
  have hk : ∀ k, k ≠ S + 1 → (w1.setCell ⟨S + 1, 0, none⟩ vw').heap[k]? = w1.heap[k]? := fun k hk => Below.heap_setCell _ _ _ _ hk
  have hw : ∀ g, vw.ownBlock = some g → M + 2 ≤ g := fun g hg => (own_lt h.rW hg).1
  have hb : ∀ k, k < wr.heap.size → k ≠ S + 1 → (∀ g, vw.ownBlock = some g → g ≠ k) → (w1.setCell ⟨S + 1, 0, none⟩ vw').heap[k]? = wr.heap[k]? := fun k h1 h2 h3 => (hk k h2).trans (hg.block k h1 fun e => h3 k e.symm rfl)
  have hl : ∀ k, k < M + 2 → k ≠ S + 1 → (w1.setCell ⟨S + 1, 0, none⟩ vw').heap[k]? = wr.heap[k]? := fun k h1 h2 => hb k (by omega) h2 fun g hgg e => by have := hw g hgg; omega
  have hb1 : w1.heap[S + 1]? = some (.cells #[vw] 31) := (hg.block _ (by omega) fun e => by have := hw _ e.symm; omega).trans h.bW
  refine ⟨(hl _ (by omega) (by omega)).trans h.bL, ?_, (hl _ (by omega) (by omega)).trans h.bM, own_same h.rM fun g hgg => ?_, own_same h.rK fun g hgg => ?_, ?_, own_same h.rO fun g hgg => ?_, fun g hgg e => ?_, by have := hg.size; simp [World.setCell]; omega, h.lt⟩
  · have := heap_setCell_same (o := 0) hb1 vw'
    simpa using this
  · have : g = S + 2 := by simpa [Value.ownBlock] using hgg.symm
    exact hl g (by omega) (by omega)
  · have : g = M + 1 := by simpa [Value.ownBlock] using hgg.symm
    exact hl g (by omega) (by omega)
  · rw [List.length_append, ← numsL_append]
    refine own_same ho fun g hgg => hk g ?_
    have := (own_lt ho hgg).1
    omega
  · have := own_lt h.rO hgg
    exact hb g this.2 (by omega) fun g' hg' e => h.wo g' hg' (by rw [e]; exact hgg)
  · rcases hat with e2 | e2
    · exact h.wo g (by rw [← e2]; exact hgg) e
    · rw [e2] at hgg
      have := (own_lt h.rO e).2
      have : wr.heap.size = g := by simpa using hgg
      omega

theorem OD.met? (h : OD wr n S M vL vw vo way order lk met) {i : Nat} (hi : i < n) : wr.cell? ⟨S + 2, i, none⟩ = some (.bool (met i)) ∧ wr.frozen? ⟨S + 2, i, none⟩ = false := by
  obtain ⟨g, c, he, _, _, _, _, hfz, hat⟩ := own_at h.rM (by omega)
  cases he
  exact ⟨hat i _ (bools_get met hi), hfz i⟩

end Go.Proofs.Ytjdedfgdofceeaa
