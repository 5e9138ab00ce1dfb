/-
  Rows that grow by whole elements, and a block of statements.
-/
import Derived.Test.YtgifghcaeoinoaaDoorReE
namespace Go.Proofs.YtgifghcaeoinoaaDoor
open Go.RowKit
set_option linter.unusedSimpArgs false
set_option linter.unusedVariables false

/-- a row of the call's own, m cells an element, which grows -/
def Grow {B : Type} (A : (Nat → Prop) → World → Value → B → Prop) (e : TypeId) (m base : Nat) (w : World) (v : Value) (vs : List Value) (xs : List B) : Prop :=
  w.ownsRow base e m v xs.length (flat vs) ∧ AllP (A (fun g => base ≤ g ∧ v.ownBlock ≠ some g) w) vs xs

def Moves {B : Type} (A : (Nat → Prop) → World → Value → B → Prop) : Prop :=
  ∀ (S S' : Nat → Prop) (w w' : World) (v : Value) (x : B), A S w v x → (∀ g, S g → g < w.heap.size → S' g ∧ w'.heap[g]? = w.heap[g]?) → A S' w' v x

theorem moves_AnS : Moves AnS := fun _ _ _ _ _ _ h k => h.move k

theorem Grow.nil {B : Type} (A : (Nat → Prop) → World → Value → B → Prop) (e : TypeId) (m base : Nat) (w : World) : Grow A e m base w (.slice none 0 0) [] [] := ⟨World.ownsRow_nil _ _ _ _, trivial⟩

theorem Grow.kept {B : Type} {A : (Nat → Prop) → World → Value → B → Prop} (hA : Moves A) {e : TypeId} {m base b : Nat} {w w' : World} {v : Value} {vs : List Value} {xs : List B} (h : Grow A e m base w v vs xs) (k : Kept b w w') (hb : b < base) : Grow A e m base w' v vs xs :=
  ⟨ownsRow_kept h.1 k hb, h.2.imp fun u x hx => hA _ _ _ _ _ _ hx fun g hg hlt => ⟨hg, k.block g hlt (by omega)⟩⟩

theorem Grow.slice {B : Type} {A : (Nat → Prop) → World → Value → B → Prop} {e : TypeId} {m base : Nat} {w : World} {v : Value} {vs : List Value} {xs : List B} (h : Grow A e m base w v vs xs) : ∃ a c, v = .slice a xs.length c := ownsRow_slice h.1

theorem Grow.snoc {B : Type} {A : (Nat → Prop) → World → Value → B → Prop} (hA : Moves A) {e : TypeId} {m base z g cp : Nat} {w1 wa w2 : World} {v : Value} {vs ys : List Value} {xs : List B} {x : B} (h : Grow A e m base w1 v vs xs)
    (hx : A (fun g => z ≤ g) w1 (.agg ys.toArray) x) (hz : base ≤ z) (hv : ∀ k, v.ownBlock = some k → k < z) (hf : flat [.agg ys.toArray] = ys) (hbl : ∀ k, k < w1.heap.size → wa.heap[k]? = w1.heap[k]?) (hs : w1.heap.size ≤ wa.heap.size)
    (hg : wa.grownBy w2 v.ownBlock) (hat : v.ownBlock = some g ∨ g = wa.heap.size) (ho : w2.ownsRow base e m (.slice (some ⟨g, 0, none⟩) (xs.length + 1) cp) (xs.length + 1) (flat vs ++ ys)) :
    Grow A e m base w2 (.slice (some ⟨g, 0, none⟩) (xs.length + 1) cp) (vs ++ [.agg ys.toArray]) (xs ++ [x]) := by
  have keep : ∀ k, k < w1.heap.size → v.ownBlock ≠ some k → k ≠ g ∧ w2.heap[k]? = w1.heap[k]? := by
    intro k hk hne
    refine ⟨?_, ?_⟩
    · rintro rfl
      rcases hat with h | h
      · exact hne h
      · omega
    · rw [hg.block k (by omega) (fun e => hne e.symm), hbl k hk]
  refine ⟨?_, ?_⟩
  · simp only [List.length_append, List.length_cons, List.length_nil, flat_append, hf]
    exact ho
  · refine AllP.snoc ?_ (h.2.imp fun u y hu => ?_)
    · refine hA _ _ _ _ _ _ hx fun k hk hlt => ?_
      have := keep k hlt (fun e => by have := hv k e; omega)
      exact ⟨⟨by omega, by simp [Value.ownBlock]; exact fun e => this.1 e.symm⟩, this.2⟩
    · refine hA _ _ _ _ _ _ hu fun k hk hlt => ?_
      have := keep k hlt hk.2
      exact ⟨⟨hk.1, by simp [Value.ownBlock]; exact fun e => this.1 e.symm⟩, this.2⟩

theorem Grow.row {B : Type} {A : (Nat → Prop) → World → Value → B → Prop} (hA : Moves A) {e : TypeId} {m base z : Nat} {w : World} {v : Value} {vs : List Value} {xs : List B} (h : Grow A e m base w v vs xs) (hz : z ≤ base) :
    Row (fun g => z ≤ g) w (A (fun g => z ≤ g) w) v xs :=
  ⟨vs, row_of_owns h.1 _ (fun g hg => by omega), h.2.imp fun u x hx => hA _ _ _ _ _ _ hx fun g hg _ => ⟨by omega, rfl⟩⟩

theorem kept_grown {b : Nat} {w0 wa w2 : World} {o : Option Nat} (hk : Kept b w0 wa) (hg : wa.grownBy w2 o) (ho : ∀ k, o = some k → w0.heap.size ≤ k) : Kept b w0 w2 :=
  ⟨hg.os.trans hk.os, hg.tape.trans hk.tape, hg.output.trans hk.output, Nat.le_trans hk.size hg.size, fun k hlt hb => (hg.block k (Nat.lt_of_lt_of_le hlt hk.size) (fun e => by have := ho k e.symm; omega)).trans (hk.block k hlt hb)⟩

theorem rdr_grown {b bp cap T z : Nat} {ps : List Tok} {q : RS} {wa w2 : World} {o : Option Nat} (h : Rdr wa b bp cap T ps q) (hg : wa.grownBy w2 o) (ho : ∀ k, o = some k → z ≤ k) (hb : b < z) (hp : bp < z) : Rdr w2 b bp cap T ps q := by
  have hfar := h.far
  have keep : ∀ k, k < wa.heap.size → k < z → w2.heap[k]? = wa.heap[k]? := fun k h1 h2 => hg.block k h1 (fun e => by have := ho k e.symm; omega)
  refine ⟨by rw [keep b h.bsize hb]; exact h.blk, ?_, h.ne, Nat.lt_of_lt_of_le h.lt hg.size, h.nx, h.len, h.dp, h.tab.same (fun g hgs hlt => keep g hgs (by omega)), h.far, h.fin⟩
  intro i hi
  have := h.row i hi
  have e := fun j => World.cell?_of_block (w := wa) (w' := w2) (a := ⟨bp, j, none⟩) (keep bp h.lt hp)
  simp only [e]
  exact this

theorem infoStmt : (Tryd.prog.info? 39).map (fun i => (i.zero, i.size, i.bytes)) = some (some (.agg #[.int .i64 0, .string ⟨#[]⟩, .string ⟨#[]⟩, .slice none 0 0, .slice none 0 0, .slice none 0 0, .slice none 0 0]), 7, 136) := by kernel_rfl

/-- what holds ahead of each round: the statements so far -/
structure BlkI (w : World) (b bp cap T : Nat) (ps : List Tok) (q : RS) (v : Value) (acc : List St) (n : Nat) (wr : World) : Prop where
  kp : Kept b w wr
  sz : w.heap.size < wr.heap.size
  cr : wr.heap[w.heap.size]? = some (.cells #[.pointer (some ⟨b, 0, none⟩)] 50 (0, 0))
  gr : ∃ vs, Grow AnS 39 7 (w.heap.size + 1) wr v vs acc
  rd : Rdr wr b bp cap T ps { q with next := n, depth := q.depth + 1 }

theorem stmt_one (a0 : Int) (s1 s2 : ByteArray) (a3 a4 a5 a6 : Option Addr) (l3 c3 l4 c4 l5 c5 l6 c6 : Nat) : ∀ u ∈ [Value.int .i64 a0, .string s1, .string s2, .slice a3 l3 c3, .slice a4 l4 c4, .slice a5 l5 c5, .slice a6 l6 c6], u.oneCell' = true := by
  intro u hu
  simp at hu
  rcases hu with rfl | rfl | rfl | rfl | rfl | rfl | rfl <;> rfl

end Go.Proofs.YtgifghcaeoinoaaDoor
