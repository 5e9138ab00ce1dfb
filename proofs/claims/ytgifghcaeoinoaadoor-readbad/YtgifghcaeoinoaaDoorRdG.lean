/-
  Arguments: expressions in round brackets, gathered by a closure.
-/
import Derived.Test.YtgifghcaeoinoaaDoorRdF
import Derived.Test.YtgifghcaeoinoaaDoorRdL
import Derived.Deep.RegionLaw
import Derived.Deep.AppendLies
import Derived.OwnWalk
namespace Go.Proofs.YtgifghcaeoinoaaDoor
open Go.RowKit
set_option linter.unusedSimpArgs false
set_option linter.unusedVariables false

theorem infoExpr : (Tryd.prog.info? 35).map (fun i => (i.zero, i.size, i.bytes)) = some (some (.agg #[.int .i64 0, .int .i64 0, .string ⟨#[]⟩, .slice none 0 0]), 4, 56) := by kernel_rfl

/-- the arguments so far: w0: the world when 'arguments' began; its two own blocks: the reader's pointer, the slice -/
structure ArgI (w0 : World) (b : Nat) (w : World) (xs : List Ex) : Prop where
  kp : Kept b w0 w
  sz : w0.heap.size + 2 ≤ w.heap.size
  cr : w.heap[w0.heap.size]? = some (.cells #[.pointer (some ⟨b, 0, none⟩)] 50 (0, 0))
  ca : ∃ v vs, w.heap[w0.heap.size + 1]? = some (.cells #[v] 33 (0, 0)) ∧ w.ownsRow (w0.heap.size + 2) 35 4 v xs.length (flat vs) ∧ AllP (AnE (fun g => w0.heap.size + 2 ≤ g ∧ v.ownBlock ≠ some g) w) vs xs

theorem ownsRow_kept {w w' : World} {b base size n : Nat} {e : TypeId} {v : Value} {xs : List Value} (h : w.ownsRow base e size v n xs) (k : Kept b w w') (hb : b < base) : w'.ownsRow base e size v n xs := by
  refine ⟨h.1, ?_⟩
  rcases h.2 with h2 | ⟨g, cap, cur, hv, hg, hh, r⟩
  · exact Or.inl h2
  · refine Or.inr ⟨g, cap, cur, hv, hg, ?_, r⟩
    have hlt : g < w.heap.size := by
      rcases Nat.lt_or_ge g w.heap.size with hb | hb
      · exact hb
      · rw [Array.getElem?_eq_none hb] at hh; cases hh
    rw [k.block g hlt (by omega)]; exact hh

theorem ArgI.kept {w0 w w' : World} {b : Nat} {xs : List Ex} (hb : b < w0.heap.size) (h : ArgI w0 b w xs) (k : Kept b w w') : ArgI w0 b w' xs := by
  have hs := h.sz
  refine ⟨h.kp.trans k, Nat.le_trans h.sz k.size, by rw [k.block _ (by omega) (by omega)]; exact h.cr, ?_⟩
  obtain ⟨v, vs, h1, h2, h3⟩ := h.ca
  exact ⟨v, vs, by rw [k.block _ (by omega) (by omega)]; exact h1, ownsRow_kept h2 k (by omega), h3.imp fun u x hx => hx.move fun g hg hlt => ⟨hg, k.block g hlt (by omega)⟩⟩

/-- where something was wrong: the slice is whatever it is -/
structure ArgB (w0 : World) (b : Nat) (w : World) : Prop where
  kp : Kept b w0 w
  sz : w0.heap.size + 2 ≤ w.heap.size
  ca : ∃ a l c, w.heap[w0.heap.size + 1]? = some (.cells #[.slice a l c] 33 (0, 0))

theorem ArgI.bad {w0 w : World} {b : Nat} {xs : List Ex} (h : ArgI w0 b w xs) : ArgB w0 b w := by
  obtain ⟨v, vs, h1, h2, h3⟩ := h.ca
  refine ⟨h.kp, h.sz, ?_⟩
  rcases h2.2 with ⟨rfl, _⟩ | ⟨g, cap, cur, rfl, _⟩
  · exact ⟨_, _, _, h1⟩
  · exact ⟨_, _, _, h1⟩

theorem ownsRow_slice {w : World} {base size n : Nat} {e : TypeId} {v : Value} {xs : List Value} (h : w.ownsRow base e size v n xs) : ∃ a c, v = .slice a n c := by
  rcases h.2 with ⟨rfl, rfl⟩ | ⟨g, cap, cur, rfl, _⟩
  · exact ⟨_, _, rfl⟩
  · exact ⟨_, _, rfl⟩

theorem zeroE_one : ∀ u ∈ [Value.int .i64 0, .int .i64 0, .string ⟨#[]⟩, .slice none 0 0], u.oneCell' = true := by
  intro u hu
  simp at hu
  rcases hu with rfl | rfl | rfl <;> rfl

/-- the cells of the element that was appended last -/
theorem own_last4 {w : World} {base n g cap : Nat} {e : TypeId} {xs : List Value} {y0 y1 y2 y3 : Value} (h : w.ownsRow base e 4 (.slice (some ⟨g, 0, none⟩) (n + 1) cap) (n + 1) (xs ++ [y0, y1, y2, y3])) :
    ∃ cur, w.heap[g]? = some (.cells cur e (0, 0)) ∧ cur.toList.take (n * 4 + 4) = xs ++ [y0, y1, y2, y3] ∧ xs.length = n * 4 ∧ n * 4 + 4 ≤ cur.size ∧ base ≤ g := by
  obtain ⟨h1, h2⟩ := h
  rcases h2 with ⟨h2, _⟩ | ⟨g', cap', cur, hv, hb, hh, hn, hc, hs, ht⟩
  · cases h2
  · cases hv
    refine ⟨cur, hh, ?_, ?_, ?_, hb⟩
    · rw [show n * 4 + 4 = (n + 1) * 4 by omega]; exact ht
    · simp at h1; omega
    · rw [hs]; omega

theorem own_last4_cells {w : World} {base n g cap : Nat} {e : TypeId} {xs : List Value} {y0 y1 y2 y3 : Value} (h : w.ownsRow base e 4 (.slice (some ⟨g, 0, none⟩) (n + 1) cap) (n + 1) (xs ++ [y0, y1, y2, y3])) :
    w.cell? ⟨g, n * 4, none⟩ = some y0 ∧ w.cell? ⟨g, n * 4 + 1, none⟩ = some y1 ∧ w.cell? ⟨g, n * 4 + 2, none⟩ = some y2 ∧ w.cell? ⟨g, n * 4 + 3, none⟩ = some y3 ∧ ∀ o, w.frozen? ⟨g, o, none⟩ = false := by
  obtain ⟨cur, hh, ht, hl, hs, _⟩ := own_last4 h
  have hc : ∀ j, j < 4 → w.cell? ⟨g, n * 4 + j, none⟩ = (xs ++ [y0, y1, y2, y3])[n * 4 + j]? := by
    intro j hj
    rw [← ht, List.getElem?_take_of_lt (by omega)]
    simp [World.cell?, hh]
  refine ⟨?_, ?_, ?_, ?_, fun o => thaw4 hh o⟩
  · have := hc 0 (by omega); rw [List.getElem?_append_right (by omega)] at this; simpa [hl] using this
  · have := hc 1 (by omega); rw [List.getElem?_append_right (by omega)] at this; simpa [hl] using this
  · have := hc 2 (by omega); rw [List.getElem?_append_right (by omega)] at this; simpa [hl] using this
  · have := hc 3 (by omega); rw [List.getElem?_append_right (by omega)] at this; simpa [hl] using this

theorem grown_block {W w2 : World} {v : Value} {base size n k : Nat} {e : TypeId} {xs : List Value} {o : Obj} (hg : W.grownBy w2 v.ownBlock) (hown : W.ownsRow base e size v n xs) (hk : k < base) (ho : W.heap[k]? = some o) : w2.heap[k]? = some o := by
  have hlt : k < W.heap.size := by
    rcases Nat.lt_or_ge k W.heap.size with hb | hb
    · exact hb
    · rw [Array.getElem?_eq_none hb] at ho; cases ho
  rw [hg.block k hlt (fun e' => by have := hown.lt k e'.symm; omega)]
  exact ho

/-- all that was there ahead of an append, but for the row and the slice's own cell, is there behind it -/
theorem append_keeps {w1 w2 W : World} {x g cv n : Nat} {av : Option Addr} {oe oz : Obj} (hg : (((w1.alloc oe).alloc oz).drew).grownBy w2 (Value.slice av n cv).ownBlock) (hat : (Value.slice av n cv).ownBlock = some g ∨ g = w1.heap.size + 2)
    (hp : Put2 w2 W x g) (k : Nat) (hk : k < w1.heap.size) (hx : k ≠ x) (ho : (Value.slice av n cv).ownBlock ≠ some k) : k ≠ g ∧ W.heap[k]? = w1.heap[k]? := by
  have hkg : k ≠ g := by
    rintro rfl
    rcases hat with h | h
    · exact ho h
    · omega
  refine ⟨hkg, ?_⟩
  rw [hp.block k hx hkg, hg.block k (by show k < ((w1.alloc oe).alloc oz).heap.size; simp; omega) (fun e => ho e.symm)]
  show ((w1.alloc oe).alloc oz).heap[k]? = _
  rw [Below.heap_alloc _ _ _ (by simp; omega), Below.heap_alloc _ _ _ hk]

theorem append_kept {w1 w2 W : World} {x g cv n b : Nat} {av : Option Addr} {oe oz : Obj} (hg : (((w1.alloc oe).alloc oz).drew).grownBy w2 (Value.slice av n cv).ownBlock) (hat : (Value.slice av n cv).ownBlock = some g ∨ g = w1.heap.size + 2)
    (hp : Put2 w2 W x g) {w0 : World} (hk : Kept b w0 w1) (hx : w0.heap.size ≤ x) (ho : ∀ k, (Value.slice av n cv).ownBlock = some k → w0.heap.size ≤ k) : Kept b w0 W := by
  refine ⟨hp.os.trans (hg.os.trans hk.os), hp.tape.trans (hg.tape.trans hk.tape), hp.output.trans (hg.output.trans hk.output), ?_, fun k hlt hb => ?_⟩
  · have h1 := hg.size
    have h2 := hp.size
    have h3 := hk.size
    have h4 : (((w1.alloc oe).alloc oz).drew).heap.size = w1.heap.size + 2 := by simp
    omega
  · rw [(append_keeps hg hat hp k (Nat.lt_of_lt_of_le hlt hk.size) (by omega) (fun e => by have := ho k e; omega)).2]
    exact hk.block k hlt hb

/-- one argument more -/
theorem argDone {w0 w w1 w2 W : World} {b g cp : Nat} {av : Option Addr} {cv : Nat} {xs : List Ex} {x : Ex} {vs : List Value} {ev0 ev1 ev2 ev3 : Value} {oe oz : Obj} (hb0 : b < w0.heap.size) (hI : ArgI w0 b w xs) (k1 : Kept b w w1)
    (hown : w.ownsRow (w0.heap.size + 2) 35 4 (.slice av xs.length cv) xs.length (flat vs)) (hall : AllP (AnE (fun g => w0.heap.size + 2 ≤ g ∧ (Value.slice av xs.length cv).ownBlock ≠ some g) w) vs xs)
    (hA : AnE (fun g => w.heap.size ≤ g) w1 (.agg #[ev0, ev1, ev2, ev3]) x)
    (hg : (((w1.alloc oe).alloc oz).drew).grownBy w2 (Value.slice av xs.length cv).ownBlock) (hat : (Value.slice av xs.length cv).ownBlock = some g ∨ g = w1.heap.size + 2) (hgb : w0.heap.size + 2 ≤ g)
    (hp : Put2 w2 W (w0.heap.size + 1) g) (hx : W.heap[w0.heap.size + 1]? = some (.cells #[.slice (some ⟨g, 0, none⟩) (xs.length + 1) cp] 33 (0, 0)))
    (ho : W.ownsRow (w0.heap.size + 2) 35 4 (.slice (some ⟨g, 0, none⟩) (xs.length + 1) cp) (xs.length + 1) (flat vs ++ [ev0, ev1, ev2, ev3])) : ArgI w0 b W (xs ++ [x]) := by
  have hsz := hI.sz
  have hs1 := k1.size
  have hlo := hown.lt
  have keep := fun k h1 h2 h3 => append_keeps (x := w0.heap.size + 1) hg hat hp k h1 h2 h3
  have kW := append_kept hg hat hp (hI.kp.trans k1) (by omega) (fun k e => by have := hlo k e; omega)
  refine ⟨kW, ?_, ?_, ?_⟩
  · have h1 := hg.size
    have h2 := hp.size
    have h4 : (((w1.alloc oe).alloc oz).drew).heap.size = w1.heap.size + 2 := by simp
    omega
  · rw [(keep w0.heap.size (by omega) (by omega) (fun e => by have := hlo _ e; omega)).2, k1.block _ (by omega) (by omega)]
    exact hI.cr
  · refine ⟨_, vs ++ [.agg #[ev0, ev1, ev2, ev3]], hx, ?_, ?_⟩
    · simp only [List.length_append, List.length_cons, List.length_nil, flat_append]
      exact ho
    · refine AllP.snoc ?_ (hall.imp fun u y hu => ?_)
      · refine hA.move fun k hk hlt => ?_
        have := keep k hlt (by omega) (fun e => by have := hlo _ e; omega)
        exact ⟨⟨by omega, by simp [Value.ownBlock]; exact fun e => this.1 e.symm⟩, this.2⟩
      · refine hu.move fun k hk hlt => ?_
        have := keep k (by omega) (by omega) hk.2
        exact ⟨⟨hk.1, by simp [Value.ownBlock]; exact fun e => this.1 e.symm⟩, this.2.trans (k1.block k hlt (by omega))⟩

/-- .. and the reader is as it was -/
theorem argRdr {w0 w1 w2 W : World} {b bp cap T g cv n : Nat} {av : Option Addr} {ps : List Tok} {q : RS} {oe oz : Obj} (h : Rdr w1 b bp cap T ps q) (hb0 : b < w0.heap.size) (hp0 : bp < w0.heap.size) (hG : 8 ≤ w0.heap.size)
    (hlo : ∀ k, (Value.slice av n cv).ownBlock = some k → w0.heap.size + 2 ≤ k) (hg : (((w1.alloc oe).alloc oz).drew).grownBy w2 (Value.slice av n cv).ownBlock) (hat : (Value.slice av n cv).ownBlock = some g ∨ g = w1.heap.size + 2)
    (hp : Put2 w2 W (w0.heap.size + 1) g) : Rdr W b bp cap T ps q := by
  have keep : ∀ k, k < w1.heap.size → k < w0.heap.size → W.heap[k]? = w1.heap[k]? := fun k h1 h2 => (append_keeps (x := w0.heap.size + 1) hg hat hp k h1 (by omega) (fun e => by have := hlo k e; omega)).2
  refine ⟨by rw [keep b h.bsize hb0]; exact h.blk, ?_, h.ne, ?_, h.nx, h.len, h.dp, h.tab.same (fun g hgs hlt => keep g hgs (by omega)), h.far, h.fin⟩
  · intro i hi
    have := h.row i hi
    have e := fun j => World.cell?_of_block (w := w1) (w' := W) (a := ⟨bp, j, none⟩) (keep bp h.lt hp0)
    simp only [e]
    exact this
  · have h1 := hg.size
    have h2 := hp.size
    have h4 : (((w1.alloc oe).alloc oz).drew).heap.size = w1.heap.size + 2 := by simp
    have := h.lt
    omega

/-- what the appending leaves: w: ahead of the expression, w1: behind it -/
def ArgDoneP (w0 : World) (b bp cap T : Nat) (ps : List Tok) (q : RS) (xs : List Ex) (w w1 : World) (ev : Value) (W : World) : Prop :=
  ∃ (av : Option Addr) (cv g cp : Nat) (vs : List Value) (w2 : World) (oe oz : Obj) (ev0 ev1 ev2 ev3 : Value), ev = .agg #[ev0, ev1, ev2, ev3] ∧
    w.ownsRow (w0.heap.size + 2) 35 4 (.slice av xs.length cv) xs.length (flat vs) ∧ AllP (AnE (fun g => w0.heap.size + 2 ≤ g ∧ (Value.slice av xs.length cv).ownBlock ≠ some g) w) vs xs ∧
    (((w1.alloc oe).alloc oz).drew).grownBy w2 (Value.slice av xs.length cv).ownBlock ∧ ((Value.slice av xs.length cv).ownBlock = some g ∨ g = w1.heap.size + 2) ∧ w0.heap.size + 2 ≤ g ∧
    Put2 w2 W (w0.heap.size + 1) g ∧ W.heap[w0.heap.size + 1]? = some (.cells #[.slice (some ⟨g, 0, none⟩) (xs.length + 1) cp] 33 (0, 0)) ∧
    W.ownsRow (w0.heap.size + 2) 35 4 (.slice (some ⟨g, 0, none⟩) (xs.length + 1) cp) (xs.length + 1) (flat vs ++ [ev0, ev1, ev2, ev3])

theorem argEither {w0 w w1 : World} {b bp cap T : Nat} {ps : List Tok} {q : RS} {xs : List Ex} (hb0 : b < w0.heap.size) (hp0 : bp < w0.heap.size) (hG : 8 ≤ w0.heap.size) (hI : ArgI w0 b w xs)
    {r : Sum (Int × Int) (Ex × Nat)} {e : Ending} (hP : PostE b bp cap T ps q w r e w1) :
    ∃ ev ok, ShE ev ∧ e = .returned (.tuple #[ev, .bool ok]) ∧ ∀ W, ArgDoneP w0 b bp cap T ps q xs w w1 ev W → ItemPost b bp cap T ps q (ArgI w0 b) (ArgB w0 b) xs r (.returned (.bool ok)) W := by
  obtain ⟨k1, hP⟩ := hP
  have hsz := hI.sz
  have hs1 := k1.size
  cases r with
  | inl k =>
    obtain ⟨v, n', hsh, rfl, h1⟩ := hP
    refine ⟨v, false, hsh, rfl, ?_⟩
    rintro W ⟨av, cv, g, cp, vs, w2, oe, oz, ev0, ev1, ev2, ev3, rfl, hown, hall, hg, hat, hgb, hp, hx, ho⟩
    have hlo : ∀ k, (Value.slice av xs.length cv).ownBlock = some k → w0.heap.size + 2 ≤ k := fun k e => (hown.lt k e).1
    refine ⟨rfl, n', argRdr h1 hb0 hp0 hG hlo hg hat hp, ⟨append_kept hg hat hp (hI.kp.trans k1) (by omega) (fun k e => by have := hlo k e; omega), ?_, _, _, _, hx⟩⟩
    have h1 := hg.size
    have h2 := hp.size
    have h4 : (((w1.alloc oe).alloc oz).drew).heap.size = w1.heap.size + 2 := by simp
    omega
  | inr x =>
    obtain ⟨v, rfl, hA, h1⟩ := hP
    refine ⟨v, true, hA.sh, rfl, ?_⟩
    rintro W ⟨av, cv, g, cp, vs, w2, oe, oz, ev0, ev1, ev2, ev3, rfl, hown, hall, hg, hat, hgb, hp, hx, ho⟩
    have hlo : ∀ k, (Value.slice av xs.length cv).ownBlock = some k → w0.heap.size + 2 ≤ k := fun k e => (hown.lt k e).1
    exact ⟨rfl, argRdr h1 hb0 hp0 hG hlo hg hat hp, argDone hb0 hI k1 hown hall hA hg hat hgb hp hx ho⟩

theorem argFinA {w0 w w1 w2 : World} {b bp cap T : Nat} {ps : List Tok} {q : RS} {xs : List Ex} {av : Option Addr} {cv g cp : Nat} {vs : List Value} {oe oz : Obj} {y0 y1 y2 y3 c0 : Value}
    (hown : w.ownsRow (w0.heap.size + 2) 35 4 (.slice av xs.length cv) xs.length (flat vs)) (hall : AllP (AnE (fun g => w0.heap.size + 2 ≤ g ∧ (Value.slice av xs.length cv).ownBlock ≠ some g) w) vs xs)
    (hg : (((w1.alloc oe).alloc oz).drew).grownBy w2 (Value.slice av xs.length cv).ownBlock) (hat : (Value.slice av xs.length cv).ownBlock = some g ∨ g = w1.heap.size + 2) (hgb : w0.heap.size + 2 ≤ g)
    (hva : w2.heap[w0.heap.size + 1]? = some (.cells #[c0] 33 (0, 0))) (hne : ¬ w0.heap.size + 1 = g) {z0 z1 z2 z3 : Value}
    (ho : w2.ownsRow (w0.heap.size + 2) 35 4 (.slice (some ⟨g, 0, none⟩) (xs.length + 1) cp) (xs.length + 1) (flat vs ++ [z0, z1, z2, z3])) :
    ArgDoneP w0 b bp cap T ps q xs w w1 (.agg #[y0, y1, y2, y3]) (((((w2.setCell ⟨g, xs.length * 4, none⟩ y0).setCell ⟨g, xs.length * 4 + 1, none⟩ y1).setCell ⟨g, xs.length * 4 + 2, none⟩ y2).setCell ⟨g, xs.length * 4 + 3, none⟩ y3).setCell ⟨w0.heap.size + 1, 0, none⟩ (.slice (some ⟨g, 0, none⟩) (xs.length + 1) cp)) := by
  have hpp := put_first (x := w0.heap.size + 1) (ys := [y0, y1, y2, y3]) hne hva ho rfl rfl 0 (.slice (some ⟨g, 0, none⟩) (xs.length + 1) cp)
  exact ⟨av, cv, g, cp, vs, w2, oe, oz, y0, y1, y2, y3, rfl, hown, hall, hg, hat, hgb, hpp.1, hpp.2.1, hpp.2.2⟩

theorem argFinB {w0 w w1 w2 : World} {b bp cap T : Nat} {ps : List Tok} {q : RS} {xs : List Ex} {av : Option Addr} {cv g cp : Nat} {vs : List Value} {oe oz : Obj} {y0 y1 y2 y3 c0 : Value}
    (hown : w.ownsRow (w0.heap.size + 2) 35 4 (.slice av xs.length cv) xs.length (flat vs)) (hall : AllP (AnE (fun g => w0.heap.size + 2 ≤ g ∧ (Value.slice av xs.length cv).ownBlock ≠ some g) w) vs xs)
    (hg : (((w1.alloc oe).alloc oz).drew).grownBy w2 (Value.slice av xs.length cv).ownBlock) (hat : (Value.slice av xs.length cv).ownBlock = some g ∨ g = w1.heap.size + 2) (hgb : w0.heap.size + 2 ≤ g)
    (hva : w2.heap[w0.heap.size + 1]? = some (.cells #[c0] 33 (0, 0))) (hne : ¬ w0.heap.size + 1 = g) {z0 z1 z2 z3 : Value}
    (ho : w2.ownsRow (w0.heap.size + 2) 35 4 (.slice (some ⟨g, 0, none⟩) (xs.length + 1) cp) (xs.length + 1) (flat vs ++ [z0, z1, z2, z3])) :
    ArgDoneP w0 b bp cap T ps q xs w w1 (.agg #[y0, y1, y2, y3]) (((((w2.setCell ⟨w0.heap.size + 1, 0, none⟩ (.slice (some ⟨g, 0, none⟩) (xs.length + 1) cp)).setCell ⟨g, xs.length * 4, none⟩ y0).setCell ⟨g, xs.length * 4 + 1, none⟩ y1).setCell ⟨g, xs.length * 4 + 2, none⟩ y2).setCell ⟨g, xs.length * 4 + 3, none⟩ y3) := by
  have hpp := put_last (x := w0.heap.size + 1) (ys := [y0, y1, y2, y3]) hne hva ho rfl rfl 0 (.slice (some ⟨g, 0, none⟩) (xs.length + 1) cp)
  exact ⟨av, cv, g, cp, vs, w2, oe, oz, y0, y1, y2, y3, rfl, hown, hall, hg, hat, hgb, hpp.1, hpp.2.1, hpp.2.2⟩

set_option maxHeartbeats 2000000 in
theorem argItem_core (w0 w : World) (b bp cap T : Nat) (ps : List Tok) (q : RS) (xs : List Ex) (hxl : xs.length < 1000000) (hb0 : b < w0.heap.size) (hp0 : bp < w0.heap.size) (hG : 8 ≤ w0.heap.size)
    (h : Rdr w b bp cap T ps q) (hI : ArgI w0 b w xs) (r : Sum (Int × Int) (Ex × Nat))
    (hE : Calls Tryd.prog 110 #[.pointer (some ⟨b, 0, none⟩)] w (PostE b bp cap T ps q w r)) :
    Calls Tryd.prog 122 #[.pointer (some ⟨w0.heap.size, 0, none⟩), .pointer (some ⟨w0.heap.size + 1, 0, none⟩)] w (ItemPost b bp cap T ps q (ArgI w0 b) (ArgB w0 b) xs r) := by
  obtain ⟨i0, hi, hz0, hz1, hz2⟩ := info_parts infoExpr
  have cr : w.cell? ⟨w0.heap.size, 0, none⟩ = some (.pointer (some ⟨b, 0, none⟩)) := by simp [World.cell?, hI.cr]
  have hsz0 := hI.sz
  obtain ⟨v, vs, hca0, hown0, hall0⟩ := hI.ca
  obtain ⟨av, cv, rfl⟩ := ownsRow_slice hown0
  have hlo : ∀ k, (Value.slice av xs.length cv).ownBlock = some k → w0.heap.size + 2 ≤ k := fun k e => (hown0.lt k e).1
  have HL := hlo
  have HLO : Hid (∀ k, (Value.slice av xs.length cv).ownBlock = some k → w0.heap.size + 2 ≤ k) := hlo
  clear hlo HL
  go_enter Tryd.func122, Tryd.ntmps122
  go_wp2_with fail
  refine hE.mono ?_
  intro e w1 hP
  have hei := argEither hb0 hp0 hG hI hP
  obtain ⟨k1, _⟩ := hP
  have hs1 := k1.size
  have hca := (k1.block (w0.heap.size + 1) (by omega) (by omega)).trans hca0
  have hown := ownsRow_kept hown0 k1 (by omega)
  have c1 : w1.cell? ⟨w0.heap.size + 1, 0, none⟩ = some (.slice av xs.length cv) := by simp [World.cell?, hca]
  have z1 : w1.frozen? ⟨w0.heap.size + 1, 0, none⟩ = false := by simp [World.frozen?, hca]
  have hlt1 : w0.heap.size + 1 < w1.heap.size := by omega
  have hlt0 : w0.heap.size < w1.heap.size := by omega
  have hix : (xs.length : Int) < (xs.length : Int) + 1 := by omega
  have hm63 : xs.length + 1 ≤ maxLen := by unfold maxLen; omega
  have HCA : Hid (w.heap[w0.heap.size + 1]? = some (.cells #[.slice av xs.length cv] 33 (0, 0))) := hca0
  clear hca0
  obtain ⟨ev, ok, hsh, rfl, hfin⟩ := hei
  obtain ⟨e0, e1, e2, a3, l3, c3, rfl⟩ := hsh
  go_wp2_with fail
  have HO : Hid ((((w1.alloc (.cells #[.int .i64 e0, .int .i64 e1, .string e2, .slice a3 l3 c3] 35)).alloc (.cells #[.int .i64 0, .int .i64 0, .string ⟨#[]⟩, .slice none 0 0] 35)).drew).ownsRow (w0.heap.size + 2) 35 4 (.slice av xs.length cv) xs.length (flat vs)) := (hown.alloc _).alloc _
  have HN : Hid (∀ j u, [Value.int .i64 0, .int .i64 0, .string ⟨#[]⟩, .slice none 0 0][j]? = some u → (((w1.alloc (.cells #[.int .i64 e0, .int .i64 e1, .string e2, .slice a3 l3 c3] 35)).alloc (.cells #[.int .i64 0, .int .i64 0, .string ⟨#[]⟩, .slice none 0 0] 35)).drew).cell? ((⟨w1.heap.size + 1, 0, none⟩ : Addr).add j) = some u) :=
    World.news_of_block (w := ((w1.alloc (.cells #[.int .i64 e0, .int .i64 e1, .string e2, .slice a3 l3 c3] 35)).alloc (.cells #[.int .i64 0, .int .i64 0, .string ⟨#[]⟩, .slice none 0 0] 35)).drew) (B := w1.heap.size + 1) (cs := #[.int .i64 0, .int .i64 0, .string ⟨#[]⟩, .slice none 0 0]) (by
      have := heap_alloc_new (w1.alloc (.cells #[.int .i64 e0, .int .i64 e1, .string e2, .slice a3 l3 c3] 35)) (.cells #[.int .i64 0, .int .i64 0, .string ⟨#[]⟩, .slice none 0 0] 35)
      exact blk_drew (by simpa using this))
  have HV : Hid ((((w1.alloc (.cells #[.int .i64 e0, .int .i64 e1, .string e2, .slice a3 l3 c3] 35)).alloc (.cells #[.int .i64 0, .int .i64 0, .string ⟨#[]⟩, .slice none 0 0] 35)).drew).heap[w0.heap.size + 1]? = some (.cells #[.slice av xs.length cv] 33 (0, 0))) := blk_drew (blk_alloc (blk_alloc hca _) _)
  have hbase : w0.heap.size + 2 ≤ (((w1.alloc (.cells #[.int .i64 e0, .int .i64 e1, .string e2, .slice a3 l3 c3] 35)).alloc (.cells #[.int .i64 0, .int .i64 0, .string ⟨#[]⟩, .slice none 0 0] 35)).drew).heap.size := by simp; omega
  have hH : (((w1.alloc (.cells #[.int .i64 e0, .int .i64 e1, .string e2, .slice a3 l3 c3] 35)).alloc (.cells #[.int .i64 0, .int .i64 0, .string ⟨#[]⟩, .slice none 0 0] 35)).drew).heap.size = w1.heap.size + 2 := by simp
  go_region_law (refine step_append_lies (((w1.alloc (.cells #[.int .i64 e0, .int .i64 e1, .string e2, .slice a3 l3 c3] 35)).alloc (.cells #[.int .i64 0, .int .i64 0, .string ⟨#[]⟩, .slice none 0 0] 35)).drew) rfl (.tmp 10) (.tmp 13) 33 rfl (w0.heap.size + 2) 35 i0 (.agg #[.int .i64 0, .int .i64 0, .string ⟨#[]⟩, .slice none 0 0]) 4 56 Tryd.underlying33 hi hz0 hz1 hz2 rfl (by decide) (.slice av xs.length cv) xs.length (flat vs) (by simp [Act.eval, Act.put]) HO.out ⟨w1.heap.size + 1, 0, none⟩ 1 1 [.int .i64 0, .int .i64 0, .string ⟨#[]⟩, .slice none 0 0] (by simp [Act.eval, Act.put]) rfl HN.out zeroE_one (by decide) hm63 (by omega) hbase (w1.heap.size + 2) hH ?_; intro g cp w2 hown2 hgrow2 hat2 hlt2; obtain ⟨p0, p1, p2, p3, pz⟩ := own_last4_cells hown2; have hva2 := grown_block hgrow2 HO.out (k := w0.heap.size + 1) (by omega) HV.out; have hvc2 : w2.cell? ⟨w0.heap.size + 1, 0, none⟩ = some (.slice av xs.length cv) := by { simp [World.cell?, hva2] }; have hvz2 : w2.frozen? ⟨w0.heap.size + 1, 0, none⟩ = false := by { simp [World.frozen?, hva2] }; obtain ⟨cur2, hg2, ht2, hl2, hs2, hgb⟩ := own_last4 hown2; have hne : ¬ g = w0.heap.size + 1 := by { omega }; have hne' : ¬ w0.heap.size + 1 = g := by { omega })
  all_goals
    go_wp2_with fail
    go_ret
    refine hfin _ ?_
    first
      | (with_reducible exact argFinA hown0 hall0 hgrow2 hat2 hgb hva2 hne' hown2)
      | (with_reducible exact argFinB hown0 hall0 hgrow2 hat2 hgb hva2 hne' hown2)

end Go.Proofs.YtgifghcaeoinoaaDoor
