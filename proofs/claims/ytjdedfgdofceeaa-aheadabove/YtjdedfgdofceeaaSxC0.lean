/-
  posternkeep.Code: what it begins with.
-/
import Derived.Test.YtjdedfgdofceeaaSxB
import Derived.Test.YtjdedfgdofceeaaJbE1
namespace Go.Proofs.Ytjdedfgdofceeaa
open Go.RowKit
set_option linter.unusedSimpArgs false
set_option linter.unusedVariables false

theorem allocs_at : ∀ (os : List Obj) (w : World) (i : Nat), i < os.length → (os.foldl World.alloc w).heap[w.heap.size + i]? = os[i]?
  | [], _, _, h => by simp at h
  | o :: os, w, 0, _ => by
    have : ∀ (os : List Obj) (w : World) (k : Nat), k < w.heap.size → (os.foldl World.alloc w).heap[k]? = w.heap[k]? := by
      intro os
      induction os with
      | nil => intro w k _; rfl
      | cons o os ih => intro w k hk; rw [List.foldl_cons, ih _ _ (by simp; omega)]; exact Below.heap_alloc _ _ _ hk
    rw [List.foldl_cons, this os _ _ (by simp)]
    exact heap_alloc_new w o
  | o :: os, w, i + 1, h => by
    have := allocs_at os (w.alloc o) i (by simpa using h)
    rw [List.foldl_cons, List.getElem?_cons_succ, ← this]
    congr 1
    simp; omega
theorem allocs_below : ∀ (os : List Obj) (w : World), Below w.heap.size w (os.foldl World.alloc w) ∧ (os.foldl World.alloc w).heap.size = w.heap.size + os.length
  | [], w => ⟨Below.refl _ _, rfl⟩
  | o :: os, w => by
    obtain ⟨h1, h2⟩ := allocs_below os (w.alloc o)
    refine ⟨below_after (below_alloc w o) h1, ?_⟩
    rw [List.foldl_cons, h2]; simp; omega

/-- four numbers a thing -/
def Raws (B : Nat) (w : World) (v : Value) (rs : List (Int × Int × Int × Int)) : Prop :=
  Lies 4 B w (fun cs r => cs = [.int .i64 r.1, .int .i64 r.2.1, .int .i64 r.2.2.1, .int .i64 r.2.2.2] ∧ I64 r.1 ∧ I64 r.2.1 ∧ I64 r.2.2.1 ∧ I64 r.2.2.2) v rs

/-- all as it was, but block C -/
structure FrC (C : Nat) (w0 w : World) : Prop where
  os : w.os = w0.os
  tape : w.tape = w0.tape
  output : w.output = w0.output
  size : w0.heap.size ≤ w.heap.size
  block : ∀ k, k < w0.heap.size → k ≠ C → w.heap[k]? = w0.heap[k]?
theorem FrC.refl (C : Nat) (w : World) : FrC C w w := ⟨rfl, rfl, rfl, Nat.le_refl _, fun _ _ _ => rfl⟩
theorem FrC.below {C : Nat} {w0 w w' : World} (h : FrC C w0 w) (k : Below w.heap.size w w') : FrC C w0 w' :=
  ⟨k.os.trans h.os, k.tape.trans h.tape, k.output.trans h.output, Nat.le_trans h.size k.size, fun i hi hc => (k.block i (Nat.lt_of_lt_of_le hi h.size)).trans (h.block i hi hc)⟩

/-- between two rounds -/
structure CInv (C : Nat) (W0 : World) (b : Nat) (w : World) : Prop where
  fr : FrC C W0 w
  row : ∃ vb bs, w.heap[C]? = some (.cells #[Value.string { data := #[109, 97, 105, 110] }, .int .i64 0, .int .i64 0, .int .i64 5, .int .i64 0, vb] 24) ∧ OwnL 1 40 PB (fun g => W0.heap.size ≤ g) w vb bs ∧ bs.length = b
/-- a block comes to the code -/
theorem push_block {C b g cp L : Nat} {W0 wz w1 w2 : World} {g1 cp1 : Nat} {avb : Option Addr} {kvb : Nat} {bs : List (List Ins)} {ob : List Ins} {xs : List (List Value)} (hC : C < W0.heap.size) (h0 : FrC C W0 wz)
    (hc : wz.heap[C]? = some (.cells #[Value.string { data := #[109, 97, 105, 110] }, .int .i64 0, .int .i64 0, .int .i64 5, .int .i64 0, .slice avb b kvb] 24))
    (ho1 : ∀ g, (Value.slice avb b kvb).ownBlock = some g → W0.heap.size ≤ g) (hxl : xs.length = bs.length) (hxm : ∀ cs, cs ∈ xs → cs.length = 1) (ho : wz.ownsRow 0 40 1 (.slice avb b kvb) b xs.flatten) (hb : bs.length = b)
    (hE : ∀ (i : Nat) (x : List Ins) (cs : List Value), bs[i]? = some x → xs[i]? = some cs → PB (fun g => W0.heap.size ≤ g ∧ (Value.slice avb b kvb).ownBlock ≠ some g) wz cs x)
    (hb1 : Below wz.heap.size wz w1) (hob : OwnL 6 42 PIn (fun g => wz.heap.size ≤ g) w1 (.slice (some ⟨g1, 0, none⟩) L cp1) ob)
    (hgrow : (w1.alloc (.cells #[.slice (some ⟨g1, 0, none⟩) L cp1] 40)).grownBy w2 (Value.slice avb b kvb).ownBlock) (hat : (Value.slice avb b kvb).ownBlock = some g ∨ g = (w1.alloc (.cells #[.slice (some ⟨g1, 0, none⟩) L cp1] 40)).heap.size)
    (hown : w2.ownsRow 0 40 1 (.slice (some ⟨g, 0, none⟩) (b + 1) cp) (b + 1) (xs.flatten ++ [.slice (some ⟨g1, 0, none⟩) L cp1])) :
    CInv C W0 (b + 1) (w2.setCell ⟨C, 5, none⟩ (.slice (some ⟨g, 0, none⟩) (b + 1) cp)) := by
  subst hb
  obtain ⟨wa, hwa⟩ : ∃ wa, wa = w1.alloc (.cells #[.slice (some ⟨g1, 0, none⟩) L cp1] 40) := ⟨_, rfl⟩
  have hba : Below w1.heap.size w1 wa := by rw [hwa]; exact below_alloc _ _
  have hbw : Below wz.heap.size wz wa := hb1.trans (hba.mono hb1.size)
  rw [← hwa] at hgrow hat
  have hpush : OwnL 1 40 PB (fun g => W0.heap.size ≤ g) w2 (.slice (some ⟨g, 0, none⟩) (bs.length + 1) cp) (bs ++ [ob]) :=
    OwnL.push PB.moves ho1 hxl hxm ho hE (fun g hg => hbw.block g hg) hbw.size ⟨_, rfl, OwnL.move PIn.moves hob hba.size fun g hg hlt => ⟨hg, hba.block g hlt⟩⟩ rfl hgrow (by
      rcases hat with h | h
      · exact .inl (by rw [h]; rfl)
      · exact .inr (by rw [h]; rfl)) hown (fun _ h => h) (fun g hg => Nat.le_trans h0.size hg)
  have hk : ∀ j, j ≠ C → (w2.setCell ⟨C, 5, none⟩ (.slice (some ⟨g, 0, none⟩) (bs.length + 1) cp)).heap[j]? = w2.heap[j]? := fun j hj => Below.heap_setCell _ _ _ _ (by show j ≠ C; exact hj)
  have hs : (w2.setCell ⟨C, 5, none⟩ (.slice (some ⟨g, 0, none⟩) (bs.length + 1) cp)).heap.size = w2.heap.size := by simp [World.setCell]
  have hne : ∀ j, j < W0.heap.size → some j ≠ (Value.slice avb bs.length kvb).ownBlock := fun j hj e => by have := ho1 j e.symm; omega
  have hC2 : w2.heap[C]? = wz.heap[C]? := (hgrow.block C (by have := hbw.size; have := h0.size; omega) (hne C hC)).trans (hbw.block C (by have := h0.size; omega))
  refine ⟨⟨hgrow.os.trans (hbw.os.trans h0.os), hgrow.tape.trans (hbw.tape.trans h0.tape), hgrow.output.trans (hbw.output.trans h0.output), by rw [hs]; have := hgrow.size; have := hbw.size; have := h0.size; omega, fun j hj hjc => ?_⟩, _, bs ++ [ob], ?_, OwnL.move PB.moves hpush (by rw [hs]; exact Nat.le_refl _) fun g hg _ => ⟨hg, hk g (by omega)⟩, by simp⟩
  · rw [hk j hjc]
    exact (hgrow.block j (by have := hbw.size; have := h0.size; omega) (hne j hj)).trans ((hbw.block j (by have := h0.size; omega)).trans (h0.block j hj hjc))
  · rw [heap_setCell_same (hC2.trans hc)]; simp
set_option maxHeartbeats 400000 in
theorem t_any (x : Int) (q M : Nat) (W : World) (hx : I64 x) (hq : q ≤ 6) (hc : W.cell? ⟨M, 0, none⟩ = some (.int .i64 (1 + (q : Int)))) : Calls Try.prog 23 #[.int .i64 x, .pointer (some ⟨M, 0, none⟩)] W fun e w' => e = .returned (.int .i64 (pickI x (1 + (q : Int)))) ∧ w' = W := by
  go_enter Try.func23, Try.ntmps23
  go_wp2_with fail
  refine (picked_any x (1 + (q : Int)) hx (by omega) (by omega) W).mono ?_
  rintro e w1 ⟨rfl, rfl⟩
  go_wp2_with fail
  go_ret
  exact ⟨rfl, rfl⟩
theorem i64_wrap (x : Int) : I64 (wrap64 x) := by unfold I64 wrap64; omega
theorem str_at (k5 : Nat) (h : k5 < 6) : ∃ sx : List UInt8, (#[Value.string { data := #[43] }, Value.string { data := #[45] }, Value.string { data := #[42] }, Value.string { data := #[60] }, Value.string { data := #[61, 61] }, Value.string { data := #[47] }] : Array Value)[k5]? = some (.string ⟨sx.toArray⟩) ∧ sx.length ≤ 2 := by
  have h9 : k5 = 0 ∨ k5 = 1 ∨ k5 = 2 ∨ k5 = 3 ∨ k5 = 4 ∨ k5 = 5 := by omega
  rcases h9 with rfl | rfl | rfl | rfl | rfl | rfl
  · exact ⟨[43], rfl, by decide⟩
  · exact ⟨[45], rfl, by decide⟩
  · exact ⟨[42], rfl, by decide⟩
  · exact ⟨[60], rfl, by decide⟩
  · exact ⟨[61, 61], rfl, by decide⟩
  · exact ⟨[47], rfl, by decide⟩
theorem i64_tdiv {n : Int} (h : I64 n) : I64 (n.tdiv 12) := by
  obtain ⟨h1, h2⟩ := h
  unfold I64
  by_cases h3 : 0 ≤ n
  · rw [Int.tdiv_eq_ediv_of_nonneg h3]; omega
  · have h4 : n.tdiv 12 = -((-n).tdiv 12) := by rw [Int.neg_tdiv]; omega
    rw [h4, Int.tdiv_eq_ediv_of_nonneg (by omega)]; omega
theorem CInv.draw {C : Nat} {W0 : World} {b : Nat} {w : World} (h : CInv C W0 b w) (n : Nat) : CInv C W0 b (w.drewN n) := by
  obtain ⟨⟨h1, h2, h3, h4, h5⟩, vb, bs, h6, h7, h8⟩ := h
  exact ⟨⟨h1, h2, h3, h4, h5⟩, vb, bs, h6, OwnL.move PB.moves h7 (Nat.le_refl _) fun g hg _ => ⟨hg, rfl⟩, h8⟩

theorem Lies.length_slice {A : Type} {m B : Nat} {w : World} {P : List Value → A → Prop} {a : Option Addr} {n c : Nat} {xs : List A} (h : Lies m B w P (.slice a n c) xs) : xs.length = n := by
  obtain ⟨_, a', c', hv, _⟩ := h
  cases hv; rfl

theorem raws_cut {B : Nat} {w : World} {a : Option Addr} {n k lo hi m : Nat} {rs : List (Int × Int × Int × Int)} (h : Raws B w (.slice a n k) rs) (hn : n = rs.length) (h1 : lo ≤ hi) (h2 : hi ≤ m) (hmn : m ≤ n) (hmk : m ≤ k) :
    Raws B w (.slice (if k = lo then a else Option.map (fun x => x.add (lo * 4)) a) (hi - lo) (k - lo)) ((rs.drop lo).take (hi - lo)) := by
  have hlen : ((rs.drop lo).take (hi - lo)).length = hi - lo := by rw [List.length_take, List.length_drop]; omega
  have hml := h.1
  refine ⟨by omega, _, _, by rw [hlen], fun h0 => ?_⟩
  rw [hlen] at h0
  rw [if_neg (by omega)]
  obtain ⟨_, a', c', hv, hh⟩ := h
  cases hv
  obtain ⟨g, o, rfl, hg, hat⟩ := hh (by omega)
  refine ⟨g, o + lo * 4, by simp [Addr.add], hg, fun i x hx => ?_⟩
  have hi2 : i < hi - lo := by have := (List.getElem?_eq_some_iff.1 hx).1; omega
  rw [List.getElem?_take, if_pos hi2, List.getElem?_drop] at hx
  obtain ⟨cs, g1, g2, g3⟩ := hat (lo + i) x hx
  exact ⟨cs, g1, g2, fun j hj => by rw [show o + lo * 4 + i * 4 + j = o + (lo + i) * 4 + j by omega]; exact g3 j hj⟩
theorem xinfoParts {e : TypeId} {z : Value} {s b : Nat} (h : (Try.prog.info? e).map (fun i => (i.zero, i.size, i.bytes)) = some (some z, s, b)) : ∃ i, Try.prog.info? e = some i ∧ i.zero = some z ∧ i.size = s ∧ i.bytes = b := by
  cases hi : Try.prog.info? e with
  | none => rw [hi] at h; cases h
  | some i =>
    rw [hi] at h
    simp only [Option.map_some, Option.some.injEq, Prod.mk.injEq] at h
    exact ⟨i, rfl, h.1, h.2.1, h.2.2⟩
theorem infoInstr : (Try.prog.info? 42).map (fun i => (i.zero, i.size, i.bytes)) = some (some (.agg #[.int .i64 0, .slice none 0 0, .slice none 0 0, .int .i64 0, .string ⟨#[]⟩, .slice none 0 0]), 6, 104) := by kernel_rfl
theorem infoBlock : (Try.prog.info? 40).map (fun i => (i.zero, i.size, i.bytes)) = some (some (.slice none 0 0), 1, 24) := by kernel_rfl

theorem push_ins {Z g cp : Nat} {wr W1 w1 : World} {ao : Option Addr} {j ko : Nat} {ob : List Ins} {xs : List (List Value)} {cs : List Value} {x : Ins} (ho1 : ∀ g, (Value.slice ao j ko).ownBlock = some g → Z ≤ g) (hxl : xs.length = ob.length) (hxm : ∀ cs, cs ∈ xs → cs.length = 6)
    (ho : wr.ownsRow 0 42 6 (.slice ao j ko) j xs.flatten) (hj : ob.length = j) (hE : ∀ (i : Nat) (x : Ins) (cs : List Value), ob[i]? = some x → xs[i]? = some cs → PIn (fun g => Z ≤ g ∧ (Value.slice ao j ko).ownBlock ≠ some g) wr cs x)
    (hb1 : Below wr.heap.size wr W1) (hPI : PIn (fun g => wr.heap.size ≤ g) W1 cs x) (hc : cs.length = 6) (hgrow : W1.grownBy w1 (Value.slice ao j ko).ownBlock) (hat : (Value.slice ao j ko).ownBlock = some g ∨ g = W1.heap.size)
    (hown : w1.ownsRow 0 42 6 (.slice (some ⟨g, 0, none⟩) (j + 1) cp) (j + 1) (xs.flatten ++ cs)) (hZ : Z ≤ wr.heap.size) :
    OwnL 6 42 PIn (fun g => Z ≤ g) w1 (.slice (some ⟨g, 0, none⟩) (j + 1) cp) (ob ++ [x]) ∧ Below Z wr w1 := by
  subst hj
  refine ⟨OwnL.push PIn.moves ho1 hxl hxm ho hE (fun g hg => hb1.block g hg) hb1.size hPI hc hgrow ?_ hown (fun _ h => h) (fun g hg => Nat.le_trans hZ hg), ?_⟩
  · rcases hat with h | h
    · exact .inl (by rw [h]; rfl)
    · exact .inr (by rw [h]; rfl)
  · exact (hb1.mono hZ).trans ⟨hgrow.os, hgrow.tape, hgrow.output, hgrow.size, fun k hk => hgrow.block k (by have := hb1.size; omega) (fun e => by have := ho1 k e.symm; omega)⟩
theorem i64_pick (n : Int) (q : Nat) (hq : q ≤ 6) : I64 (pickI n (1 + (q : Int))) := by
  unfold pickI I64
  have h1 := Int.emod_nonneg (if n < 0 then -(n + 1) else n) (show (1 + (q : Int)) ≠ 0 by omega)
  have h2 := Int.emod_lt_of_pos (if n < 0 then -(n + 1) else n) (show 0 < (1 + (q : Int)) by omega)
  omega
theorem one6 {a b c d e f : Value} (ha : a.oneCell' = true) (hb : b.oneCell' = true) (hc : c.oneCell' = true) (hd : d.oneCell' = true) (he : e.oneCell' = true) (hf : f.oneCell' = true) : ∀ u ∈ [a, b, c, d, e, f], u.oneCell' = true := by
  intro u hu
  simp only [List.mem_cons, List.not_mem_nil, or_false] at hu
  rcases hu with rfl | rfl | rfl | rfl | rfl | rfl <;> assumption
theorem r51a {Z g cp : Nat} {wr W1 w1 : World} {ao : Option Addr} {j ko : Nat} {ob : List Ins} {xs : List (List Value)} {cs : List Value} {x : Ins} (hXX : (∀ g, (Value.slice ao j ko).ownBlock = some g → Z ≤ g) ∧ xs.length = ob.length ∧ (∀ cs, cs ∈ xs → cs.length = 6) ∧ ∀ (i : Nat) (x : Ins) (cs : List Value), ob[i]? = some x → xs[i]? = some cs → PIn (fun g => Z ≤ g ∧ (Value.slice ao j ko).ownBlock ≠ some g) wr cs x)
    (ho : wr.ownsRow 0 42 6 (.slice ao j ko) j xs.flatten) (hj : ob.length = j) (hb1 : Below wr.heap.size wr W1) (hPI : PIn (fun g => wr.heap.size ≤ g) W1 cs x) (hgrow : W1.grownBy w1 (Value.slice ao j ko).ownBlock) (hat : (Value.slice ao j ko).ownBlock = some g ∨ g = W1.heap.size)
    (hown : w1.ownsRow 0 42 6 (.slice (some ⟨g, 0, none⟩) (j + 1) cp) (j + 1) (xs.flatten ++ cs)) (hZ : Z ≤ wr.heap.size) (hc : cs.length = 6) :
    OwnL 6 42 PIn (fun g => Z ≤ g) w1 (.slice (some ⟨g, 0, none⟩) (j + 1) cp) (ob ++ [x]) ∧ Below Z wr w1 :=
  push_ins hXX.1 hXX.2.1 hXX.2.2.1 ho hj hXX.2.2.2 hb1 hPI hc hgrow hat hown hZ
theorem r51b {Z C E X : Nat} {wr W1 w1 : World} {ao : Option Addr} {j ko : Nat} {xs : List Value} (h1 : ∀ g, (Value.slice ao j ko).ownBlock = some g → Z ≤ g) (hgrow : W1.grownBy w1 (Value.slice ao j ko).ownBlock) (hs : W1.heap.size = X + 1) (hC : C < X) (hE : E < X) (hCZ : C < Z) (hEr : wr.heap.size ≤ E)
    (ho : wr.ownsRow 0 42 6 (.slice ao j ko) j xs) : w1.heap[C]? = W1.heap[C]? ∧ w1.heap[E]? = W1.heap[E]? :=
  ⟨hgrow.block C (by omega) (fun e => by have := h1 C e.symm; omega), hgrow.block E (by omega) (fun e => by have := own0_lt ho e.symm; omega)⟩

end Go.Proofs.Ytjdedfgdofceeaa
