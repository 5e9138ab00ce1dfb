/-
  Statements: if, else if.
-/
import Derived.Test.YtgifghcaeoinoaaDoorRdZ
namespace Go.Proofs.YtgifghcaeoinoaaDoor
open Go.RowKit
set_option linter.unusedSimpArgs false
set_option linter.unusedVariables false

def SaidIf (ps : List Tok) (M : Nat → Nat → R St) : Prop :=
  ∀ (w : World) (b bp cap T : Nat) (q : RS) (r : Sum (Int × Int) (St × Nat)), Rdr w b bp cap T ps q → M q.depth q.next = some r →
    Calls Tryd.prog 98 #[.pointer (some ⟨b, 0, none⟩)] w (PostS b bp cap T ps q w r)

def elseIfM (ps : List Tok) (M : Nat → Nat → R St) (d n : Nat) : R (List St) :=
  if 30 ≤ d then badR ((cur ps n).at_, 8) else bindR (M (d + 1) n) fun s n' => okR [s] n'

set_option maxHeartbeats 400000 in
theorem leave_else (w : World) (b bp cap T bx : Nat) (ps : List Tok) (q : RS) (u : FrameMode) (h : Rdr w b bp cap T ps q) (hx : w.cell? ⟨bx, 0, none⟩ = some (.pointer (some ⟨b, 0, none⟩))) (hd : 0 < q.depth) :
    CallsD Tryd.prog 123 #[.pointer (some ⟨bx, 0, none⟩)] u w fun e u' w' => u' = u ∧ (e = .returned (.tuple #[]) ∧ Rdr w' b bp cap T ps { q with depth := q.depth - 1 } ∧ Kept b w w') := by
  obtain ⟨c0, c1, c2, c3, c4⟩ := h.cells
  have hz := h.thaw 2
  have hdp := h.dp
  go_enter_d Tryd.func123, Tryd.ntmps123
  go_wp2
  go_end0
  exact ⟨rfl, h.setDepth (q.depth - 1) (by omega) _ (by go_num), (Kept.refl _ _).setCell _ _⟩

set_option maxHeartbeats 400000 in
theorem leave_block (w : World) (b bp cap T bx : Nat) (ps : List Tok) (q : RS) (u : FrameMode) (h : Rdr w b bp cap T ps q) (hx : w.cell? ⟨bx, 0, none⟩ = some (.pointer (some ⟨b, 0, none⟩))) (hd : 0 < q.depth) :
    CallsD Tryd.prog 81 #[.pointer (some ⟨bx, 0, none⟩)] u w fun e u' w' => u' = u ∧ (e = .returned (.tuple #[]) ∧ Rdr w' b bp cap T ps { q with depth := q.depth - 1 } ∧ Kept b w w') := by
  obtain ⟨c0, c1, c2, c3, c4⟩ := h.cells
  have hz := h.thaw 2
  have hdp := h.dp
  go_enter_d Tryd.func81, Tryd.ntmps81
  go_wp2
  go_end0
  exact ⟨rfl, h.setDepth (q.depth - 1) (by omega) _ (by go_num), (Kept.refl _ _).setCell _ _⟩

theorem rowS1 {S : Nat → Prop} {W : World} {g : Nat} {v0 v1 v2 v3 v4 v5 v6 : Value} {T : TypeId} {f : Nat × Nat} {x : St} (hb : W.heap[g]? = some (.cells #[v0, v1, v2, v3, v4, v5, v6] T f)) (hS : S g) (hx : AnS S W (.agg #[v0, v1, v2, v3, v4, v5, v6]) x) :
    Row S W (AnS S W) (.slice (some ⟨g, 0, none⟩) 1 1) [x] :=
  ⟨[.agg #[v0, v1, v2, v3, v4, v5, v6]], .inr ⟨g, 1, _, T, f, rfl, hS, hb, by simp [flat, Value.cells]⟩, hx, trivial⟩

set_option maxHeartbeats 1000000 in
theorem elseIf_any {ps : List Tok} {M : Nat → Nat → R St} (hM : SaidIf ps M) (w : World) (b bp cap T : Nat) (q : RS) (r : Sum (Int × Int) (List St × Nat)) (h : Rdr w b bp cap T ps q)
    (hr : elseIfM ps M q.depth q.next = some r) :
    Calls Tryd.prog 113 #[.pointer (some ⟨b, 0, none⟩)] w (PostB b bp cap T ps q w r) := by
  have hbs := h.bsize
  have hps := h.lt
  have hfar := h.far
  have hmf := mkf
  have h0 := h.below ((Below.refl w.heap.size w).alloc (Nat.le_refl _) (.cells #[.pointer (some ⟨b, 0, none⟩)] 50))
  have hx0 := heap_alloc_new w (.cells #[.pointer (some ⟨b, 0, none⟩)] 50)
  unfold elseIfM at hr
  by_cases hd : 30 ≤ q.depth
  · rw [if_pos hd] at hr
    cases hr
    go_enter_defers Tryd.func113, Tryd.ntmps113
    go_wp2_with fail
    refine (enter_no _ _ _ _ _ _ _ h0 hd).mono ?_
    rintro e w1 ⟨rfl, hR, k1⟩
    go_wp2_with fail
    exact ⟨_, results_tmp2 Tryd.results113 _ _ _, ((Kept.refl _ _).alloc _).trans k1, _, _, _, _, rfl, hR⟩
  · rw [if_neg hd] at hr
    go_enter_defers Tryd.func113, Tryd.ntmps113
    go_wp2_with fail
    refine (enter_yes _ _ _ _ _ _ _ h0 (by omega)).mono ?_
    rintro e w1 ⟨rfl, hR, k1⟩
    have hs1 := k1.size
    simp at hs1
    have hbox := (k1.block w.heap.size (by simp) (by omega)).trans hx0
    have cb : w1.cell? ⟨w.heap.size, 0, none⟩ = some (.pointer (some ⟨b, 0, none⟩)) := by simp [World.cell?, hbox]
    have kw1 : Kept b w w1 := ((Kept.refl b w).alloc _).trans k1
    go_wp2_with fail
    rcases bindR_some hr with ⟨k, h1, rfl⟩ | ⟨x, n1, h1, h2⟩
    · refine (hM _ _ _ _ _ _ _ hR h1).mono ?_
      rintro e w2 ⟨k2, v, n', ⟨v0, v1, v2, a3, l3, c3, a4, l4, c4, a5, l5, c5, a6, l6, c6, rfl⟩, rfl, hR2⟩
      have hbox2 := (k2.block w.heap.size (by omega) (by omega)).trans hbox
      have hcb : w2.cell? ⟨w.heap.size, 0, none⟩ = some (.pointer (some ⟨b, 0, none⟩)) := by simp [World.cell?, hbox2]
      have hs2 := k2.size
      go_wp2_with fail
      have kx : Kept b w2 ((w2.alloc (.cells #[.int .i64 v0, .string v1, .string v2, .slice a3 l3 c3, .slice a4 l4 c4, .slice a5 l5 c5, .slice a6 l6 c6] 39)).alloc (.cells #[.int .i64 v0, .string v1, .string v2, .slice a3 l3 c3, .slice a4 l4 c4, .slice a5 l5 c5, .slice a6 l6 c6] 39)) := ((Kept.refl b w2).alloc _).alloc _
      refine leaves_cons (f := 123) (args := #[.pointer (some ⟨w.heap.size, 0, none⟩)]) (by simp) (by simp [go_sem]) ?_
      refine (leave_else _ b bp cap T w.heap.size ps _ .returning (hR2.below (((Below.refl _ _).alloc (Nat.le_refl _) _).alloc (by simp) _)) ((kx.cell w.heap.size 0 (by omega) (by omega)).trans hcb) (by simp)).mono ?_
      rintro e u' w3 ⟨rfl, rfl, hR3, k3⟩
      exact ⟨_, results_tmp2 Tryd.results113 _ _ _, kw1.trans (k2.trans (kx.trans k3)), _, _, _, _, rfl, (by simpa using hR3)⟩
    · cases h2
      refine (hM _ _ _ _ _ _ _ hR h1).mono ?_
      rintro e w2 ⟨k2, v, rfl, hA, hR2⟩
      obtain ⟨v0, v1, v2, a3, l3, c3, a4, l4, c4, a5, l5, c5, a6, l6, c6, rfl⟩ := hA.sh
      have hbox2 := (k2.block w.heap.size (by omega) (by omega)).trans hbox
      have hcb : w2.cell? ⟨w.heap.size, 0, none⟩ = some (.pointer (some ⟨b, 0, none⟩)) := by simp [World.cell?, hbox2]
      have hs2 := k2.size
      have kx : Kept b w2 ((w2.alloc (.cells #[.int .i64 v0, .string v1, .string v2, .slice a3 l3 c3, .slice a4 l4 c4, .slice a5 l5 c5, .slice a6 l6 c6] 39)).alloc (.cells #[.int .i64 v0, .string v1, .string v2, .slice a3 l3 c3, .slice a4 l4 c4, .slice a5 l5 c5, .slice a6 l6 c6] 39)) := ((Kept.refl b w2).alloc _).alloc _
      have hrow := rowS1 (S := fun g => w.heap.size ≤ g) (heap_alloc2 w2 (.cells #[.int .i64 v0, .string v1, .string v2, .slice a3 l3 c3, .slice a4 l4 c4, .slice a5 l5 c5, .slice a6 l6 c6] 39) (.cells #[.int .i64 v0, .string v1, .string v2, .slice a3 l3 c3, .slice a4 l4 c4, .slice a5 l5 c5, .slice a6 l6 c6] 39)).2 (by omega) (hA.own kx fun g hg => by omega)
      clear hA
      go_wp2_with fail
      refine leaves_cons (f := 123) (args := #[.pointer (some ⟨w.heap.size, 0, none⟩)]) (by simp) (by simp [go_sem]) ?_
      refine (leave_else _ b bp cap T w.heap.size ps _ .returning (hR2.below (((Below.refl _ _).alloc (Nat.le_refl _) _).alloc (by simp) _)) ((kx.cell w.heap.size 0 (by omega) (by omega)).trans hcb) (by simp)).mono ?_
      rintro e u' w3 ⟨rfl, rfl, hR3, k3⟩
      exact ⟨_, results_tmp2 Tryd.results113 _ _ _, kw1.trans (k2.trans (kx.trans k3)), _, _, rfl, RowS.own hrow k3 (fun g hg => by omega), (by simpa using hR3)⟩

def ifOneM (ps : List Tok) (E : Nat → Nat → R Ex) (B : Nat → Nat → R (List St)) (M : Nat → Nat → R St) (d n : Nat) : R St :=
  bindR (headedM E B d (st0 4 [] []) n) fun s n1 =>
    if isT (cur ps n1) 2 [101, 108, 115, 101] then
      (if isT (cur ps (n1 + 1)) 2 [105, 102] then bindR (elseIfM ps M d (n1 + 1 + 1)) fun l n2 => okR { s with els := l } n2
      else bindR (B d (n1 + 1)) fun l n2 => okR { s with els := l } n2)
    else okR s n1

/-- a statement whose Else is set: the rest is as it was -/
theorem AnS.setElse {S : Nat → Prop} {w : World} {u0 u1 u2 u3 u4 u5 u6 al : Value} {x : St} {xl : List St} (h : AnS S w (.agg #[u0, u1, u2, u3, u4, u5, u6]) x) (hl : Row S w (AnS S w) al xl) :
    AnS S w (.agg #[u0, u1, u2, u3, u4, al, u6]) { x with els := xl } := by
  obtain ⟨f, h⟩ := h
  cases f with
  | zero => exact h.elim
  | succ f =>
    obtain ⟨be, bb, bl, bc, hv, h1, h2, h3, h4⟩ := h
    simp at hv
    obtain ⟨rfl, rfl, rfl, rfl, rfl, rfl, rfl⟩ := hv
    exact AnS.mk x.kind x.s x.t x.exprs x.body xl x.cases h1 (h2.move (fun g h _ => ⟨h, rfl⟩) fun _ _ h => ⟨f, h⟩) hl (h4.move (fun g h _ => ⟨h, rfl⟩) fun _ _ h => h.move (fun g h _ => ⟨h, rfl⟩) fun _ _ h => ⟨f, h⟩)

set_option maxHeartbeats 3000000 in
theorem if_any {ps : List Tok} {E : Nat → Nat → R Ex} {B : Nat → Nat → R (List St)} {M : Nat → Nat → R St} (hE : SaidE ps E) (hB : SaidB ps B) (hM : SaidIf ps M) : SaidIf ps (ifOneM ps E B M) := by
  intro w b bp cap T q r h hr
  have hbs := h.bsize
  have hps := h.lt
  have hfar := h.far
  have h0 := h.below ((Below.refl w.heap.size w).alloc (Nat.le_refl _) (.cells #[.int .i64 0, .string ⟨#[]⟩, .string ⟨#[]⟩, .slice none 0 0, .slice none 0 0, .slice none 0 0, .slice none 0 0] 39))
  have hx0 := heap_alloc_new w (.cells #[.int .i64 0, .string ⟨#[]⟩, .string ⟨#[]⟩, .slice none 0 0, .slice none 0 0, .slice none 0 0, .slice none 0 0] 39)
  unfold ifOneM at hr
  go_enter Tryd.func98, Tryd.ntmps98
  go_wp2_with fail
  rcases bindR_some hr with ⟨k, h1, rfl⟩ | ⟨x, n1, h1, h2⟩
  · refine (headed_any hE hB _ b bp cap T q 4 [] [] _ h0 h1).mono ?_
    rintro e w2 ⟨k2, v, n', ⟨v0, v1, v2, a3, l3, c3, a4, l4, c4, a5, l5, c5, a6, l6, c6, rfl⟩, rfl, hR⟩
    have hs2 := k2.size
    simp at hs2
    have hblk := (k2.block w.heap.size (by simp) (by omega)).trans hx0
    have hc := cells7 hblk
    have hz := thaw4 hblk
    have hlt2 : w.heap.size < w2.heap.size := by omega
    go_wp2_with fail
    exact fin_stmt Tryd.results98 rfl rfl rfl (blk_alloc (store7 hblk _ _ _ _ _ _ _) _) (postS_bad h (((Kept.refl _ _).alloc _).trans k2) ((kept7 _ _ _ _ _ _ _ _ _).alloc _) (Nat.le_refl _) hR)
  · refine (headed_any hE hB _ b bp cap T q 4 [] [] _ h0 h1).mono ?_
    rintro e w2 ⟨k2, v, rfl, hA, hR⟩
    obtain ⟨v0, v1, v2, a3, l3, c3, a4, l4, c4, a5, l5, c5, a6, l6, c6, rfl⟩ := hA.sh
    have hs2 := k2.size
    simp at hs2
    have hblk2 := (k2.block w.heap.size (by simp) (by omega)).trans hx0
    have kw2 : Kept b w w2 := ((Kept.refl b w).alloc _).trans k2
    have hlt2 : w.heap.size < w2.heap.size := by omega
    have hR2 := hR.below ((Below.refl w2.heap.size w2).alloc (Nat.le_refl _) (.cells #[.int .i64 v0, .string v1, .string v2, .slice a3 l3 c3, .slice a4 l4 c4, .slice a5 l5 c5, .slice a6 l6 c6] 39))
    by_cases hT : isT (cur ps n1) 2 [101, 108, 115, 101] = true
    · rw [if_pos hT] at h2
      have HA2 : Hid (AnS (fun g => w.heap.size + 1 ≤ g) w2 (.agg #[.int .i64 v0, .string v1, .string v2, .slice a3 l3 c3, .slice a4 l4 c4, .slice a5 l5 c5, .slice a6 l6 c6]) x) := hA.move fun g hg _ => ⟨by simp at hg; omega, rfl⟩
      clear hA
      go_wp2_with fail
      refine (skip_yes _ _ _ _ _ _ _ _ _ hR2 rfl hT).mono ?_
      rintro e w3 ⟨rfl, hR3, k3⟩
      have hs3 := k3.size
      simp at hs3
      have hsb3 := (k3.block w2.heap.size (by simp) (by omega)).trans (heap_alloc_new w2 _)
      have hxb3 := (k3.block w.heap.size (by simp; omega) (by omega)).trans (blk_alloc hblk2 _)
      have kw3 : Kept b w w3 := (kw2.alloc _).trans k3
      by_cases hT2 : isT (cur ps (n1 + 1)) 2 [105, 102] = true
      · rw [if_pos hT2] at h2
        go_wp2_with fail
        refine (skip_yes _ _ _ _ _ _ _ _ _ hR3 rfl hT2).mono ?_
        rintro e w4 ⟨rfl, hR4, k4⟩
        have hs4 := k4.size
        have hsb4 := (k4.block w2.heap.size (by omega) (by omega)).trans hsb3
        have hxb4 := (k4.block w.heap.size (by omega) (by omega)).trans hxb3
        have kw4 := kw3.trans k4
        have hA4 : AnS (fun g => w.heap.size < g ∧ g ≠ w2.heap.size) w4 _ x := HA2.out.move fun g hg hlt => ⟨by omega, (k4.block g (by omega) (by omega)).trans ((k3.block g (by simp; omega) (by omega)).trans (Below.heap_alloc _ _ _ hlt))⟩
        go_wp2_with fail
        rcases bindR_some h2 with ⟨k, h8, rfl⟩ | ⟨l, n8, h8, h9⟩
        · refine (elseIf_any hM _ b bp cap T _ _ hR4 h8).mono ?_
          rintro e w5 ⟨k5, a, l, c, n', rfl, hR5⟩
          have hs5 := k5.size
          have hsb5 := (k5.block w2.heap.size (by omega) (by omega)).trans hsb4
          have hxb5 := (k5.block w.heap.size (by omega) (by omega)).trans hxb4
          have hc5 := cells7 hsb5
          have hz5 := thaw4 hsb5
          have hd5 := cells7 hxb5
          have hy5 := thaw4 hxb5
          have kZ : Kept w2.heap.size w5 (w5.setCell ⟨w2.heap.size, 5, none⟩ (.slice a l c)) := (Kept.refl _ _).setCell _ _
          go_wp2_with fail
          exact fin_stmt Tryd.results98 rfl rfl rfl (store7 ((kZ.block _ (by omega) (by omega)).trans hxb5) _ _ _ _ _ _ _) (postS_bad h ((kw4.trans k5).own kZ (by omega)) (kept7 _ _ _ _ _ _ _ _ _) (by omega) (hR5.own kZ (by omega) (by omega) (by omega)))
        · cases h9
          refine (elseIf_any hM _ b bp cap T _ _ hR4 h8).mono ?_
          rintro e w5 ⟨k5, a, c, rfl, hrl, hR5⟩
          have hs5 := k5.size
          have hsb5 := (k5.block w2.heap.size (by omega) (by omega)).trans hsb4
          have hxb5 := (k5.block w.heap.size (by omega) (by omega)).trans hxb4
          have hc5 := cells7 hsb5
          have hz5 := thaw4 hsb5
          have hd5 := cells7 hxb5
          have hy5 := thaw4 hxb5
          have kZ : Kept w2.heap.size w5 (w5.setCell ⟨w2.heap.size, 5, none⟩ (.slice a l.length c)) := (Kept.refl _ _).setCell _ _
          have hA5 : AnS (fun g => w.heap.size < g ∧ g ≠ w2.heap.size) w5 _ x := hA4.own k5 (fun g hg => ⟨by omega, hg⟩)
          have hA6 := (hA5.own (S' := fun g => w.heap.size ≤ g ∧ g ≠ w.heap.size) kZ (fun g hg => by omega)).setElse (RowS.own hrl kZ (fun g hg => by omega))
          have HA : Hid (_) := hA6
          clear hA5 hA6 hrl hA4
          go_wp2_with fail
          exact fin_stmt Tryd.results98 rfl rfl rfl (store7 ((kZ.block _ (by omega) (by omega)).trans hxb5) _ _ _ _ _ _ _) (postS_ok h ((kw4.trans k5).own kZ (by omega)) (kept7 _ _ _ _ _ _ _ _ _) (by omega) (hR5.own kZ (by omega) (by omega) (by omega)) HA.out)
      · rw [if_neg hT2] at h2
        have hT2' : isT (cur ps (n1 + 1)) 2 [105, 102] = false := by simpa using hT2
        clear hT2
        go_wp2_with fail
        refine (skip_no _ _ _ _ _ _ _ _ _ hR3 hT2').mono ?_
        rintro e w4 ⟨rfl, hR4, k4⟩
        have hs4 := k4.size
        have hsb4 := (k4.block w2.heap.size (by omega) (by omega)).trans hsb3
        have hxb4 := (k4.block w.heap.size (by omega) (by omega)).trans hxb3
        have kw4 := kw3.trans k4
        have hA4 : AnS (fun g => w.heap.size < g ∧ g ≠ w2.heap.size) w4 _ x := HA2.out.move fun g hg hlt => ⟨by omega, (k4.block g (by omega) (by omega)).trans ((k3.block g (by simp; omega) (by omega)).trans (Below.heap_alloc _ _ _ hlt))⟩
        go_wp2_with fail
        rcases bindR_some h2 with ⟨k, h8, rfl⟩ | ⟨l, n8, h8, h9⟩
        · refine (hB _ b bp cap T _ _ hR4 h8).mono ?_
          rintro e w5 ⟨k5, a, l, c, n', rfl, hR5⟩
          have hs5 := k5.size
          have hsb5 := (k5.block w2.heap.size (by omega) (by omega)).trans hsb4
          have hxb5 := (k5.block w.heap.size (by omega) (by omega)).trans hxb4
          have hc5 := cells7 hsb5
          have hz5 := thaw4 hsb5
          have hd5 := cells7 hxb5
          have hy5 := thaw4 hxb5
          have kZ : Kept w2.heap.size w5 (w5.setCell ⟨w2.heap.size, 5, none⟩ (.slice a l c)) := (Kept.refl _ _).setCell _ _
          go_wp2_with fail
          exact fin_stmt Tryd.results98 rfl rfl rfl (store7 ((kZ.block _ (by omega) (by omega)).trans hxb5) _ _ _ _ _ _ _) (postS_bad h ((kw4.trans k5).own kZ (by omega)) (kept7 _ _ _ _ _ _ _ _ _) (by omega) (hR5.own kZ (by omega) (by omega) (by omega)))
        · cases h9
          refine (hB _ b bp cap T _ _ hR4 h8).mono ?_
          rintro e w5 ⟨k5, a, c, rfl, hrl, hR5⟩
          have hs5 := k5.size
          have hsb5 := (k5.block w2.heap.size (by omega) (by omega)).trans hsb4
          have hxb5 := (k5.block w.heap.size (by omega) (by omega)).trans hxb4
          have hc5 := cells7 hsb5
          have hz5 := thaw4 hsb5
          have hd5 := cells7 hxb5
          have hy5 := thaw4 hxb5
          have kZ : Kept w2.heap.size w5 (w5.setCell ⟨w2.heap.size, 5, none⟩ (.slice a l.length c)) := (Kept.refl _ _).setCell _ _
          have hA5 : AnS (fun g => w.heap.size < g ∧ g ≠ w2.heap.size) w5 _ x := hA4.own k5 (fun g hg => ⟨by omega, hg⟩)
          have hA6 := (hA5.own (S' := fun g => w.heap.size ≤ g ∧ g ≠ w.heap.size) kZ (fun g hg => by omega)).setElse (RowS.own hrl kZ (fun g hg => by omega))
          have HA : Hid (_) := hA6
          clear hA5 hA6 hrl hA4
          go_wp2_with fail
          exact fin_stmt Tryd.results98 rfl rfl rfl (store7 ((kZ.block _ (by omega) (by omega)).trans hxb5) _ _ _ _ _ _ _) (postS_ok h ((kw4.trans k5).own kZ (by omega)) (kept7 _ _ _ _ _ _ _ _ _) (by omega) (hR5.own kZ (by omega) (by omega) (by omega)) HA.out)
    · rw [if_neg hT] at h2
      have hT' : isT (cur ps n1) 2 [101, 108, 115, 101] = false := by simpa using hT
      clear hT
      cases h2
      have HA2 : Hid (AnS (fun g => w.heap.size + 1 ≤ g) w2 (.agg #[.int .i64 v0, .string v1, .string v2, .slice a3 l3 c3, .slice a4 l4 c4, .slice a5 l5 c5, .slice a6 l6 c6]) x) := hA.move fun g hg _ => ⟨by simp at hg; omega, rfl⟩
      clear hA
      go_wp2_with fail
      refine (skip_no _ _ _ _ _ _ _ _ _ hR2 hT').mono ?_
      rintro e w3 ⟨rfl, hR3, k3⟩
      have hs3 := k3.size
      simp at hs3
      have hsb3 := cells7 ((k3.block w2.heap.size (by simp) (by omega)).trans (heap_alloc_new w2 _))
      have hxb3 := (k3.block w.heap.size (by simp; omega) (by omega)).trans (blk_alloc hblk2 _)
      have kw3 : Kept b w w3 := (kw2.alloc _).trans k3
      have hc3 := cells7 hxb3
      have hz3 := thaw4 hxb3
      have hA3 : AnS (fun g => w.heap.size ≤ g ∧ g ≠ w.heap.size) w3 _ x := HA2.out.move fun g hg hlt => ⟨by omega, (k3.block g (by simp; omega) (by omega)).trans (Below.heap_alloc _ _ _ hlt)⟩
      have HA : Hid _ := hA3
      clear hA3
      go_wp2_with fail
      exact fin_stmt Tryd.results98 rfl rfl rfl (store7 hxb3 _ _ _ _ _ _ _) (postS_ok h kw3 (kept7 _ _ _ _ _ _ _ _ _) (by omega) hR3 HA.out)

theorem if_said {ps : List Tok} {E : Nat → Nat → R Ex} {B : Nat → Nat → R (List St)} (hE : SaidE ps E) (hB : SaidB ps B) : ∀ f, SaidIf ps (ifM ps E B f)
  | 0 => fun w b bp cap T q r h hr => by simp [ifM] at hr
  | f + 1 => fun w b bp cap T q r h hr => by
    refine if_any hE hB (if_said hE hB f) w b bp cap T q r h ?_
    unfold ifM at hr
    unfold ifOneM
    rcases bindR_some hr with ⟨k, h1, rfl⟩ | ⟨x, n1, h1, h2⟩
    · rw [h1]; rfl
    · rw [h1]
      show (if _ then _ else _) = _
      by_cases hT : isT (cur ps n1) 2 [101, 108, 115, 101] = true
      · rw [if_pos hT] at h2 ⊢
        by_cases hT2 : isT (cur ps (n1 + 1)) 2 [105, 102] = true
        · rw [if_pos hT2] at h2 ⊢
          unfold elseIfM
          by_cases hd : 30 ≤ q.depth
          · rw [if_pos hd] at h2 ⊢
            cases h2; rfl
          · rw [if_neg hd] at h2 ⊢
            rcases bindR_some h2 with ⟨k, h3, rfl⟩ | ⟨y, n2, h3, h4⟩
            · rw [h3]; rfl
            · rw [h3]; exact h4
        · rw [if_neg hT2] at h2 ⊢
          exact h2
      · rw [if_neg hT] at h2 ⊢
        exact h2

end Go.Proofs.YtgifghcaeoinoaaDoor
