/-
  Expressions: negated, firstPart.
-/
import Derived.Test.YtgifghcaeoinoaaDoorRdN
namespace Go.Proofs.YtgifghcaeoinoaaDoor
open Go.RowKit
set_option linter.unusedSimpArgs false
set_option linter.unusedVariables false

/-- the contract of single, at whatever model -/
def SaidS (ps : List Tok) (M : Nat → Nat → R Ex) : Prop :=
  ∀ (w : World) (b bp cap T : Nat) (q : RS) (r : Sum (Int × Int) (Ex × Nat)), Rdr w b bp cap T ps q → M q.depth q.next = some r →
    Calls Tryd.prog 125 #[.pointer (some ⟨b, 0, none⟩)] w (PostE b bp cap T ps q w r)

theorem row1 {S : Nat → Prop} {W : World} {g : Nat} {v0 v1 v2 v3 : Value} {T : TypeId} {f : Nat × Nat} {x : Ex} (hb : W.heap[g]? = some (.cells #[v0, v1, v2, v3] T f)) (hS : S g) (hx : AnE S W (.agg #[v0, v1, v2, v3]) x) :
    Row S W (AnE S W) (.slice (some ⟨g, 0, none⟩) 1 1) [x] :=
  ⟨[.agg #[v0, v1, v2, v3]], .inr ⟨g, 1, _, T, f, rfl, hS, hb, by simp [flat, Value.cells]⟩, hx, trivial⟩

theorem row2 {S : Nat → Prop} {W : World} {g : Nat} {v0 v1 v2 v3 u0 u1 u2 u3 : Value} {T : TypeId} {f : Nat × Nat} {x y : Ex} (hb : W.heap[g]? = some (.cells #[v0, v1, v2, v3, u0, u1, u2, u3] T f)) (hS : S g) (hx : AnE S W (.agg #[v0, v1, v2, v3]) x)
    (hy : AnE S W (.agg #[u0, u1, u2, u3]) y) : Row S W (AnE S W) (.slice (some ⟨g, 0, none⟩) 2 2) [x, y] :=
  ⟨[.agg #[v0, v1, v2, v3], .agg #[u0, u1, u2, u3]], .inr ⟨g, 2, _, T, f, rfl, hS, hb, by simp [flat, Value.cells]⟩, hx, hy, trivial⟩

theorem postE_okW {b bp cap T : Nat} {ps : List Tok} {q : RS} {w w2 W : World} {t : Ex} {n' x : Nat} {v : Value} (h : Rdr w b bp cap T ps q)
    (kw : Kept b w w2) (kx : Kept x w2 W) (hx : w.heap.size ≤ x) (hR : Rdr w2 b bp cap T ps { q with next := n' }) (hA : AnE (fun g => w.heap.size ≤ g) W v t) :
    PostE b bp cap T ps q w (.inr (t, n')) (.returned (.tuple #[v, .bool true])) W := by
  have h1 := h.bsize; have h2 := h.lt; have h3 := h.far
  exact ⟨kw.own kx hx, v, rfl, hA, hR.own kx (by omega) (by omega) (by omega)⟩

theorem postE_okWD {b bp cap T : Nat} {ps : List Tok} {q : RS} {w w2 W w3 : World} {t : Ex} {n' x : Nat} {v : Value} (h : Rdr w b bp cap T ps q)
    (kw : Kept b w w2) (kx : Kept x w2 W) (hx : w.heap.size ≤ x) (k3 : Kept b W w3) (hR : Rdr w3 b bp cap T ps { q with next := n' }) (hA : AnE (fun g => w.heap.size ≤ g) W v t) :
    PostE b bp cap T ps q w (.inr (t, n')) (.returned (.tuple #[v, .bool true])) w3 := by
  have h1 := h.bsize
  exact ⟨(kw.own kx hx).trans k3, v, rfl, hA.move fun g hg hlt => ⟨hg, k3.block g hlt (by omega)⟩, hR⟩

def negatedM (ps : List Tok) (M : Nat → Nat → R Ex) (d : Nat) (op : List UInt8) (n : Nat) : R Ex :=
  if 30 ≤ d then badR ((cur ps n).at_, 8) else bindR (M (d + 1) n) fun x n' => okR ⟨6, 0, op, [x]⟩ n'

theorem size_store4 (w : World) (x : Nat) (v0 v1 v2 v3 : Value) : ((((w.setCell ⟨x, 0, none⟩ v0).setCell ⟨x, 1, none⟩ v1).setCell ⟨x, 2, none⟩ v2).setCell ⟨x, 3, none⟩ v3).heap.size = w.heap.size := by
  simp [World.setCell]

set_option maxHeartbeats 1000000 in
theorem negated_any {ps : List Tok} {M : Nat → Nat → R Ex} (hM : SaidS ps M) (w : World) (b bp cap T : Nat) (q : RS) (op : List UInt8) (r : Sum (Int × Int) (Ex × Nat)) (h : Rdr w b bp cap T ps q)
    (hr : negatedM ps M q.depth op q.next = some r) :
    Calls Tryd.prog 127 #[.pointer (some ⟨b, 0, none⟩), .string ⟨op.toArray⟩] w (PostE b bp cap T ps q w r) := by
  have hbs := h.bsize
  have hps := h.lt
  have hfar := h.far
  have hmf := mkf
  have h0 := fun o1 o2 => h.below (((Below.refl w.heap.size w).alloc (Nat.le_refl _) o1).alloc (by simp) o2)
  unfold negatedM at hr
  by_cases hd : 30 ≤ q.depth
  · rw [if_pos hd] at hr
    cases hr
    go_enter_defers Tryd.func127, Tryd.ntmps127
    go_wp2_with fail
    refine (enter_no _ _ _ _ _ _ _ (h0 _ _) hd).mono ?_
    rintro e w1 ⟨rfl, hR, k1⟩
    have hblk := (k1.block (w.heap.size + 1) (by simp) (by omega)).trans (heap_alloc2 w _ _).2
    have hc := cells4 hblk
    have hz := thaw4 hblk
    go_wp2_with fail
    exact ⟨_, res_expr Tryd.results127 rfl rfl (store4 hblk _ _ _ _), postE_bad h ((((Kept.refl _ _).alloc _).alloc _).trans k1) (kept4 _ _ _ _ _ _) (by omega) hR⟩
  · rw [if_neg hd] at hr
    go_enter_defers Tryd.func127, Tryd.ntmps127
    go_wp2_with fail
    refine (enter_yes _ _ _ _ _ _ _ (h0 _ _) (by omega)).mono ?_
    rintro e w1 ⟨rfl, hR, k1⟩
    have hs1 := k1.size
    simp at hs1
    have hbox := (k1.block w.heap.size (by simp; omega) (by omega)).trans (heap_alloc2 w _ _).1
    have hblk := (k1.block (w.heap.size + 1) (by simp) (by omega)).trans (heap_alloc2 w _ _).2
    have cb : w1.cell? ⟨w.heap.size, 0, none⟩ = some (.pointer (some ⟨b, 0, none⟩)) := by simp [World.cell?, hbox]
    go_wp2_with fail
    rcases bindR_some hr with ⟨k, h1, rfl⟩ | ⟨x, n1, h1, h2⟩
    · refine (hM _ _ _ _ _ _ _ hR h1).mono ?_
      rintro e w2 ⟨k2, v, n', ⟨v0, v1, v2, a3, l3, c3, rfl⟩, rfl, hR2⟩
      have hblk2 := (k2.block (w.heap.size + 1) (by omega) (by omega)).trans hblk
      have hbox2 := (k2.block w.heap.size (by omega) (by omega)).trans hbox
      have hc := cells4 hblk2
      have hz := thaw4 hblk2
      have hcb : w2.cell? ⟨w.heap.size, 0, none⟩ = some (.pointer (some ⟨b, 0, none⟩)) := by simp [World.cell?, hbox2]
      have hs2 := k2.size
      have hlt2 : w.heap.size + 1 < w2.heap.size := by omega
      have hlt3 : w.heap.size < w2.heap.size := by omega
      go_wp2_with fail
      have kx := ((kept4 (w.heap.size + 1) w2 (.int .i64 6) (.int .i64 0) (.string ⟨op.toArray⟩) (.slice (some ⟨w2.heap.size + 1, 0, none⟩) 1 1)).alloc (.cells #[.int .i64 v0, .int .i64 v1, .string v2, .slice a3 l3 c3] 35)).alloc (.cells #[.int .i64 v0, .int .i64 v1, .string v2, .slice a3 l3 c3] 35)
      refine leaves_cons (f := 129) (args := #[.pointer (some ⟨w.heap.size, 0, none⟩)]) (by simp) (by simp [go_sem]) ?_
      refine (leave_neg _ b bp cap T w.heap.size ps _ .returning (hR2.own kx (by omega) (by omega) (by omega)) ((kx.cell w.heap.size 0 (by omega) (by omega)).trans hcb) (by simp)).mono ?_
      rintro e u' w3 ⟨rfl, rfl, hR3, k3⟩
      exact ⟨_, res_expr Tryd.results127 rfl rfl ((k3.block (w.heap.size + 1) (by have := kx.size; omega) (by omega)).trans (blk_alloc (blk_alloc (store4 hblk2 _ _ _ _) _) _)), postE_badD h ((((Kept.refl _ _).alloc _).alloc _).trans (k1.trans k2)) kx (by omega) k3 (by simpa using hR3)⟩
    · cases h2
      refine (hM _ _ _ _ _ _ _ hR h1).mono ?_
      rintro e w2 ⟨k2, v, rfl, hA, hR2⟩
      obtain ⟨v0, v1, v2, a3, l3, c3, rfl⟩ := hA.sh
      have hblk2 := (k2.block (w.heap.size + 1) (by omega) (by omega)).trans hblk
      have hbox2 := (k2.block w.heap.size (by omega) (by omega)).trans hbox
      have hc := cells4 hblk2
      have hz := thaw4 hblk2
      have hcb : w2.cell? ⟨w.heap.size, 0, none⟩ = some (.pointer (some ⟨b, 0, none⟩)) := by simp [World.cell?, hbox2]
      have hs2 := k2.size
      have hlt2 : w.heap.size + 1 < w2.heap.size := by omega
      have hlt3 : w.heap.size < w2.heap.size := by omega
      go_wp2_with fail
      have kx := ((kept4 (w.heap.size + 1) w2 (.int .i64 6) (.int .i64 0) (.string ⟨op.toArray⟩) (.slice (some ⟨w2.heap.size + 1, 0, none⟩) 1 1)).alloc (.cells #[.int .i64 v0, .int .i64 v1, .string v2, .slice a3 l3 c3] 35)).alloc (.cells #[.int .i64 v0, .int .i64 v1, .string v2, .slice a3 l3 c3] 35)
      refine leaves_cons (f := 129) (args := #[.pointer (some ⟨w.heap.size, 0, none⟩)]) (by simp) (by simp [go_sem]) ?_
      refine (leave_neg _ b bp cap T w.heap.size ps _ .returning (hR2.own kx (by omega) (by omega) (by omega)) ((kx.cell w.heap.size 0 (by omega) (by omega)).trans hcb) (by simp)).mono ?_
      rintro e u' w3 ⟨rfl, rfl, hR3, k3⟩
      have hrow := (heap_alloc2 ((((w2.setCell ⟨w.heap.size + 1, 0, none⟩ (.int .i64 6)).setCell ⟨w.heap.size + 1, 1, none⟩ (.int .i64 0)).setCell ⟨w.heap.size + 1, 2, none⟩ (.string ⟨op.toArray⟩)).setCell ⟨w.heap.size + 1, 3, none⟩ (.slice (some ⟨w2.heap.size + 1, 0, none⟩) 1 1)) (.cells #[.int .i64 v0, .int .i64 v1, .string v2, .slice a3 l3 c3] 35) (.cells #[.int .i64 v0, .int .i64 v1, .string v2, .slice a3 l3 c3] 35)).2
      rw [size_store4] at hrow
      exact ⟨_, res_expr Tryd.results127 rfl rfl ((k3.block (w.heap.size + 1) (by have := kx.size; omega) (by omega)).trans (blk_alloc (blk_alloc (store4 hblk2 _ _ _ _) _) _)), postE_okWD h ((((Kept.refl _ _).alloc _).alloc _).trans (k1.trans k2)) kx (by omega) k3 (by simpa using hR3)
        (AnE.mk 6 0 op [x] (row1 hrow (by omega) (hA.own kx fun g hg => ⟨by omega, by omega⟩)))⟩

set_option maxHeartbeats 2000000 in
theorem firstPart_any {ps : List Tok} {E : Nat → Nat → R Ex} (hE : SaidE ps E) (w : World) (b bp cap T f : Nat) (hf : f ≤ 1000000) (q : RS) (r : Sum (Int × Int) (Ex × Nat)) (h : Rdr w b bp cap T ps q)
    (hr : firstM ps E f q.depth q.next = some r) :
    Calls Tryd.prog 128 #[.pointer (some ⟨b, 0, none⟩)] w (PostE b bp cap T ps q w r) := by
  have hbs := h.bsize
  have hps := h.lt
  have hfar := h.far
  have h0 := h.below ((Below.refl w.heap.size w).alloc (Nat.le_refl _) (.cells #[.int .i64 0, .int .i64 0, .string ⟨#[]⟩, .slice none 0 0] 35))
  unfold firstM at hr
  rcases hk3 : ((cur ps q.next).kind == 3) with _ | _
  · rw [hk3, if_neg (by simp)] at hr
    rcases hk4 : ((cur ps q.next).kind == 4) with _ | _
    · rw [hk4, if_neg (by simp)] at hr
      rcases hk1 : ((cur ps q.next).kind == 1) with _ | _
      · rw [hk1, if_neg (by simp)] at hr
        rcases hk2 : ((cur ps q.next).kind == 2) with _ | _
        · rw [hk2, if_neg (by simp)] at hr
          go_enter Tryd.func128, Tryd.ntmps128
          go_wp2_with fail
          refine (peek_any _ _ _ _ _ _ _ h0).mono ?_
          rintro e w1 ⟨rfl, hb1⟩
          have h1 := h0.below hb1
          have hs1 := hb1.size
          simp at hs1
          have hx1 := (hb1.block w.heap.size (by simp)).trans (heap_alloc_new w _)
          have hR1 := h1.below ((Below.refl w1.heap.size w1).alloc (Nat.le_refl _) (.cells #[.int .i64 (cur ps q.next).kind, .int .i64 (cur ps q.next).at_, .int .i64 (cur ps q.next).n, .string ⟨(cur ps q.next).s.toArray⟩] 78))
          have hp1 := heap_alloc_new w1 (.cells #[.int .i64 (cur ps q.next).kind, .int .i64 (cur ps q.next).at_, .int .i64 (cur ps q.next).n, .string ⟨(cur ps q.next).s.toArray⟩] 78)
          have hx1' := blk_alloc hx1 (.cells #[.int .i64 (cur ps q.next).kind, .int .i64 (cur ps q.next).at_, .int .i64 (cur ps q.next).n, .string ⟨(cur ps q.next).s.toArray⟩] 78)
          have k0 : Kept b w (w1.alloc (.cells #[.int .i64 (cur ps q.next).kind, .int .i64 (cur ps q.next).at_, .int .i64 (cur ps q.next).n, .string ⟨(cur ps q.next).s.toArray⟩] 78)) := ((((Kept.refl b w).alloc _).trans (Kept.of_below hb1)).alloc _)
          unfold Tok.val
          go_wp2_with fail
          refine (bracketed_any hE _ b bp cap T q r hR1 hr).mono ?_
          intro e w3 hP
          have hx2 := hx1'
          have hsz : w.heap.size < (w1.alloc (.cells #[.int .i64 (cur ps q.next).kind, .int .i64 (cur ps q.next).at_, .int .i64 (cur ps q.next).n, .string ⟨(cur ps q.next).s.toArray⟩] 78)).heap.size := by simp; omega
          cases r with
          | inl k =>
            obtain ⟨k3, v, n', ⟨v0, v1, v2, a3, l3, c3, rfl⟩, rfl, hR⟩ := hP
            have hblk := (k3.block w.heap.size (by omega) (by omega)).trans hx2
            have hc := cells4 hblk
            have hz := thaw4 hblk
            go_wp2_with fail
            exact fin_expr Tryd.results128 rfl rfl rfl (store4 hblk _ _ _ _) (postE_bad h (k0.trans k3) (kept4 _ _ _ _ _ _) (by omega) hR)
          | inr x =>
            obtain ⟨k3, v, rfl, hA, hR⟩ := hP
            obtain ⟨v0, v1, v2, a3, l3, c3, rfl⟩ := hA.sh
            have hblk := (k3.block w.heap.size (by omega) (by omega)).trans hx2
            have hc := cells4 hblk
            have hz := thaw4 hblk
            have hA' : AnE (fun g => w.heap.size ≤ g ∧ g ≠ w.heap.size) w3 _ x.1 := hA.move fun g hg _ => ⟨by omega, rfl⟩
            clear hA
            go_wp2_with fail
            exact fin_expr Tryd.results128 rfl rfl rfl (store4 hblk _ _ _ _) (postE_ok h (k0.trans k3) (kept4 _ _ _ _ _ _) (by omega) hR hA')
        · rw [hk2, if_pos rfl] at hr
          have hkk : ((cur ps q.next).kind != 0) = true := by simp at hk2 ⊢; omega
          go_enter Tryd.func128, Tryd.ntmps128
          go_wp2_with fail
          refine (peek_any _ _ _ _ _ _ _ h0).mono ?_
          rintro e w1 ⟨rfl, hb1⟩
          have h1 := h0.below hb1
          have hs1 := hb1.size
          simp at hs1
          have hx1 := (hb1.block w.heap.size (by simp)).trans (heap_alloc_new w _)
          have hR1 := h1.below ((Below.refl w1.heap.size w1).alloc (Nat.le_refl _) (.cells #[.int .i64 (cur ps q.next).kind, .int .i64 (cur ps q.next).at_, .int .i64 (cur ps q.next).n, .string ⟨(cur ps q.next).s.toArray⟩] 78))
          have hp1 := heap_alloc_new w1 (.cells #[.int .i64 (cur ps q.next).kind, .int .i64 (cur ps q.next).at_, .int .i64 (cur ps q.next).n, .string ⟨(cur ps q.next).s.toArray⟩] 78)
          have hx1' := blk_alloc hx1 (.cells #[.int .i64 (cur ps q.next).kind, .int .i64 (cur ps q.next).at_, .int .i64 (cur ps q.next).n, .string ⟨(cur ps q.next).s.toArray⟩] 78)
          have k0 : Kept b w (w1.alloc (.cells #[.int .i64 (cur ps q.next).kind, .int .i64 (cur ps q.next).at_, .int .i64 (cur ps q.next).n, .string ⟨(cur ps q.next).s.toArray⟩] 78)) := ((((Kept.refl b w).alloc _).trans (Kept.of_below hb1)).alloc _)
          unfold Tok.val
          go_wp2_with fail
          have hsz : w.heap.size < (w1.alloc (.cells #[.int .i64 (cur ps q.next).kind, .int .i64 (cur ps q.next).at_, .int .i64 (cur ps q.next).n, .string ⟨(cur ps q.next).s.toArray⟩] 78)).heap.size := by simp; omega
          have hkp := keywordPart_any hE _ b bp cap T f hf q r hR1 hkk hr
          unfold Tok.val at hkp
          refine hkp.mono ?_
          intro e w3 hP
          have hx2 := hx1'
          cases r with
          | inl k =>
            obtain ⟨k3, v, n', ⟨v0, v1, v2, a3, l3, c3, rfl⟩, rfl, hR⟩ := hP
            have hblk := (k3.block w.heap.size (by omega) (by omega)).trans hx2
            have hc := cells4 hblk
            have hz := thaw4 hblk
            go_wp2_with fail
            exact fin_expr Tryd.results128 rfl rfl rfl (store4 hblk _ _ _ _) (postE_bad h (k0.trans k3) (kept4 _ _ _ _ _ _) (by omega) hR)
          | inr x =>
            obtain ⟨k3, v, rfl, hA, hR⟩ := hP
            obtain ⟨v0, v1, v2, a3, l3, c3, rfl⟩ := hA.sh
            have hblk := (k3.block w.heap.size (by omega) (by omega)).trans hx2
            have hc := cells4 hblk
            have hz := thaw4 hblk
            have hA' : AnE (fun g => w.heap.size ≤ g ∧ g ≠ w.heap.size) w3 _ x.1 := hA.move fun g hg _ => ⟨by omega, rfl⟩
            clear hA
            go_wp2_with fail
            exact fin_expr Tryd.results128 rfl rfl rfl (store4 hblk _ _ _ _) (postE_ok h (k0.trans k3) (kept4 _ _ _ _ _ _) (by omega) hR hA')
      · rw [hk1, if_pos rfl] at hr
        have hkk : ((cur ps q.next).kind != 0) = true := by simp at hk1 ⊢; omega
        go_enter Tryd.func128, Tryd.ntmps128
        go_wp2_with fail
        refine (peek_any _ _ _ _ _ _ _ h0).mono ?_
        rintro e w1 ⟨rfl, hb1⟩
        have h1 := h0.below hb1
        have hs1 := hb1.size
        simp at hs1
        have hx1 := (hb1.block w.heap.size (by simp)).trans (heap_alloc_new w _)
        have hR1 := h1.below ((Below.refl w1.heap.size w1).alloc (Nat.le_refl _) (.cells #[.int .i64 (cur ps q.next).kind, .int .i64 (cur ps q.next).at_, .int .i64 (cur ps q.next).n, .string ⟨(cur ps q.next).s.toArray⟩] 78))
        have hp1 := heap_alloc_new w1 (.cells #[.int .i64 (cur ps q.next).kind, .int .i64 (cur ps q.next).at_, .int .i64 (cur ps q.next).n, .string ⟨(cur ps q.next).s.toArray⟩] 78)
        have hx1' := blk_alloc hx1 (.cells #[.int .i64 (cur ps q.next).kind, .int .i64 (cur ps q.next).at_, .int .i64 (cur ps q.next).n, .string ⟨(cur ps q.next).s.toArray⟩] 78)
        have k0 : Kept b w (w1.alloc (.cells #[.int .i64 (cur ps q.next).kind, .int .i64 (cur ps q.next).at_, .int .i64 (cur ps q.next).n, .string ⟨(cur ps q.next).s.toArray⟩] 78)) := ((((Kept.refl b w).alloc _).trans (Kept.of_below hb1)).alloc _)
        unfold Tok.val
        go_wp2_with fail
        refine (step_any _ _ _ _ _ _ _ hR1 hkk).mono ?_
        rintro e w2 ⟨rfl, hR2, k2⟩
        have hs2 := k2.size
        simp at hs2
        have hx2 := (k2.block w.heap.size (by simp; omega) (by omega)).trans hx1'
        have hp2 := (k2.block w1.heap.size (by simp) (by omega)).trans hp1
        obtain ⟨_, pp1, pp2, pp3⟩ := cells4 hp2
        have kk := k0.trans k2
        go_wp2_with fail
        refine (named_any hE _ b bp cap T f hf _ _ r hR2 hr).mono ?_
        intro e w3 hP
        cases r with
        | inl k =>
          obtain ⟨k3, v, n', ⟨v0, v1, v2, a3, l3, c3, rfl⟩, rfl, hR⟩ := hP
          have hblk := (k3.block w.heap.size (by omega) (by omega)).trans hx2
          have hc := cells4 hblk
          have hz := thaw4 hblk
          go_wp2_with fail
          exact fin_expr Tryd.results128 rfl rfl rfl (store4 hblk _ _ _ _) (postE_bad h (kk.trans k3) (kept4 _ _ _ _ _ _) (by omega) hR)
        | inr x =>
          obtain ⟨k3, v, rfl, hA, hR⟩ := hP
          obtain ⟨v0, v1, v2, a3, l3, c3, rfl⟩ := hA.sh
          have hblk := (k3.block w.heap.size (by omega) (by omega)).trans hx2
          have hc := cells4 hblk
          have hz := thaw4 hblk
          have hA' : AnE (fun g => w.heap.size ≤ g ∧ g ≠ w.heap.size) w3 _ x.1 := hA.move fun g hg _ => ⟨by omega, rfl⟩
          clear hA
          go_wp2_with fail
          exact fin_expr Tryd.results128 rfl rfl rfl (store4 hblk _ _ _ _) (postE_ok h (kk.trans k3) (kept4 _ _ _ _ _ _) (by omega) hR hA')
    · rw [hk4, if_pos rfl] at hr
      cases hr
      have hkk : ((cur ps q.next).kind != 0) = true := by simp at hk4 ⊢; omega
      go_enter Tryd.func128, Tryd.ntmps128
      go_wp2_with fail
      refine (peek_any _ _ _ _ _ _ _ h0).mono ?_
      rintro e w1 ⟨rfl, hb1⟩
      have h1 := h0.below hb1
      have hs1 := hb1.size
      simp at hs1
      have hx1 := (hb1.block w.heap.size (by simp)).trans (heap_alloc_new w _)
      have hR1 := h1.below ((Below.refl w1.heap.size w1).alloc (Nat.le_refl _) (.cells #[.int .i64 (cur ps q.next).kind, .int .i64 (cur ps q.next).at_, .int .i64 (cur ps q.next).n, .string ⟨(cur ps q.next).s.toArray⟩] 78))
      have hp1 := heap_alloc_new w1 (.cells #[.int .i64 (cur ps q.next).kind, .int .i64 (cur ps q.next).at_, .int .i64 (cur ps q.next).n, .string ⟨(cur ps q.next).s.toArray⟩] 78)
      have hx1' := blk_alloc hx1 (.cells #[.int .i64 (cur ps q.next).kind, .int .i64 (cur ps q.next).at_, .int .i64 (cur ps q.next).n, .string ⟨(cur ps q.next).s.toArray⟩] 78)
      have k0 : Kept b w (w1.alloc (.cells #[.int .i64 (cur ps q.next).kind, .int .i64 (cur ps q.next).at_, .int .i64 (cur ps q.next).n, .string ⟨(cur ps q.next).s.toArray⟩] 78)) := ((((Kept.refl b w).alloc _).trans (Kept.of_below hb1)).alloc _)
      unfold Tok.val
      go_wp2_with fail
      refine (step_any _ _ _ _ _ _ _ hR1 hkk).mono ?_
      rintro e w2 ⟨rfl, hR2, k2⟩
      have hs2 := k2.size
      simp at hs2
      have hx2 := (k2.block w.heap.size (by simp; omega) (by omega)).trans hx1'
      have hp2 := (k2.block w1.heap.size (by simp) (by omega)).trans hp1
      obtain ⟨_, pp1, pp2, pp3⟩ := cells4 hp2
      have kk := k0.trans k2
      have hblk := hx2
      have hc := cells4 hblk
      have hz := thaw4 hblk
      have hA' : AnE (fun g => w.heap.size ≤ g ∧ g ≠ w.heap.size) w2 _ _ := AnE.mk 2 0 (cur ps q.next).s [] ⟨[], .inl ⟨rfl, rfl, rfl⟩, trivial⟩
      go_wp2_with fail
      exact fin_expr Tryd.results128 rfl rfl rfl (store4 hblk _ _ _ _) (postE_ok h kk (kept4 _ _ _ _ _ _) (by omega) hR2 hA')
  · rw [hk3, if_pos rfl] at hr
    cases hr
    have hkk : ((cur ps q.next).kind != 0) = true := by simp at hk3 ⊢; omega
    go_enter Tryd.func128, Tryd.ntmps128
    go_wp2_with fail
    refine (peek_any _ _ _ _ _ _ _ h0).mono ?_
    rintro e w1 ⟨rfl, hb1⟩
    have h1 := h0.below hb1
    have hs1 := hb1.size
    simp at hs1
    have hx1 := (hb1.block w.heap.size (by simp)).trans (heap_alloc_new w _)
    have hR1 := h1.below ((Below.refl w1.heap.size w1).alloc (Nat.le_refl _) (.cells #[.int .i64 (cur ps q.next).kind, .int .i64 (cur ps q.next).at_, .int .i64 (cur ps q.next).n, .string ⟨(cur ps q.next).s.toArray⟩] 78))
    have hp1 := heap_alloc_new w1 (.cells #[.int .i64 (cur ps q.next).kind, .int .i64 (cur ps q.next).at_, .int .i64 (cur ps q.next).n, .string ⟨(cur ps q.next).s.toArray⟩] 78)
    have hx1' := blk_alloc hx1 (.cells #[.int .i64 (cur ps q.next).kind, .int .i64 (cur ps q.next).at_, .int .i64 (cur ps q.next).n, .string ⟨(cur ps q.next).s.toArray⟩] 78)
    have k0 : Kept b w (w1.alloc (.cells #[.int .i64 (cur ps q.next).kind, .int .i64 (cur ps q.next).at_, .int .i64 (cur ps q.next).n, .string ⟨(cur ps q.next).s.toArray⟩] 78)) := ((((Kept.refl b w).alloc _).trans (Kept.of_below hb1)).alloc _)
    unfold Tok.val
    go_wp2_with fail
    refine (step_any _ _ _ _ _ _ _ hR1 hkk).mono ?_
    rintro e w2 ⟨rfl, hR2, k2⟩
    have hs2 := k2.size
    simp at hs2
    have hx2 := (k2.block w.heap.size (by simp; omega) (by omega)).trans hx1'
    have hp2 := (k2.block w1.heap.size (by simp) (by omega)).trans hp1
    obtain ⟨_, pp1, pp2, pp3⟩ := cells4 hp2
    have kk := k0.trans k2
    have hblk := hx2
    have hc := cells4 hblk
    have hz := thaw4 hblk
    have hA' : AnE (fun g => w.heap.size ≤ g ∧ g ≠ w.heap.size) w2 _ _ := AnE.mk 1 (cur ps q.next).n [] [] ⟨[], .inl ⟨rfl, rfl, rfl⟩, trivial⟩
    go_wp2_with fail
    exact fin_expr Tryd.results128 rfl rfl rfl (store4 hblk _ _ _ _) (postE_ok h kk (kept4 _ _ _ _ _ _) (by omega) hR2 hA')

end Go.Proofs.YtgifghcaeoinoaaDoor
