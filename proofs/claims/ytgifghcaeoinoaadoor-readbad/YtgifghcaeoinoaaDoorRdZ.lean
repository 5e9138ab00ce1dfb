/-
  Statements with a head and a block: headed.
-/
import Derived.Test.YtgifghcaeoinoaaDoorRdX
namespace Go.Proofs.YtgifghcaeoinoaaDoor
open Go.RowKit
set_option linter.unusedSimpArgs false
set_option linter.unusedVariables false

theorem Row.own {B : Type} {S S' : Nat → Prop} {w w' : World} {x : Nat} {P Q : Value → B → Prop} {v : Value} {xs : List B} (h : Row S w P v xs) (k : Kept x w w') (hs : ∀ g, S g → g ≠ x ∧ S' g) (hp : ∀ u y, P u y → Q u y) : Row S' w' Q v xs :=
  h.move (fun g hS hg => ⟨(hs g hS).2, k.block g hg (hs g hS).1⟩) hp

theorem RowE.own {S S' : Nat → Prop} {w w' : World} {x : Nat} {v : Value} {xs : List Ex} (h : Row S w (AnE S w) v xs) (k : Kept x w w') (hs : ∀ g, S g → g ≠ x ∧ S' g) : Row S' w' (AnE S' w') v xs := h.own k hs fun _ _ h => h.own k hs
theorem RowS.own {S S' : Nat → Prop} {w w' : World} {x : Nat} {v : Value} {xs : List St} (h : Row S w (AnS S w) v xs) (k : Kept x w w') (hs : ∀ g, S g → g ≠ x ∧ S' g) : Row S' w' (AnS S' w') v xs := h.own k hs fun _ _ h => h.own k hs

theorem size_alloc2 (w : World) (o1 o2 : Obj) : ((w.alloc o1).alloc o2).heap.size = w.heap.size + 2 := by simp

set_option maxHeartbeats 2000000 in
theorem headed_any {ps : List Tok} {E : Nat → Nat → R Ex} {B : Nat → Nat → R (List St)} (hE : SaidE ps E) (hB : SaidB ps B) (w : World) (b bp cap T : Nat) (q : RS) (kd : Int) (s t : List UInt8) (r : Sum (Int × Int) (St × Nat)) (h : Rdr w b bp cap T ps q)
    (hr : headedM E B q.depth (st0 kd s t) q.next = some r) :
    Calls Tryd.prog 112 #[.pointer (some ⟨b, 0, none⟩), .agg #[.int .i64 kd, .string ⟨s.toArray⟩, .string ⟨t.toArray⟩, .slice none 0 0, .slice none 0 0, .slice none 0 0, .slice none 0 0]] w (PostS b bp cap T ps q w r) := by
  have hbs := h.bsize
  have hps := h.lt
  have hfar := h.far
  have h0 := h.below (((Below.refl w.heap.size w).alloc (Nat.le_refl _) (.cells #[.int .i64 kd, .string ⟨s.toArray⟩, .string ⟨t.toArray⟩, .slice none 0 0, .slice none 0 0, .slice none 0 0, .slice none 0 0] 39)).alloc (by simp) (.cells #[.int .i64 0, .string ⟨#[]⟩, .string ⟨#[]⟩, .slice none 0 0, .slice none 0 0, .slice none 0 0, .slice none 0 0] 39))
  have hx0 := heap_alloc2 w (.cells #[.int .i64 kd, .string ⟨s.toArray⟩, .string ⟨t.toArray⟩, .slice none 0 0, .slice none 0 0, .slice none 0 0, .slice none 0 0] 39) (.cells #[.int .i64 0, .string ⟨#[]⟩, .string ⟨#[]⟩, .slice none 0 0, .slice none 0 0, .slice none 0 0, .slice none 0 0] 39)
  unfold headedM at hr
  go_enter Tryd.func112, Tryd.ntmps112
  go_wp2_with fail
  rcases bindR_some hr with ⟨k, h1, rfl⟩ | ⟨x, n1, h1, h2⟩
  · refine (hE _ _ _ _ _ _ _ h0 h1).mono ?_
    rintro e w2 ⟨k2, v, n', ⟨v0, v1, v2, a3, l3, c3, rfl⟩, rfl, hR⟩
    have hs2 := k2.size
    rw [size_alloc2] at hs2
    have hblk := (k2.block (w.heap.size + 1) (by simp) (by omega)).trans hx0.2
    have hc := cells7 hblk
    have hz := thaw4 hblk
    have hlt2 : w.heap.size + 1 < w2.heap.size := by omega
    go_wp2_with fail
    exact fin_stmt Tryd.results112 rfl rfl rfl (blk_alloc (store7 hblk _ _ _ _ _ _ _) _) (postS_bad h ((((Kept.refl _ _).alloc _).alloc _).trans k2) ((kept7 _ _ _ _ _ _ _ _ _).alloc _) (by omega) hR)
  · refine (hE _ _ _ _ _ _ _ h0 h1).mono ?_
    rintro e w2 ⟨k2, v, rfl, hA, hR⟩
    obtain ⟨v0, v1, v2, a3, l3, c3, rfl⟩ := hA.sh
    have hs2 := k2.size
    rw [size_alloc2] at hs2
    have hsb2 := (k2.block w.heap.size (by simp; omega) (by omega)).trans hx0.1
    have hxb2 := (k2.block (w.heap.size + 1) (by simp) (by omega)).trans hx0.2
    have hc := cells7 hsb2
    have hz := thaw4 hsb2
    have hlt2 : w.heap.size + 1 < w2.heap.size := by omega
    have hlt3 : w.heap.size < w2.heap.size := by omega
    have kw2 : Kept b w w2 := ((((Kept.refl b w).alloc _).alloc _).trans k2)
    have kY : Kept w.heap.size w2 (((w2.setCell ⟨w.heap.size, 3, none⟩ (.slice (some ⟨w2.heap.size + 1, 0, none⟩) 1 1)).alloc (.cells #[.int .i64 v0, .int .i64 v1, .string v2, .slice a3 l3 c3] 35)).alloc (.cells #[.int .i64 v0, .int .i64 v1, .string v2, .slice a3 l3 c3] 35)) := ((((Kept.refl _ _).setCell _ _).alloc _).alloc _)
    have hrow := (heap_alloc2 (w2.setCell ⟨w.heap.size, 3, none⟩ (.slice (some ⟨w2.heap.size + 1, 0, none⟩) 1 1)) (.cells #[.int .i64 v0, .int .i64 v1, .string v2, .slice a3 l3 c3] 35) (.cells #[.int .i64 v0, .int .i64 v1, .string v2, .slice a3 l3 c3] 35)).2
    rw [size_set] at hrow
    have hsb3 := blk_alloc (blk_alloc (heap_setCell_same (o := 3) hsb2 (.slice (some ⟨w2.heap.size + 1, 0, none⟩) 1 1)) (.cells #[.int .i64 v0, .int .i64 v1, .string v2, .slice a3 l3 c3] 35)) (.cells #[.int .i64 v0, .int .i64 v1, .string v2, .slice a3 l3 c3] 35)
    have hre : Row (fun g => w.heap.size + 2 ≤ g) _ (AnE (fun g => w.heap.size + 2 ≤ g) _) _ [x] := row1 hrow (by omega) (hA.own kY fun g hg => by simp at hg; omega)
    have hR3 := hR.own kY (by omega) (by omega) (by omega)
    have hxb3 := (kY.block (w.heap.size + 1) (by omega) (by omega)).trans hxb2
    have kw3 := kw2.own kY (Nat.le_refl _)
    have hs3 := kY.size
    clear hA
    go_wp2_with fail
    generalize (((w2.setCell ⟨w.heap.size, 3, none⟩ (.slice (some ⟨w2.heap.size + 1, 0, none⟩) 1 1)).alloc (.cells #[.int .i64 v0, .int .i64 v1, .string v2, .slice a3 l3 c3] 35)).alloc (.cells #[.int .i64 v0, .int .i64 v1, .string v2, .slice a3 l3 c3] 35)) = w3 at *
    rcases bindR_some h2 with ⟨k, h5, rfl⟩ | ⟨l, n2, h5, h6⟩
    · refine (hB _ _ _ _ _ _ _ hR3 h5).mono ?_
      rintro e w4 ⟨k4, a, l, c, n', rfl, hR4⟩
      have hsb4 := (k4.block w.heap.size (by omega) (by omega)).trans hsb3
      have hxb4 := (k4.block (w.heap.size + 1) (by omega) (by omega)).trans hxb3
      have hc4 := cells7 hsb4
      have hz4 := thaw4 hsb4
      have hd4 := cells7 hxb4
      have hy4 := thaw4 hxb4
      have kZ : Kept w.heap.size w4 (w4.setCell ⟨w.heap.size, 4, none⟩ (.slice a l c)) := (Kept.refl _ _).setCell _ _
      have hs4 := k4.size
      go_wp2_with fail
      exact fin_stmt Tryd.results112 rfl rfl rfl (store7 ((kZ.block _ (by omega) (by omega)).trans hxb4) _ _ _ _ _ _ _) (postS_bad h ((kw3.trans k4).own kZ (Nat.le_refl _)) (kept7 _ _ _ _ _ _ _ _ _) (by omega) (hR4.own kZ (by omega) (by omega) (by omega)))
    · cases h6
      refine (hB _ _ _ _ _ _ _ hR3 h5).mono ?_
      rintro e w4 ⟨k4, a, c, rfl, hrl, hR4⟩
      have hsb4 := (k4.block w.heap.size (by omega) (by omega)).trans hsb3
      have hxb4 := (k4.block (w.heap.size + 1) (by omega) (by omega)).trans hxb3
      have hc4 := cells7 hsb4
      have hz4 := thaw4 hsb4
      have hd4 := cells7 hxb4
      have hy4 := thaw4 hxb4
      have kZ : Kept w.heap.size w4 (w4.setCell ⟨w.heap.size, 4, none⟩ (.slice a l.length c)) := (Kept.refl _ _).setCell _ _
      have hs4 := k4.size
      have hre4 := RowE.own (S' := fun g => w.heap.size + 2 ≤ g) hre k4 (fun g hg => by omega)
      have hre5 := RowE.own (S' := fun g => w.heap.size ≤ g ∧ g ≠ w.heap.size + 1) hre4 kZ (fun g hg => by omega)
      have hrl5 := RowS.own (S' := fun g => w.heap.size ≤ g ∧ g ≠ w.heap.size + 1) hrl kZ (fun g hg => by omega)
      have HO : Hid (_ ∧ _) := ⟨hre5, hrl5⟩
      clear hre hre4 hre5 hrl hrl5
      go_wp2_with fail
      exact fin_stmt Tryd.results112 rfl rfl rfl (store7 ((kZ.block _ (by omega) (by omega)).trans hxb4) _ _ _ _ _ _ _) (postS_ok h ((kw3.trans k4).own kZ (Nat.le_refl _)) (kept7 _ _ _ _ _ _ _ _ _) (by omega) (hR4.own kZ (by omega) (by omega) (by omega)) (AnS.mk kd s t [x] l [] [] HO.out.1 HO.out.2 (Row.nil _ _ _) (Row.nil _ _ _)))

end Go.Proofs.YtgifghcaeoinoaaDoor
