/-
  Expressions: the methods that call no loop.
-/
import Derived.Test.YtgifghcaeoinoaaDoorRdM
import Derived.Deep.RegionWith
import Derived.Defers
namespace Go.Proofs.YtgifghcaeoinoaaDoor
open Go.RowKit
set_option linter.unusedSimpArgs false
set_option linter.unusedVariables false

theorem Kept.drew {b : Nat} {w w' : World} (h : Kept b w w') : Kept b w w'.drew := ⟨h.os, h.tape, h.output, h.size, h.block⟩

theorem Kept.drewN {b : Nat} {w w' : World} (h : Kept b w w') (n : Nat) : Kept b w (w'.drewN n) := ⟨h.os, h.tape, h.output, h.size, h.block⟩

/-- a block of one's own has been written: whatever else was kept is kept -/
theorem Kept.own {b x : Nat} {w w1 w2 : World} (h : Kept b w w1) (k : Kept x w1 w2) (hx : w.heap.size ≤ x) : Kept b w w2 :=
  ⟨k.os.trans h.os, k.tape.trans h.tape, k.output.trans h.output, Nat.le_trans h.size k.size,
   fun i hi hb => (k.block i (Nat.lt_of_lt_of_le hi h.size) (by omega)).trans (h.block i hi hb)⟩

theorem Rdr.own {w w' : World} {b bp cap T x : Nat} {ps : List Tok} {q : RS} (h : Rdr w b bp cap T ps q) (k : Kept x w w') (hb : x ≠ b) (hp : x ≠ bp) (hg : 8 ≤ x) : Rdr w' b bp cap T ps q := by
  refine ⟨by rw [k.block b h.bsize (fun e => hb e.symm)]; exact h.blk, ?_, h.ne, Nat.lt_of_lt_of_le h.lt k.size, h.nx, h.len, h.dp, h.tab.same (fun g hgs hlt => k.block g hgs (by omega)), h.far, h.fin⟩
  intro i hi
  have := h.row i hi
  rw [← k.cell bp (i * 4) h.lt (fun e => hp e.symm), ← k.cell bp (i * 4 + 1) h.lt (fun e => hp e.symm), ← k.cell bp (i * 4 + 2) h.lt (fun e => hp e.symm), ← k.cell bp (i * 4 + 3) h.lt (fun e => hp e.symm)] at this
  exact this

theorem AnE.own {S S' : Nat → Prop} {w w' : World} {x : Nat} {v : Value} {t : Ex} (h : AnE S w v t) (k : Kept x w w') (hs : ∀ g, S g → g ≠ x ∧ S' g) : AnE S' w' v t :=
  h.move fun g hS hg => ⟨(hs g hS).2, k.block g hg (hs g hS).1⟩

theorem store4 {w : World} {x : Nat} {T : TypeId} {f : Nat × Nat} {c0 c1 c2 c3 : Value} (h : w.heap[x]? = some (.cells #[c0, c1, c2, c3] T f)) (v0 v1 v2 v3 : Value) :
    ((((w.setCell ⟨x, 0, none⟩ v0).setCell ⟨x, 1, none⟩ v1).setCell ⟨x, 2, none⟩ v2).setCell ⟨x, 3, none⟩ v3).heap[x]? = some (.cells #[v0, v1, v2, v3] T f) := by
  rw [heap_setCell_same (heap_setCell_same (heap_setCell_same (heap_setCell_same h _) _) _)]
  simp

theorem kept4 (x : Nat) (w : World) (v0 v1 v2 v3 : Value) : Kept x w ((((w.setCell ⟨x, 0, none⟩ v0).setCell ⟨x, 1, none⟩ v1).setCell ⟨x, 2, none⟩ v2).setCell ⟨x, 3, none⟩ v3) :=
  ((((Kept.refl _ _).setCell _ _).setCell _ _).setCell _ _).setCell _ _

theorem cells4 {w : World} {x : Nat} {T : TypeId} {f : Nat × Nat} {c0 c1 c2 c3 : Value} (h : w.heap[x]? = some (.cells #[c0, c1, c2, c3] T f)) :
    w.cell? ⟨x, 0, none⟩ = some c0 ∧ w.cell? ⟨x, 1, none⟩ = some c1 ∧ w.cell? ⟨x, 2, none⟩ = some c2 ∧ w.cell? ⟨x, 3, none⟩ = some c3 := by
  simp [World.cell?, h]

theorem thaw4 {w : World} {x : Nat} {T : TypeId} {c : Array Value} (h : w.heap[x]? = some (.cells c T (0, 0))) (o : Nat) : w.frozen? ⟨x, o, none⟩ = false := by
  simp [World.frozen?, h]

theorem fin_expr {fn : Func} {Q : Ending → World → Prop} {a : Act} {w : World} {rt st x : Nat} {v0 v1 v2 v3 : Value} {ok : Bool} {T : TypeId} {f : Nat × Nat}
    (hres : fn.results = #[.cell rt 35, .tmp st]) (hp : a.tmps.getD rt undef = .pointer (some ⟨x, 0, none⟩)) (ho : a.tmps.getD st undef = .bool ok) (hd : a.defers = [])
    (hblk : w.heap[x]? = some (.cells #[v0, v1, v2, v3] T f)) (hQ : Q (.returned (.tuple #[.agg #[v0, v1, v2, v3], .bool ok])) w) : bodyPost Tryd.prog fn Q Exit.ret a w := by
  obtain ⟨q0, q1, q2, q3⟩ := cells4 hblk
  simp only [Array.getD_eq_getD_getElem?] at hp ho
  exact bodyPost_ret (v := .tuple #[.agg #[v0, v1, v2, v3], .bool ok]) (by simp [results, hres, hp, ho, go_sem, q0, q1, q2, q3]) hd hQ

theorem Kept.alloc {b : Nat} {w w' : World} (h : Kept b w w') (o : Obj) : Kept b w (w'.alloc o) :=
  h.trans (Kept.of_below ((Below.refl _ _).alloc (Nat.le_refl _) _))

theorem blk_alloc {w : World} {x : Nat} {o' : Obj} (h : w.heap[x]? = some o') (o : Obj) : (w.alloc o).heap[x]? = some o' := by
  have hx : x < w.heap.size := by
    rcases Nat.lt_or_ge x w.heap.size with hb | hb
    · exact hb
    · rw [Array.getElem?_eq_none hb] at h; cases h
  rw [Below.heap_alloc _ _ _ hx]; exact h

theorem blk_drew {w : World} {x : Nat} {o' : Obj} (h : w.heap[x]? = some o') : w.drew.heap[x]? = some o' := h

/-- the end of a call that reads an expression, where something is wrong -/
theorem postE_bad {b bp cap T : Nat} {ps : List Tok} {q : RS} {w w2 W : World} {k : Int × Int} {n' x : Nat} {v0 v1 : Int} {v2 : ByteArray} {a3 : Option Addr} {l3 c3 : Nat} (h : Rdr w b bp cap T ps q)
    (kw : Kept b w w2) (kx : Kept x w2 W) (hx : w.heap.size ≤ x) (hR : Rdr w2 b bp cap T ps ⟨n', q.depth, k.1, k.2⟩) :
    PostE b bp cap T ps q w (.inl k) (.returned (.tuple #[.agg #[.int .i64 v0, .int .i64 v1, .string v2, .slice a3 l3 c3], .bool false])) W := by
  have h1 := h.bsize; have h2 := h.lt; have h3 := h.far
  exact ⟨kw.own kx hx, _, n', ⟨_, _, _, _, _, _, rfl⟩, rfl, hR.own kx (by omega) (by omega) (by omega)⟩

/-- .. and where nothing is -/
theorem postE_ok {b bp cap T : Nat} {ps : List Tok} {q : RS} {w w2 W : World} {t : Ex} {n' x : Nat} {v : Value} (h : Rdr w b bp cap T ps q)
    (kw : Kept b w w2) (kx : Kept x w2 W) (hx : w.heap.size ≤ x) (hR : Rdr w2 b bp cap T ps { q with next := n' }) (hA : AnE (fun g => w.heap.size ≤ g ∧ g ≠ x) w2 v t) :
    PostE b bp cap T ps q w (.inr (t, n')) (.returned (.tuple #[v, .bool true])) W := by
  have h1 := h.bsize; have h2 := h.lt; have h3 := h.far
  exact ⟨kw.own kx hx, v, rfl, hA.own kx fun g hg => ⟨hg.2, hg.1⟩, hR.own kx (by omega) (by omega) (by omega)⟩

set_option maxHeartbeats 1000000 in
theorem bracketed_any {ps : List Tok} {E : Nat → Nat → R Ex} (hE : SaidE ps E) (w : World) (b bp cap T : Nat) (q : RS) (r : Sum (Int × Int) (Ex × Nat)) (h : Rdr w b bp cap T ps q)
    (hr : bracketedM ps E q.depth q.next = some r) :
    Calls Tryd.prog 132 #[.pointer (some ⟨b, 0, none⟩)] w (PostE b bp cap T ps q w r) := by
  have hbs := h.bsize
  have hps := h.lt
  have hfar := h.far
  unfold bracketedM at hr
  rcases bindR_some hr with ⟨k, h1, rfl⟩ | ⟨u, n1, h1, h2⟩
  · rcases needM_some h1 with ⟨hT, h3⟩ | ⟨hT, h3⟩
    · cases h3
    · cases h3
      clear hr h1
      go_enter Tryd.func132, Tryd.ntmps132
      go_wp2_with fail
      refine (mark_no _ _ _ _ _ _ _ _ (h.below ((Below.refl _ _).alloc (Nat.le_refl _) _)) hT).mono ?_
      rintro e w1 ⟨rfl, h1, k1⟩
      have hc := fun o => k1.cell w.heap.size o (by simp) (by omega)
      have hf := fun o => k1.frozen w.heap.size o (by simp) (by omega)
      go_wp2_with fail
      have hblk := k1.block w.heap.size (by simp) (by omega)
      rw [heap_alloc_new] at hblk
      have kx := kept4 w.heap.size w1 (.int .i64 0) (.int .i64 0) (.string ⟨#[]⟩) (.slice none 0 0)
      exact fin_expr Tryd.results132 rfl rfl rfl (store4 hblk _ _ _ _)
        ⟨((Kept.of_below ((Below.refl _ _).alloc (Nat.le_refl _) _)).trans k1).own kx (Nat.le_refl _), _, _, ⟨_, _, _, _, _, _, rfl⟩, rfl, h1.own kx (by omega) (by omega) (by omega)⟩
  · rcases needM_some h1 with ⟨hT, h3⟩ | ⟨hT, h3⟩
    · cases h3
      clear hr h1
      go_enter Tryd.func132, Tryd.ntmps132
      go_wp2_with fail
      refine (mark_yes _ _ _ _ _ _ _ _ (h.below ((Below.refl _ _).alloc (Nat.le_refl _) _)) hT).mono ?_
      rintro e w1 ⟨rfl, h1, k1⟩
      have hblk := k1.block w.heap.size (by simp) (by omega)
      rw [heap_alloc_new] at hblk
      have hs1 := k1.size
      simp at hs1
      go_wp2_with fail
      rcases bindR_some h2 with ⟨k, h3, rfl⟩ | ⟨x, n2, h3, h4⟩
      · refine (hE _ _ _ _ _ _ _ h1 h3).mono ?_
        rintro e w2 ⟨k2, v, n', ⟨v0, v1, v2, a3, l3, c3, rfl⟩, rfl, h2'⟩
        have hc2 := k2.block w.heap.size (by omega) (by omega)
        rw [hblk] at hc2
        have hs2 := k2.size
        obtain ⟨z0, z1, z2, z3⟩ := cells4 hc2
        go_wp2_with fail
        have hz := thaw4 hc2
        have hlt2 : w.heap.size < w2.heap.size := by omega
        go_region
        go_wp2_with fail
        exact fin_expr Tryd.results132 rfl rfl rfl (blk_drew (blk_alloc (store4 hc2 _ _ _ _) _)) (postE_bad h (((Kept.refl _ _).alloc _).trans (k1.trans k2)) ((kept4 _ _ _ _ _ _).alloc _).drew (Nat.le_refl _) h2')
      · refine (hE _ _ _ _ _ _ _ h1 h3).mono ?_
        rintro e w2 ⟨k2, v, rfl, hA, h2'⟩
        obtain ⟨v0, v1, v2, a3, l3, c3, rfl⟩ := hA.sh
        have hc2 := k2.block w.heap.size (by omega) (by omega)
        rw [hblk] at hc2
        have hs2 := k2.size
        obtain ⟨z0, z1, z2, z3⟩ := cells4 hc2
        go_wp2_with fail
        have hz := thaw4 hc2
        have hlt2 : w.heap.size < w2.heap.size := by omega
        rcases bindR_some h4 with ⟨k, h5, rfl⟩ | ⟨u, n3, h5, h6⟩
        · rcases needM_some h5 with ⟨hT2, h7⟩ | ⟨hT2, h7⟩
          · cases h7
          · cases h7
            go_region_with (go_at_call 79; refine (mark_no _ _ _ _ _ _ _ _ (h2'.below (((Below.refl _ _).alloc (Nat.le_refl _) _).drew)) hT2).mono ?_; rintro e w3 ⟨rfl, h3', k3⟩; have hx3 := (k3.block w.heap.size (by simp; omega) (by omega)).trans (blk_drew (blk_alloc hc2 _)); have hy3 := (k3.block w2.heap.size (by simp) (by omega)).trans (heap_alloc_new w2 _); obtain ⟨p0, p1, p2, p3⟩ := cells4 hx3; obtain ⟨y0, y1, y2, y3⟩ := cells4 hy3; have hzz := thaw4 hx3)
            all_goals
              go_wp2_with fail
              exact fin_expr Tryd.results132 rfl rfl rfl (store4 hx3 _ _ _ _) (postE_bad h (((Kept.refl _ _).alloc _).trans (k1.trans (k2.trans (((Kept.refl _ _).alloc _).drew.trans k3)))) (kept4 _ _ _ _ _ _) (Nat.le_refl _) h3')
        · rcases needM_some h5 with ⟨hT2, h7⟩ | ⟨hT2, h7⟩
          · cases h7
            cases h6
            go_region_with (go_at_call 79; refine (mark_yes _ _ _ _ _ _ _ _ (h2'.below (((Below.refl _ _).alloc (Nat.le_refl _) _).drew)) hT2).mono ?_; rintro e w3 ⟨rfl, h3', k3⟩; have hx3 := (k3.block w.heap.size (by simp; omega) (by omega)).trans (blk_drew (blk_alloc hc2 _)); have hy3 := (k3.block w2.heap.size (by simp) (by omega)).trans (heap_alloc_new w2 _); obtain ⟨p0, p1, p2, p3⟩ := cells4 hx3; obtain ⟨y0, y1, y2, y3⟩ := cells4 hy3; have hzz := thaw4 hx3)
            all_goals
              go_wp2_with fail
              exact fin_expr Tryd.results132 rfl rfl rfl (store4 hx3 _ _ _ _) (postE_ok h (((Kept.refl _ _).alloc _).trans (k1.trans (k2.trans (((Kept.refl _ _).alloc _).drew.trans k3)))) (kept4 _ _ _ _ _ _) (Nat.le_refl _) h3' (hA.move fun g hg hlt => ⟨by omega, (((Kept.refl b _).alloc _).drew.trans k3).block g hlt (by omega)⟩))
          · cases h7
    · cases h3

end Go.Proofs.YtgifghcaeoinoaaDoor
