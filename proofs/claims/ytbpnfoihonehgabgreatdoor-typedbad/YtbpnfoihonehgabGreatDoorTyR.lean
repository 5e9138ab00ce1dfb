/-
  Statements that choose.
-/
import Derived.Test.YtbpnfoihonehgabGreatDoorTyQ
namespace Go.Proofs.YtbpnfoihonehgabGreatDoor
open Go.RowKit Go.Maps
set_option linter.unusedSimpArgs false
set_option linter.unusedVariables false

theorem lawI : Keyed Tryz.prog 3 := int_keyed Tryz.underlying3

def MapI (w : World) (m : Nat) (D : DataW Unit) : Prop := w.ownsMap Tryz.prog 3 (plainElem Tryz.prog 3) m (Maps.size D) D

theorem MapI.lt {w : World} {m : Nat} {D : DataW Unit} (h : MapI w m D) : m < w.heap.size := World.ownsMap.lt h

theorem MapI.same {w w' : World} {m : Nat} {D : DataW Unit} (h : MapI w m D) (he : w'.heap[m]? = w.heap[m]?) : MapI w' m D := by
  obtain ⟨es, clock, hb, r⟩ := h
  exact ⟨es, clock, by rw [he]; exact hb, r⟩

theorem mapI_new (w : World) : MapI (w.alloc (.map #[] 0)) w.heap.size (.map []) := own_tight (World.ownsMap_made (H := Unit) w Tryz.prog 3 (plainElem Tryz.prog 3))

theorem Chk.grown {w w' : World} {B cb m : Nat} {X : List Nat} {fv : Value} {pl : DataW Unit} {res : Int} {sc : List (DataW Unit)} {d l : Nat} (h : Chk w B cb X fv pl res sc d l) (g : w.grownBy w' (some m)) (hm : m ∉ X) (hcm : cb < m) : Chk w' B cb X fv pl res sc d l := by
  obtain ⟨mb, sv, ms, h1, h2, h3, h4, h5, h6, h7⟩ := h.ex
  have kb : ∀ k, k < w.heap.size → k ≠ m → w'.heap[k]? = w.heap[k]? := fun k hk hne => g.block k hk (fun e => hne (by injection e))
  have hx : ∀ k, k ∈ X → k ≠ m := fun k hk e => hm (e ▸ hk)
  refine ⟨h.cbX, fun i hi => ⟨(h.low i hi).1, Nat.lt_of_lt_of_le (h.low i hi).2 g.size⟩, ⟨mb, sv, ms, by rw [kb cb h.cblt (by omega)]; exact h1, h2, h3.same (kb mb h3.lt (by omega)), ?_, h5, h6.imp fun m D hm => ⟨hm.1, hm.2.same (kb m hm.2.lt (hx m hm.1))⟩, h7⟩, h.far, h.dp, h.lp, h.sl⟩
  refine ⟨h4.1, ?_⟩
  rcases h4.2 with h8 | ⟨g', cap, cc, hv, hg, hh, r⟩
  · exact Or.inl h8
  · exact Or.inr ⟨g', cap, cc, hv, hg, by rw [kb g' (lt_of_block hh) (hx g' (h5 g' (by rw [hv]; rfl)).1)]; exact hh, r⟩

structure ChI (w : World) (B cb : Nat) (X : List Nat) (fv : Value) (fs : List Fn') (pl : DataW Unit) (res : Int) (sc : List (DataW Unit)) (d l : Nat) (O : Obj) (m : Nat) (X' : List Nat) (C : DataW Unit) (wr : World) : Prop where
  ctx : Ctx wr B cb X' fv fs pl res sc d l
  kx : KX X X' w wr
  b0 : wr.heap[w.heap.size]? = some O
  b0x : w.heap.size ∉ X'
  mp : MapI wr m C
  mx : m ∉ X'
  mc : w.heap.size < m
  cw : cb < w.heap.size
  bw : B ≤ w.heap.size

theorem ChI.call {w : World} {B cb : Nat} {X : List Nat} {fv : Value} {fs : List Fn'} {pl : DataW Unit} {res : Int} {sc : List (DataW Unit)} {d l : Nat} {O : Obj} {m : Nat} {X' X5 : List Nat} {C : DataW Unit} {wr w5 : World} (h : ChI w B cb X fv fs pl res sc d l O m X' C wr)
    (hC : Chk w5 B cb X5 fv pl res sc d l) (k : KX X' X5 wr w5) : ChI w B cb X fv fs pl res sc d l O m X5 C w5 :=
  ⟨h.ctx.next hC k, h.kx.trans k, blk_kx k h.b0x h.b0, notin_kx k h.b0x (lt_of_block h.b0), h.mp.same (k.block m h.mp.lt h.mx), notin_kx k h.mx h.mp.lt, h.mc, h.cw, h.bw⟩

theorem ChI.add {w : World} {B cb : Nat} {X : List Nat} {fv : Value} {fs : List Fn'} {pl : DataW Unit} {res : Int} {sc : List (DataW Unit)} {d l : Nat} {O : Obj} {m : Nat} {X' : List Nat} {C : DataW Unit} {wr w5 : World} (h : ChI w B cb X fv fs pl res sc d l O m X' C wr)
    (k : Below wr.heap.size wr w5) : ChI w B cb X fv fs pl res sc d l O m X' C w5 := h.call (h.ctx.chk.below k) (KX.of_below k)

theorem ChI.put {w : World} {B cb : Nat} {X : List Nat} {fv : Value} {fs : List Fn'} {pl : DataW Unit} {res : Int} {sc : List (DataW Unit)} {d l : Nat} {O : Obj} {m : Nat} {X' : List Nat} {C C' : DataW Unit} {wr w5 : World} (h : ChI w B cb X fv fs pl res sc d l O m X' C wr)
    (g : wr.grownBy w5 (some m)) (hm : MapI w5 m C') : ChI w B cb X fv fs pl res sc d l O m X' C' w5 := by
  have hmc := h.mc
  have hbw := h.bw
  have hcw := h.cw
  have kb : ∀ k, k < wr.heap.size → k ≠ m → w5.heap[k]? = wr.heap[k]? := fun k hk hne => g.block k hk (fun e => hne (by injection e))
  have hb : Below B wr w5 := ⟨g.os, g.tape, g.output, g.size, fun i hi => kb i (by have := h.kx.size; omega) (by omega)⟩
  refine ⟨⟨h.ctx.chk.grown g h.mx (by omega), h.ctx.tab.below h.ctx.chk.far h.ctx.bs hb, h.ctx.fsa.below hb, h.ctx.fl, Nat.le_trans h.ctx.bs g.size⟩, ?_, ?_, h.b0x, hm, h.mx, h.mc, h.cw, h.bw⟩
  · have k := h.kx
    refine ⟨g.os.trans k.os, g.tape.trans k.tape, g.output.trans k.output, Nat.le_trans k.size g.size, k.sub, fun i hi hx => ?_⟩
    exact (kb i (by have := k.size; omega) (by omega)).trans (k.block i hi hx)
  · exact (kb w.heap.size (lt_of_block h.b0) (by omega)).trans h.b0

def numsT (i : Nat) : DataW Unit → List Int → Option (Sum Int (DataW Unit))
  | C, [] => some (.inr C)
  | C, n :: ns => if 1000000 < Maps.size C then none else if inB n then (if Maps.has C (.int .i64 n) then some (.inl 7) else numsT i (C.put (.int .i64 n) (.lit (.int .i64 (i : Int)))) ns) else some (.inl 2)

def casesT (Bm : List (DataW Unit) → Nat → Nat → List St → Option Int) (scs : List (DataW Unit)) (d l : Nat) : Nat → DataW Unit → List (List Int × List St) → Option Int
  | _, _, [] => some 0
  | i, C, c :: cs => if (c.1.length : Int) == 0 then some 10 else if 1000000 < c.1.length then none else match numsT i C c.1 with
    | none => none
    | some (.inl k) => some k
    | some (.inr C') => thenT (Bm scs d l c.2) (casesT Bm scs d l (i + 1) C' cs)

def chooseT (E : Nat → Ex → Option (Int × Int)) (Bm : List (DataW Unit) → Nat → Nat → List St → Option Int) (scs : List (DataW Unit)) (d l : Nat) (s : St) : Option Int := condT E 1 d s (if 1000000 < s.cases.length then none else thenT (casesT Bm scs d l 0 (.map []) s.cases) (Bm scs d l s.els))

theorem anC_len {S : Nat → Prop} {w : World} (u : Value) (x : List Int × List St) (h : AnC S w u x) : u.cells.toList.length = 2 := by
  obtain ⟨a, l, rfl, h1, h2⟩ := h
  obtain ⟨a, c, rfl⟩ := h1.slice
  obtain ⟨l, c', rfl⟩ := h2.slice
  simp [Value.cells]

theorem int_len (u : Value) (x : Int) (h : u = .int .i64 x) : u.cells.toList.length = 1 := by
  subst h; rfl

end Go.Proofs.YtbpnfoihonehgabGreatDoor
