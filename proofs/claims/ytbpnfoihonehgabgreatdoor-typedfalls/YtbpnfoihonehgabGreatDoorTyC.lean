/-
  How a checker lies in memory: its block, its scopes (a row of maps), the places of functions (a map).
-/
import Derived.Test.YtbpnfoihonehgabGreatDoorTyA
import Derived.Test.YtbpnfoihonehgabGreatDoorJReK
import Derived.Maps.Own
import Derived.Maps.OwnOps
import Derived.Maps.OwnSet
import Derived.WalkSmall
namespace Go.Proofs.YtbpnfoihonehgabGreatDoor
open Go.RowKit Go.Maps
set_option linter.unusedSimpArgs false
set_option linter.unusedVariables false

theorem lawS : Keyed Tryz.prog 9 := string_keyed Tryz.underlying9
theorem zeroI (w : World) : (zeroValue 3).run Tryz.prog w = .ok (.int .i64 0) w := by kernel_rfl

/-- block m is a map that reads as D -/
def MapAt (w : World) (m : Nat) (D : DataW Unit) : Prop := w.ownsMap Tryz.prog 9 (plainElem Tryz.prog 3) m (Maps.size D) D

theorem own_tight {w : World} {P : Program} {k : TypeId} {R : Value → Option (DataW Unit × List MemPlace)} {b n : Nat} {D : DataW Unit} (h : w.ownsMap P k R b n D) : w.ownsMap P k R b (Maps.size D) D := by
  obtain ⟨es, clock, hb, F, hs, rfl⟩ := h
  refine ⟨es, clock, hb, F, ?_, rfl⟩
  rw [Maps.size_eq, length_read]
  exact Nat.le_refl _

theorem MapAt.lt {w : World} {m : Nat} {D : DataW Unit} (h : MapAt w m D) : m < w.heap.size := World.ownsMap.lt h

theorem MapAt.same {w w' : World} {m : Nat} {D : DataW Unit} (h : MapAt w m D) (he : w'.heap[m]? = w.heap[m]?) : MapAt w' m D := by
  obtain ⟨es, clock, hb, r⟩ := h
  exact ⟨es, clock, by rw [he]; exact hb, r⟩

theorem MapAt.notCells {w : World} {m : Nat} {D : DataW Unit} (h : MapAt w m D) {c : Array Value} {T : TypeId} {f : Nat × Nat} (hc : w.heap[m]? = some (.cells c T f)) : False := by
  obtain ⟨es, clock, hb, r⟩ := h
  rw [hb] at hc
  cases hc

/-- all blocks but those of X are as they were; those of X' are of X, or new -/
structure KX (X X' : List Nat) (w w' : World) : Prop where
  os : w'.os = w.os
  tape : w'.tape = w.tape
  output : w'.output = w.output
  size : w.heap.size ≤ w'.heap.size
  sub : ∀ k ∈ X', k ∈ X ∨ w.heap.size ≤ k
  block : ∀ k, k < w.heap.size → k ∉ X → w'.heap[k]? = w.heap[k]?

theorem KX.refl (X : List Nat) (w : World) : KX X X w w := ⟨rfl, rfl, rfl, Nat.le_refl _, fun _ h => .inl h, fun _ _ _ => rfl⟩

theorem KX.trans {X Y Z : List Nat} {u v w : World} (h : KX X Y u v) (k : KX Y Z v w) : KX X Z u w := by
  refine ⟨k.os.trans h.os, k.tape.trans h.tape, k.output.trans h.output, Nat.le_trans h.size k.size, fun i hi => ?_, fun i hi hx => ?_⟩
  · rcases k.sub i hi with h1 | h1
    · exact h.sub i h1
    · exact .inr (Nat.le_trans h.size h1)
  · refine (k.block i (Nat.lt_of_lt_of_le hi h.size) fun hy => ?_).trans (h.block i hi hx)
    rcases h.sub i hy with h1 | h1
    · exact hx h1
    · omega

theorem KX.of_below {X : List Nat} {w w' : World} (h : Below w.heap.size w w') : KX X X w w' := ⟨h.os, h.tape, h.output, h.size, fun _ h => .inl h, fun k hk _ => h.block k hk⟩

theorem KX.alloc {X Y : List Nat} {w w' : World} (h : KX X Y w w') (o : Obj) : KX X Y w (w'.alloc o) := h.trans (KX.of_below ((Below.refl _ _).alloc (Nat.le_refl _) _))

theorem KX.below {X Y : List Nat} {w w' : World} {B : Nat} (h : KX X Y w w') (hB : B ≤ w.heap.size) (hX : ∀ k ∈ X, B ≤ k) : Below B w w' :=
  ⟨h.os, h.tape, h.output, h.size, fun i hi => h.block i (by omega) fun hx => by have := hX i hx; omega⟩

/-- the checker at block cb: X: the blocks that it writes -/
structure Chk (w : World) (B cb : Nat) (X : List Nat) (fv : Value) (pl : DataW Unit) (res : Int) (sc : List (DataW Unit)) (d l : Nat) : Prop where
  cbX : cb ∈ X
  low : ∀ k ∈ X, B ≤ k ∧ k < w.heap.size
  ex : ∃ mb sv ms, w.heap[cb]? = some (.cells #[fv, .map (some mb), .int .i64 res, sv, .int .i64 d, .int .i64 l] 58 (0, 0)) ∧ (mb ∉ X ∧ mb < cb) ∧ MapAt w mb pl ∧
    w.ownsRow B 52 1 sv sc.length (ms.map fun m => Value.map (some m)) ∧ (∀ k, sv.ownBlock = some k → k ∈ X ∧ k ≠ cb) ∧ AllP (fun m D => m ∈ X ∧ MapAt w m D) ms sc ∧ ms.Nodup
  far : 9 ≤ B
  dp : d ≤ 120
  lp : l ≤ 1000
  sl : sc.length ≤ 1000000

theorem Chk.cblt {w : World} {B cb : Nat} {X : List Nat} {fv : Value} {pl : DataW Unit} {res : Int} {sc : List (DataW Unit)} {d l : Nat} (h : Chk w B cb X fv pl res sc d l) : cb < w.heap.size := (h.low cb h.cbX).2

/-- what only adds blocks keeps it -/
theorem Chk.below {w w' : World} {B cb : Nat} {X : List Nat} {fv : Value} {pl : DataW Unit} {res : Int} {sc : List (DataW Unit)} {d l : Nat} (h : Chk w B cb X fv pl res sc d l) (k : Below w.heap.size w w') : Chk w' B cb X fv pl res sc d l := by
  obtain ⟨mb, sv, ms, h1, h2, h3, h4, h5, h6, h7⟩ := h.ex
  refine ⟨h.cbX, fun i hi => ⟨(h.low i hi).1, Nat.lt_of_lt_of_le (h.low i hi).2 k.size⟩, ⟨mb, sv, ms, by rw [k.block cb h.cblt]; exact h1, h2, h3.same (k.block mb h3.lt), ?_, h5, h6.imp fun m D hm => ⟨hm.1, hm.2.same (k.block m hm.2.lt)⟩, h7⟩, h.far, h.dp, h.lp, h.sl⟩
  refine ⟨h4.1, ?_⟩
  rcases h4.2 with h8 | ⟨g, cap, cc, hv, hg, hh, r⟩
  · exact Or.inl h8
  · exact Or.inr ⟨g, cap, cc, hv, hg, by rw [k.block g (lt_of_block hh)]; exact hh, r⟩

/-- .. and what writes only behind N, where all that is the checker's lies ahead of it -/
theorem Chk.belowN {w w' : World} {B cb N : Nat} {X : List Nat} {fv : Value} {pl : DataW Unit} {res : Int} {sc : List (DataW Unit)} {d l : Nat} (h : Chk w B cb X fv pl res sc d l) (hN : ∀ k ∈ X, k < N) (k : Below N w w') : Chk w' B cb X fv pl res sc d l := by
  obtain ⟨mb, sv, ms, h1, h2, h3, h4, h5, h6, h7⟩ := h.ex
  have hcN := hN cb h.cbX
  refine ⟨h.cbX, fun i hi => ⟨(h.low i hi).1, Nat.lt_of_lt_of_le (h.low i hi).2 k.size⟩, ⟨mb, sv, ms, by rw [k.block cb hcN]; exact h1, h2, h3.same (k.block mb (Nat.lt_trans h2.2 hcN)), ?_, h5, h6.imp fun m D hm => ⟨hm.1, hm.2.same (k.block m (hN m hm.1))⟩, h7⟩, h.far, h.dp, h.lp, h.sl⟩
  refine ⟨h4.1, ?_⟩
  rcases h4.2 with h8 | ⟨g, cap, cc, hv, hg, hh, r⟩
  · exact Or.inl h8
  · exact Or.inr ⟨g, cap, cc, hv, hg, by rw [k.block g (hN g (h5 g (by rw [hv]; rfl)).1)]; exact hh, r⟩

theorem Chk.setInt {w : World} {B cb : Nat} {X : List Nat} {fv : Value} {pl : DataW Unit} {res : Int} {sc : List (DataW Unit)} {d l : Nat} (h : Chk w B cb X fv pl res sc d l) (o d' l' : Nat) (v : Value) (ho : (o = 4 ∧ v = .int .i64 d' ∧ l' = l) ∨ (o = 5 ∧ v = .int .i64 l' ∧ d' = d)) (hd : d' ≤ 120) (hl : l' ≤ 1000) :
    Chk (w.setCell ⟨cb, o, none⟩ v) B cb X fv pl res sc d' l' ∧ KX X X w (w.setCell ⟨cb, o, none⟩ v) := by
  obtain ⟨mb, sv, ms, h1, h2, h3, h4, h5, h6, h7⟩ := h.ex
  have hk : Kept cb w (w.setCell ⟨cb, o, none⟩ v) := (Kept.refl _ _).setCell _ _
  have hmc : mb ≠ cb := fun e => h2.1 (e ▸ h.cbX)
  refine ⟨⟨h.cbX, fun i hi => ⟨(h.low i hi).1, Nat.lt_of_lt_of_le (h.low i hi).2 hk.size⟩, ⟨mb, sv, ms, ?_, h2, h3.same (hk.block mb h3.lt hmc), ?_, h5, h6.imp fun m D hm => ⟨hm.1, hm.2.same (hk.block m hm.2.lt ?_)⟩, h7⟩, h.far, hd, hl, h.sl⟩, ?_⟩
  · rw [heap_setCell_same h1]
    rcases ho with ⟨rfl, rfl, rfl⟩ | ⟨rfl, rfl, rfl⟩ <;> simp
  · refine ⟨h4.1, ?_⟩
    rcases h4.2 with h8 | ⟨g, cap, cc, hv, hg, hh, r⟩
    · exact Or.inl h8
    · exact Or.inr ⟨g, cap, cc, hv, hg, by rw [hk.block g (lt_of_block hh) (h5 g (by rw [hv]; rfl)).2]; exact hh, r⟩
  · exact ⟨hk.os, hk.tape, hk.output, hk.size, fun _ h => .inl h, fun k hlt hx => hk.block k hlt fun e => hx (e ▸ h.cbX)⟩
  · rintro rfl; exact hm.2.notCells h1

theorem Chk.cells {w : World} {B cb : Nat} {X : List Nat} {fv : Value} {pl : DataW Unit} {res : Int} {sc : List (DataW Unit)} {d l : Nat} (h : Chk w B cb X fv pl res sc d l) :
    w.cell? ⟨cb, 0, none⟩ = some fv ∧ w.cell? ⟨cb, 2, none⟩ = some (.int .i64 res) ∧ w.cell? ⟨cb, 4, none⟩ = some (.int .i64 d) ∧ w.cell? ⟨cb, 5, none⟩ = some (.int .i64 l) ∧ (∀ o, w.frozen? ⟨cb, o, none⟩ = false) := by
  obtain ⟨mb, sv, ms, h1, _⟩ := h.ex
  exact ⟨by simp [World.cell?, h1], by simp [World.cell?, h1], by simp [World.cell?, h1], by simp [World.cell?, h1], thaw4 h1⟩

/-- the tables of package typed, and the words -/
def acL : List Int := [0, 0, 0, 0, 0, 2, 1, -1, 1, 2, 2, -1, 0]
def ecL : List Int := [0, 0, 1, 1, 1, 1, 2, 2, 1, 1, 1, 1, 1, 1, 1, 1, 0, 2, 1, 1, 0, 0, 0, 0, 1, 1, 1, 1]

structure TabT (w : World) : Prop where
  kw : TabRow w 2 keywordsL
  ac : ∀ i, i < 13 → w.cell? ⟨5, i, none⟩ = some (.int .i64 (acL.getD i 0))
  ec : ∀ i, i < 28 → w.cell? ⟨3, i, none⟩ = some (.int .i64 (ecL.getD i 0))

theorem TabT.below {w w' : World} {B : Nat} (h : TabT w) (hB : 9 ≤ B) (hs : B ≤ w.heap.size) (k : Below B w w') : TabT w' := by
  have g1 : 5 < B := Nat.lt_of_lt_of_le (by decide) hB
  have g2 : 3 < B := Nat.lt_of_lt_of_le (by decide) hB
  have g3 : 2 < B := Nat.lt_of_lt_of_le (by decide) hB
  exact ⟨h.kw.same (k.block _ g3), fun i hi => (k.cell (p := ⟨5, i, none⟩) g1).trans (h.ac i hi), fun i hi => (k.cell (p := ⟨3, i, none⟩) g2).trans (h.ec i hi)⟩

set_option maxHeartbeats 400000 in
theorem enter_no_t (w : World) (B cb : Nat) (X : List Nat) (fv : Value) (pl : DataW Unit) (res : Int) (sc : List (DataW Unit)) (d l : Nat) (h : Chk w B cb X fv pl res sc d l) (hd : 120 ≤ d) :
    Calls Tryz.prog 66 #[.pointer (some ⟨cb, 0, none⟩)] w fun e w' => e = .returned (.bool false) ∧ w' = w := by
  obtain ⟨q0, q2, q4, q5, qz⟩ := h.cells
  have hdI : (120 : Int) ≤ (d : Int) := by omega
  obtain ⟨dI, hdd⟩ : ∃ x : Int, x = (d : Int) := ⟨_, rfl⟩
  rw [← hdd] at hdI q4
  clear h qz q0 q2 q5 hd hdd
  go_enter Tryz.func66, Tryz.ntmps66
  go_wp2
  go_ret
  exact ⟨rfl, rfl⟩

set_option maxHeartbeats 400000 in
theorem enter_yes_t (w : World) (B cb : Nat) (X : List Nat) (fv : Value) (pl : DataW Unit) (res : Int) (sc : List (DataW Unit)) (d l : Nat) (h : Chk w B cb X fv pl res sc d l) (hd : d < 120) :
    Calls Tryz.prog 66 #[.pointer (some ⟨cb, 0, none⟩)] w fun e w' => e = .returned (.bool true) ∧ Chk w' B cb X fv pl res sc (d + 1) l ∧ KX X X w w' := by
  obtain ⟨q0, q2, q4, q5, qz⟩ := h.cells
  have hdI : (d : Int) < 120 := by omega
  have hd0 : (0 : Int) ≤ (d : Int) := by omega
  have qz4 := qz 4
  obtain ⟨dI, hdd⟩ : ∃ x : Int, x = (d : Int) := ⟨_, rfl⟩
  have HX : Hid (Chk (w.setCell ⟨cb, 4, none⟩ (.int .i64 (dI + 1))) B cb X fv pl res sc (d + 1) l ∧ KX X X w (w.setCell ⟨cb, 4, none⟩ (.int .i64 (dI + 1)))) := h.setInt 4 (d + 1) l _ (.inl ⟨rfl, by rw [hdd]; go_num, rfl⟩) (by omega) h.lp
  rw [← hdd] at hdI q4 hd0
  clear h hd q0 q2 q5 qz hdd
  go_enter Tryz.func66, Tryz.ntmps66
  go_wp2_with fail
  go_ret
  exact ⟨rfl, HX.out⟩

end Go.Proofs.YtbpnfoihonehgabGreatDoor
