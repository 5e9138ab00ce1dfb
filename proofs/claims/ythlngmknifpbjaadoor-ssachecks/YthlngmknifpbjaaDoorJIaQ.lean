/-
  Rows of one's own; what a world keeps.
-/
import Derived.Test.YthlngmknifpbjaaDoorProg
import Derived.WalkKit
import Derived.WalkSpells
import Derived.WalkLawsBesides
import Derived.WalkSmall
import Derived.Deep.LoopGhost
import Derived.Deep.Slices
import Derived.ProofKit
import Derived.Below
import Derived.ChangeArms
import Derived.Deep.Matrix
import Derived.Deep.AppendLies
namespace Go.Proofs.YthlngmknifpbjaaDoor
section
open Go.RowKit
set_option linter.unusedSimpArgs false
set_option linter.unusedVariables false

structure Ins where
  op : Int
  ds : List Int
  ar : List Int
  n : Int
  s : List UInt8
  to : List Int
deriving Inhabited

structure Cod where
  name : List UInt8
  params : Int
  results : Int
  vars : Int
  slots : Int
  blocks : List (List Ins)
deriving Inhabited

/-- a slice whose elements have m cells each, in a block below B -/
def Lies {A : Type} (m B : Nat) (w : World) (P : List Value → A → Prop) (v : Value) (xs : List A) : Prop :=
  xs.length ≤ maxLen ∧ ∃ a c, v = .slice a xs.length c ∧ (0 < xs.length → ∃ g o, a = some ⟨g, o, none⟩ ∧ g < B ∧
    ∀ i x, xs[i]? = some x → ∃ cs : List Value, cs.length = m ∧ P cs x ∧ ∀ j, j < m → w.cell? ⟨g, o + i * m + j, none⟩ = cs[j]?)

def I64 (n : Int) : Prop := -9223372036854775808 ≤ n ∧ n < 9223372036854775808
def IsN (cs : List Value) (x : Int) : Prop := cs = [.int .i64 x] ∧ I64 x
def Nums (B : Nat) (w : World) (v : Value) (xs : List Int) : Prop := Lies 1 B w IsN v xs
def IsIns (B : Nat) (w : World) (cs : List Value) (x : Ins) : Prop :=
  ∃ vd va vt, cs = [.int .i64 x.op, vd, va, .int .i64 x.n, .string ⟨x.s.toArray⟩, vt] ∧ Nums B w vd x.ds ∧ Nums B w va x.ar ∧ Nums B w vt x.to ∧ x.s.length ≤ maxLen ∧ I64 x.n
def Blk (B : Nat) (w : World) (v : Value) (x : List Ins) : Prop := Lies 6 B w (IsIns B w) v x
def IsBlk (B : Nat) (w : World) (cs : List Value) (x : List Ins) : Prop := ∃ v, cs = [v] ∧ Blk B w v x
def Blks (B : Nat) (w : World) (v : Value) (x : List (List Ins)) : Prop := Lies 1 B w (IsBlk B w) v x
def IsCod (B : Nat) (w : World) (cs : List Value) (x : Cod) : Prop :=
  ∃ vb, cs = [.string ⟨x.name.toArray⟩, .int .i64 x.params, .int .i64 x.results, .int .i64 x.vars, .int .i64 x.slots, vb] ∧ Blks B w vb x.blocks ∧ x.name.length ≤ maxLen ∧ I64 x.params ∧ I64 x.results ∧ I64 x.vars
def Cods (B : Nat) (w : World) (v : Value) (x : List Cod) : Prop := Lies 6 B w (IsCod B w) v x

theorem Lies.slice {A : Type} {m B : Nat} {w : World} {P : List Value → A → Prop} {v : Value} {xs : List A} (h : Lies m B w P v xs) : ∃ a c, v = .slice a xs.length c := by
  obtain ⟨_, a, c, hv, _⟩ := h
  exact ⟨a, c, hv⟩

theorem Lies.len {A : Type} {m B : Nat} {w : World} {P : List Value → A → Prop} {v : Value} {xs : List A} (h : Lies m B w P v xs) : xs.length ≤ maxLen := h.1

theorem Lies.at {A : Type} {m B : Nat} {w : World} {P : List Value → A → Prop} {a : Option Addr} {n c : Nat} {xs : List A} (h : Lies m B w P (.slice a n c) xs) {i : Nat} {x : A} (hx : xs[i]? = some x) :
    ∃ g o cs, a = some ⟨g, o, none⟩ ∧ g < B ∧ cs.length = m ∧ P cs x ∧ ∀ j, j < m → w.cell? ⟨g, o + i * m + j, none⟩ = cs[j]? := by
  obtain ⟨_, a', c', hv, hh⟩ := h
  cases hv
  have hi : i < xs.length := (List.getElem?_eq_some_iff.1 hx).1
  obtain ⟨g, o, ha, hg, hat⟩ := hh (by omega)
  obtain ⟨cs, h1, h2, h3⟩ := hat i x hx
  exact ⟨g, o, cs, ha, hg, h1, h2, h3⟩

theorem Lies.below {A : Type} {m B : Nat} {w w' : World} {P Q : List Value → A → Prop} {v : Value} {xs : List A} (h : Lies m B w P v xs) (k : Below B w w') (hp : ∀ cs x, P cs x → Q cs x) : Lies m B w' Q v xs := by
  obtain ⟨hl, a, c, hv, hh⟩ := h
  refine ⟨hl, a, c, hv, fun h0 => ?_⟩
  obtain ⟨g, o, ha, hg, hat⟩ := hh h0
  refine ⟨g, o, ha, hg, fun i x hx => ?_⟩
  obtain ⟨cs, h1, h2, h3⟩ := hat i x hx
  exact ⟨cs, h1, hp _ _ h2, fun j hj => by rw [k.cell (p := ⟨g, o + i * m + j, none⟩) hg]; exact h3 j hj⟩

/-- more blocks to lie in -/
theorem Lies.up {A : Type} {m B B' : Nat} {w : World} {P Q : List Value → A → Prop} {v : Value} {xs : List A} (h : Lies m B w P v xs) (k : B ≤ B') (hp : ∀ cs x, P cs x → Q cs x) : Lies m B' w Q v xs := by
  obtain ⟨hl, a, c, hv, hh⟩ := h
  refine ⟨hl, a, c, hv, fun h0 => ?_⟩
  obtain ⟨g, o, ha, hg, hat⟩ := hh h0
  refine ⟨g, o, ha, by omega, fun i x hx => ?_⟩
  obtain ⟨cs, h1, h2, h3⟩ := hat i x hx
  exact ⟨cs, h1, hp _ _ h2, h3⟩

theorem Nums.below {B : Nat} {w w' : World} {v : Value} {xs : List Int} (h : Nums B w v xs) (k : Below B w w') : Nums B w' v xs := Lies.below h k fun _ _ h => h
theorem IsIns.below {B : Nat} {w w' : World} {cs : List Value} {x : Ins} (h : IsIns B w cs x) (k : Below B w w') : IsIns B w' cs x := by
  obtain ⟨vd, va, vt, h1, h2, h3, h4, h5⟩ := h
  exact ⟨vd, va, vt, h1, h2.below k, h3.below k, h4.below k, h5⟩
theorem Blk.below {B : Nat} {w w' : World} {v : Value} {x : List Ins} (h : Blk B w v x) (k : Below B w w') : Blk B w' v x := Lies.below h k fun _ _ h => IsIns.below h k
theorem IsBlk.below {B : Nat} {w w' : World} {cs : List Value} {x : List Ins} (h : IsBlk B w cs x) (k : Below B w w') : IsBlk B w' cs x := by
  obtain ⟨v, h1, h2⟩ := h
  exact ⟨v, h1, h2.below k⟩
theorem Blks.below {B : Nat} {w w' : World} {v : Value} {x : List (List Ins)} (h : Blks B w v x) (k : Below B w w') : Blks B w' v x := Lies.below h k fun _ _ h => IsBlk.below h k
theorem IsCod.below {B : Nat} {w w' : World} {cs : List Value} {x : Cod} (h : IsCod B w cs x) (k : Below B w w') : IsCod B w' cs x := by
  obtain ⟨vb, h1, h2, h3⟩ := h
  exact ⟨vb, h1, h2.below k, h3⟩
theorem Cods.below {B : Nat} {w w' : World} {v : Value} {x : List Cod} (h : Cods B w v x) (k : Below B w w') : Cods B w' v x := Lies.below h k fun _ _ h => IsCod.below h k

/-- the first number that is not 0, of E i, E (i + 1), .. -/
def firstNZ (E : Nat → Int) : Nat → Nat → Int
  | _, 0 => 0
  | i, n + 1 => if E i != 0 then E i else firstNZ E (i + 1) n

/-- as many results, arguments and places as it must have -/
def countOk (op : Int) (d a t : Nat) : Bool :=
  if op == 1 then d == 1 && (a == 0 && t == 0) else if op == 2 then d == 1 && (a == 1 && t == 0) else if op == 3 then d == 1 && (a == 2 && t == 0)
  else if op == 4 then d == 1 && (a == 1 && t == 0) else if op == 5 then d == 0 && (a == 2 && t == 0) else if op == 6 then d == 1 && (a == 1 && t == 0)
  else if op == 7 then t == 0 else if op == 8 then d == 0 && t == 0 else if op == 9 then d == 0 && (a == 0 && t == 1)
  else if op == 10 then d == 0 && (a == 1 && t == 2) else if op == 11 then d == 0 && (a == 1 && decide (0 < t)) else if op == 12 then d == 0 && t == 0
  else d == 0 && (a == 0 && t == 0)

def belowB (most : Int) (l : List Int) : Bool := l.all fun n => decide (0 ≤ n) && decide (n < most)
def mathB (s : List UInt8) : Bool := s == [43] || s == [45] || s == [42] || s == [47] || s == [37] || s == [61, 61] || s == [33, 61] || s == [60] || s == [60, 61] || s == [62] || s == [62, 61]
def tInt : List UInt8 := [105, 110, 116]
def tBool : List UInt8 := [98, 111, 111, 108]
def tText : List UInt8 := [116, 101, 120, 116]
def formB (i : Ins) : Bool := if i.op == 3 then mathB i.s else if i.op == 8 then i.s == tInt || i.s == tBool || i.s == tText else if i.op == 13 then decide (2 ≤ i.n) && decide (i.n ≤ 5) else true
def argsB (res : Int) (i : Ins) : Bool := if i.op == 8 then (if i.s == tText then (i.ar.length : Int) == 2 else (i.ar.length : Int) == 1) else if i.op == 12 then (i.ar.length : Int) == res else true

/-- the place of the function of a name -/
def placeOf (fs : List Cod) (s : List UInt8) : Option Nat := fs.findIdx? fun c => c.name == s
def twiceB : List Int → Bool
  | [] => false
  | x :: xs => xs.contains x || twiceB xs
def invokeF (fs : List Cod) (i : Ins) : Int := match placeOf fs i.s with
  | none => 6
  | some k => match fs[k]? with
    | none => 6
    | some f => if (i.ar.length : Int) != f.params || (i.ds.length : Int) != f.results then 10 else if twiceB i.ds then 7 else 0
def instrF (fs : List Cod) (c : Cod) (i : Ins) : Int :=
  if decide (i.op < 1) || decide (13 < i.op) then 3 else if !countOk i.op i.ds.length i.ar.length i.to.length then 10
  else if !(belowB c.vars i.ds && (belowB c.vars i.ar && belowB c.blocks.length i.to)) then 2 else if !formB i then 4 else if !argsB c.results i then 10
  else if i.op == 7 then invokeF fs i else 0
def endsB (op : Int) : Bool := decide (9 ≤ op) && decide (op ≤ 13)
/-- an instruction at its place in a block -/
def atF (fs : List Cod) (c : Cod) (b : List Ins) (k : Nat) : Int := match b[k]? with
  | none => 0
  | some i => if instrF fs c i != 0 then instrF fs c i else if endsB i.op != ((k : Int) == (b.length : Int) - 1) then 4 else 0
/-- how many instructions there were, of numbers that go round -/
def accW (bs : List (List Ins)) (k : Nat) : Int := (bs.take k).foldl (fun a b => wrap64 (a + (b.length : Int))) 0
def blockF (fs : List Cod) (c : Cod) (k : Nat) : Int := match c.blocks[k]? with
  | none => 0
  | some b => if b.length = 0 then 6 else if 6000 < accW c.blocks (k + 1) then 1 else firstNZ (atF fs c b) 0 b.length
def headF (c : Cod) : Int := if c.blocks.length = 0 then 6 else if decide (2000 < c.blocks.length) || decide (3000 < c.vars) || decide (16 < c.params) || decide (16 < c.results) then 1
  else if decide (c.params < 0) || decide (c.results < 0) || decide (c.vars < c.params) || c.slots != 0 then 2 else 0
def codeF (fs : List Cod) (c : Cod) : Int := if headF c != 0 then headF c else firstNZ (blockF fs c) 0 c.blocks.length

theorem accW_succ (bs : List (List Ins)) (k : Nat) (b : List Ins) (h : bs[k]? = some b) : accW bs (k + 1) = wrap64 (accW bs k + (b.length : Int)) := by
  unfold accW
  rw [List.take_add_one, h]
  simp [List.foldl_append]
end

section
open Go.RowKit
set_option linter.unusedSimpArgs false
set_option linter.unusedVariables false

variable {H : Type} {enc : TypeId × Value → H} {W : World} {base : Nat} {spare : Nat → Bool} {held : Bool}

theorem get_some {A : Type} {xs : List A} {n i : Nat} (h : xs.length = n) (hi : i < n) : ∃ x, xs[i]? = some x := ⟨xs[i]'(by omega), List.getElem?_eq_getElem (by omega)⟩

theorem plain_addr {a : Addr} {n m : Nat} {cs : List Value} (h : W.cells? base (a.add (0 * n)) m = some cs) (hm : 0 < m) : ∃ g o, a = ⟨g, o, none⟩ := by
  obtain ⟨_, hl, hc⟩ := World.cells?_some h
  have h0 := hc 0 hm
  rw [List.getElem?_eq_getElem (by omega)] at h0
  obtain ⟨g, o, spot⟩ := a
  have hspot : spot = none := by simpa [Addr.add] using World.cell?_spot h0
  subst hspot
  exact ⟨g, o, rfl⟩

theorem elem_cells {a : Addr} {n m i : Nat} {e : TypeId} {elems : List (DataW H × List MemPlace)} {len : Nat} (hlen : elems.length = len) (hi : i < len)
    (hel : ∀ i, i < len → (W.cells? base (a.add (i * m)) m).bind (DataW.trod enc Tryd.prog W base spare held n e) = elems[i]?) (hm : 0 < m) :
    ∃ g o cs y, a = (⟨g, o, none⟩ : Addr) ∧ DataW.trod enc Tryd.prog W base spare held n e cs = some y ∧ cs.length = m ∧ ∀ j, j < m → W.cell? ⟨g, o + i * m + j, none⟩ = cs[j]? := by
  obtain ⟨y0, hy0⟩ := get_some (i := 0) hlen (by omega)
  have h0 := hel 0 (by omega)
  rw [hy0] at h0
  obtain ⟨cs0, hc0, _⟩ := Option.bind_eq_some_iff.1 h0
  obtain ⟨g, o, rfl⟩ := plain_addr hc0 hm
  obtain ⟨y, hy⟩ := get_some (i := i) hlen hi
  have h1 := hel i hi
  rw [hy] at h1
  obtain ⟨cs, hc, ht⟩ := Option.bind_eq_some_iff.1 h1
  obtain ⟨_, hcl, hcell⟩ := World.cells?_some hc
  exact ⟨g, o, cs, y, rfl, ht, hcl, fun j hj => by rw [← hcell j hj, Go.WideShapes.add_plain, Go.WideShapes.add_plain]⟩

theorem lies_of_trod {A : Type} [Inhabited A] {t e : TypeId} {m fuel : Nat} {cs : List Value} {x : DataW H × List MemPlace} {P : List Value → A → Prop} (ht : Tryd.prog.underlying t = some (.slice e)) (hc : Tryd.prog.cellsOf e = m) (hm : 0 < m)
    (hP : ∀ n cs y, n < fuel → DataW.trod enc Tryd.prog W base spare held n e cs = some y → ∃ x, P cs x) (h : DataW.trod enc Tryd.prog W base spare held fuel t cs = some x) : ∃ v xs, cs = [v] ∧ Lies m W.heap.size W P v xs := by
  rcases DataW.trod_slice ht h with ⟨rfl, _⟩ | ⟨a, len, cap, elems, rest, n, rfl, rfl, _, hb, hl, hmx, hlen, hel, _⟩
  · exact ⟨_, [], rfl, Nat.zero_le _, none, 0, rfl, fun h => by simp at h⟩
  · rw [hc] at hel
    cases len with
    | zero => exact ⟨_, [], rfl, Nat.zero_le _, some a, cap, rfl, fun h => by simp at h⟩
    | succ len =>
      obtain ⟨F, hF⟩ := Go.Deep.choose_lt (α := A) (n := len + 1) (p := fun i x => ∃ g o cs, a = (⟨g, o, none⟩ : Addr) ∧ cs.length = m ∧ P cs x ∧ ∀ j, j < m → W.cell? ⟨g, o + i * m + j, none⟩ = cs[j]?) (by
        intro i hi
        obtain ⟨g, o, cs, y, rfl, ht', hcl, hcell⟩ := elem_cells (i := i) hlen hi hel hm
        obtain ⟨x, hx⟩ := hP n cs y (by omega) ht'
        exact ⟨x, g, o, cs, rfl, hcl, hx, hcell⟩)
      obtain ⟨g, o, cs0, rfl, hl0, _, hc0⟩ := hF 0 (by omega)
      have hg : g < W.heap.size := by
        have h1 := hc0 0 hm
        rw [List.getElem?_eq_getElem (by omega)] at h1
        exact World.block_lt_of_cell? W _ h1
      refine ⟨_, (List.range (len + 1)).map F, rfl, by simp; omega, some ⟨g, o, none⟩, cap, by simp, fun _ => ⟨g, o, rfl, hg, fun i x hx => ?_⟩⟩
      have hi : i < len + 1 := by
        have := (List.getElem?_eq_some_iff.1 hx).1
        simpa using this
      simp [List.getElem?_map, List.getElem?_range hi] at hx
      subst hx
      obtain ⟨g', o', cs, hga, h1, h2, h3⟩ := hF i hi
      cases hga
      exact ⟨cs, h1, h2, h3⟩

theorem cells_int : Tryd.prog.cellsOf 3 = 1 := by kernel_rfl
theorem cells_ints : Tryd.prog.cellsOf 23 = 1 := by kernel_rfl
theorem cells_str : Tryd.prog.cellsOf 9 = 1 := by kernel_rfl
theorem cells_ins : Tryd.prog.cellsOf 37 = 6 := by kernel_rfl
theorem cells_blk : Tryd.prog.cellsOf 32 = 1 := by kernel_rfl
theorem cells_blks : Tryd.prog.cellsOf 26 = 1 := by kernel_rfl
theorem cells_cod : Tryd.prog.cellsOf 28 = 6 := by kernel_rfl

theorem i64_of_wf {n : Int} (h : (Lit.int .i64 n).wf = true) : I64 n := by
  unfold Lit.wf at h
  rw [Bool.and_eq_true] at h
  have h1 := of_decide_eq_true h.1
  have h2 := of_decide_eq_true h.2
  have e1 : IntKind.i64.min = -9223372036854775808 := by decide +kernel
  have e2 : IntKind.i64.max = 9223372036854775807 := by decide +kernel
  rw [e1] at h1
  rw [e2] at h2
  exact ⟨h1, by omega⟩

theorem num_of_trod {fuel : Nat} {cs : List Value} {x : DataW H × List MemPlace} (h : DataW.trod enc Tryd.prog W base spare held fuel 3 cs = some x) : ∃ n, IsN cs n := by
  obtain ⟨n, h1, _, h2⟩ := DataW.trod_int Tryd.underlying3 h
  exact ⟨n, h1, i64_of_wf h2⟩

theorem nums_of_trod {fuel : Nat} {cs : List Value} {x : DataW H × List MemPlace} (h : DataW.trod enc Tryd.prog W base spare held fuel 23 cs = some x) : ∃ v xs, cs = [v] ∧ Nums W.heap.size W v xs :=
  lies_of_trod Tryd.underlying23 cells_int (by decide) (fun n cs y _ hy => num_of_trod hy) h

set_option maxRecDepth 20000 in
theorem str_of_trod {fuel : Nat} {cs : List Value} {x : DataW H × List MemPlace} (h : DataW.trod enc Tryd.prog W base spare held fuel 9 cs = some x) : ∃ s : List UInt8, cs = [.string ⟨s.toArray⟩] ∧ s.length ≤ maxLen := by
  obtain ⟨s, h1, _, h2⟩ := DataW.trod_string Tryd.underlying9 h
  refine ⟨s.data.toList, by rw [h1], ?_⟩
  have : s.size = s.data.toList.length := (Array.length_toList (xs := s.data)).symm
  rw [← this]
  exact h2

set_option maxRecDepth 20000 in
theorem ins_of_trod {fuel : Nat} {cs : List Value} {x : DataW H × List MemPlace} (h : DataW.trod enc Tryd.prog W base spare held fuel 37 cs = some x) : ∃ i, IsIns W.heap.size W cs i := by
  obtain ⟨xs, n, rfl, rfl, hlen, hxs, hel⟩ := DataW.trod_struct Tryd.underlying37 h
  rw [cells_ins] at hlen
  match cs, hlen with
  | [v0, v1, v2, v3, v4, v5], _ =>
    have h0 : DataW.trod enc Tryd.prog W base spare held n 3 (([v0, v1, v2, v3, v4, v5].drop 0).take (Tryd.prog.cellsOf 3)) = xs[0]? := hel 0 _ rfl
    have h1 : DataW.trod enc Tryd.prog W base spare held n 23 (([v0, v1, v2, v3, v4, v5].drop 1).take (Tryd.prog.cellsOf 23)) = xs[1]? := hel 1 _ rfl
    have h2 : DataW.trod enc Tryd.prog W base spare held n 23 (([v0, v1, v2, v3, v4, v5].drop 2).take (Tryd.prog.cellsOf 23)) = xs[2]? := hel 2 _ rfl
    have h3 : DataW.trod enc Tryd.prog W base spare held n 3 (([v0, v1, v2, v3, v4, v5].drop 3).take (Tryd.prog.cellsOf 3)) = xs[3]? := hel 3 _ rfl
    have h4 : DataW.trod enc Tryd.prog W base spare held n 9 (([v0, v1, v2, v3, v4, v5].drop 4).take (Tryd.prog.cellsOf 9)) = xs[4]? := hel 4 _ rfl
    have h5 : DataW.trod enc Tryd.prog W base spare held n 23 (([v0, v1, v2, v3, v4, v5].drop 5).take (Tryd.prog.cellsOf 23)) = xs[5]? := hel 5 _ rfl
    rw [cells_int] at h0 h3
    rw [cells_ints] at h1 h2 h5
    rw [cells_str] at h4
    obtain ⟨y0, e0⟩ := get_some (i := 0) hxs (by decide)
    obtain ⟨y1, e1⟩ := get_some (i := 1) hxs (by decide)
    obtain ⟨y2, e2⟩ := get_some (i := 2) hxs (by decide)
    obtain ⟨y3, e3⟩ := get_some (i := 3) hxs (by decide)
    obtain ⟨y4, e4⟩ := get_some (i := 4) hxs (by decide)
    obtain ⟨y5, e5⟩ := get_some (i := 5) hxs (by decide)
    rw [e0] at h0; rw [e1] at h1; rw [e2] at h2; rw [e3] at h3; rw [e4] at h4; rw [e5] at h5
    simp at h0 h1 h2 h3 h4 h5
    obtain ⟨op, r0, _⟩ := num_of_trod h0
    obtain ⟨vd, ds, r1, hd⟩ := nums_of_trod h1
    obtain ⟨va, ar, r2, ha⟩ := nums_of_trod h2
    obtain ⟨nn, r3, hn⟩ := num_of_trod h3
    obtain ⟨s, r4, hs⟩ := str_of_trod h4
    obtain ⟨vt, to, r5, ht⟩ := nums_of_trod h5
    cases r0; cases r1; cases r2; cases r3; cases r4; cases r5
    exact ⟨⟨op, ds, ar, nn, s, to⟩, _, _, _, rfl, hd, ha, ht, hs, hn⟩

theorem blk_of_trod {fuel : Nat} {cs : List Value} {x : DataW H × List MemPlace} (h : DataW.trod enc Tryd.prog W base spare held fuel 32 cs = some x) : ∃ b, IsBlk W.heap.size W cs b := by
  obtain ⟨v, xs, rfl, hv⟩ := lies_of_trod (P := IsIns W.heap.size W) Tryd.underlying32 cells_ins (by decide) (fun n cs y _ hy => ins_of_trod hy) h
  exact ⟨xs, v, rfl, hv⟩

theorem blks_of_trod {fuel : Nat} {cs : List Value} {x : DataW H × List MemPlace} (h : DataW.trod enc Tryd.prog W base spare held fuel 26 cs = some x) : ∃ v b, cs = [v] ∧ Blks W.heap.size W v b :=
  lies_of_trod Tryd.underlying26 cells_blk (by decide) (fun n cs y _ hy => blk_of_trod hy) h

set_option maxRecDepth 20000 in
theorem cod_of_trod {fuel : Nat} {cs : List Value} {x : DataW H × List MemPlace} (h : DataW.trod enc Tryd.prog W base spare held fuel 28 cs = some x) : ∃ i, IsCod W.heap.size W cs i := by
  obtain ⟨xs, n, rfl, rfl, hlen, hxs, hel⟩ := DataW.trod_struct Tryd.underlying28 h
  rw [cells_cod] at hlen
  match cs, hlen with
  | [v0, v1, v2, v3, v4, v5], _ =>
    have h0 : DataW.trod enc Tryd.prog W base spare held n 9 (([v0, v1, v2, v3, v4, v5].drop 0).take (Tryd.prog.cellsOf 9)) = xs[0]? := hel 0 _ rfl
    have h1 : DataW.trod enc Tryd.prog W base spare held n 3 (([v0, v1, v2, v3, v4, v5].drop 1).take (Tryd.prog.cellsOf 3)) = xs[1]? := hel 1 _ rfl
    have h2 : DataW.trod enc Tryd.prog W base spare held n 3 (([v0, v1, v2, v3, v4, v5].drop 2).take (Tryd.prog.cellsOf 3)) = xs[2]? := hel 2 _ rfl
    have h3 : DataW.trod enc Tryd.prog W base spare held n 3 (([v0, v1, v2, v3, v4, v5].drop 3).take (Tryd.prog.cellsOf 3)) = xs[3]? := hel 3 _ rfl
    have h4 : DataW.trod enc Tryd.prog W base spare held n 3 (([v0, v1, v2, v3, v4, v5].drop 4).take (Tryd.prog.cellsOf 3)) = xs[4]? := hel 4 _ rfl
    have h5 : DataW.trod enc Tryd.prog W base spare held n 26 (([v0, v1, v2, v3, v4, v5].drop 5).take (Tryd.prog.cellsOf 26)) = xs[5]? := hel 5 _ rfl
    rw [cells_int] at h1 h2 h3 h4
    rw [cells_str] at h0
    rw [cells_blks] at h5
    obtain ⟨y0, e0⟩ := get_some (i := 0) hxs (by decide)
    obtain ⟨y1, e1⟩ := get_some (i := 1) hxs (by decide)
    obtain ⟨y2, e2⟩ := get_some (i := 2) hxs (by decide)
    obtain ⟨y3, e3⟩ := get_some (i := 3) hxs (by decide)
    obtain ⟨y4, e4⟩ := get_some (i := 4) hxs (by decide)
    obtain ⟨y5, e5⟩ := get_some (i := 5) hxs (by decide)
    rw [e0] at h0; rw [e1] at h1; rw [e2] at h2; rw [e3] at h3; rw [e4] at h4; rw [e5] at h5
    simp at h0 h1 h2 h3 h4 h5
    obtain ⟨s, r0, hs⟩ := str_of_trod h0
    obtain ⟨n1, r1, i1⟩ := num_of_trod h1
    obtain ⟨n2, r2, i2⟩ := num_of_trod h2
    obtain ⟨n3, r3, i3⟩ := num_of_trod h3
    obtain ⟨n4, r4, _⟩ := num_of_trod h4
    obtain ⟨vb, bs, r5, hb⟩ := blks_of_trod h5
    cases r0; cases r1; cases r2; cases r3; cases r4; cases r5
    exact ⟨⟨s, n1, n2, n3, n4, bs⟩, _, rfl, hb, hs, i1, i2, i3⟩
end

section
open Go.RowKit
set_option linter.unusedSimpArgs false
set_option linter.unusedVariables false

theorem below_after {w w1 w2 : World} (h : Below w.heap.size w w1) (k : Below w1.heap.size w1 w2) : Below w.heap.size w w2 :=
  ⟨k.os.trans h.os, k.tape.trans h.tape, k.output.trans h.output, Nat.le_trans h.size k.size, fun i hi => (k.block i (Nat.lt_of_lt_of_le hi h.size)).trans (h.block i hi)⟩

theorem below_alloc (w : World) (o : Obj) : Below w.heap.size w (w.alloc o) := (Below.refl _ _).alloc (Nat.le_refl _) _

theorem blk_alloc {w : World} {x : Nat} {o' : Obj} (h : w.heap[x]? = some o') (o : Obj) : (w.alloc o).heap[x]? = some o' := by
  have hx : x < w.heap.size := by
    rcases Nat.lt_or_ge x w.heap.size with hb | hb
    · exact hb
    · rw [Array.getElem?_eq_none hb] at h; cases h
  rw [Below.heap_alloc _ _ _ hx]; exact h

theorem heap_alloc2 (w : World) (o1 o2 : Obj) : ((w.alloc o1).alloc o2).heap[w.heap.size]? = some o1 ∧ ((w.alloc o1).alloc o2).heap[w.heap.size + 1]? = some o2 := by
  refine ⟨blk_alloc (heap_alloc_new w o1) o2, ?_⟩
  have := heap_alloc_new (w.alloc o1) o2
  simpa using this

/-- the value of an instruction, of code -/
def insV (i : Ins) (vd va vt : Value) : Value := .agg #[.int .i64 i.op, vd, va, .int .i64 i.n, .string ⟨i.s.toArray⟩, vt]

def codV (c : Cod) (vb : Value) : Value := .agg #[.string ⟨c.name.toArray⟩, .int .i64 c.params, .int .i64 c.results, .int .i64 c.vars, .int .i64 c.slots, vb]

theorem all_true {A : Type} {l : List A} {P : A → Bool} (h : ∀ (j : Nat) (x : A), l[j]? = some x → P x = true) : l.all P = true := by
  rw [List.all_eq_true]
  intro x hx
  obtain ⟨j, hj⟩ := List.getElem?_of_mem hx
  exact h j x hj

theorem all_false {A : Type} {l : List A} {P : A → Bool} {j : Nat} {x : A} (h : l[j]? = some x) (hp : P x = false) : l.all P = false := by
  rw [List.all_eq_false]
  exact ⟨x, List.mem_of_getElem? h, by simp [hp]⟩

theorem cells6 {w : World} {x : Nat} {T : TypeId} {f : Nat × Nat} {c0 c1 c2 c3 c4 c5 : Value} (h : w.heap[x]? = some (.cells #[c0, c1, c2, c3, c4, c5] T f)) :
    w.cell? ⟨x, 0, none⟩ = some c0 ∧ w.cell? ⟨x, 1, none⟩ = some c1 ∧ w.cell? ⟨x, 2, none⟩ = some c2 ∧ w.cell? ⟨x, 3, none⟩ = some c3 ∧ w.cell? ⟨x, 4, none⟩ = some c4 ∧ w.cell? ⟨x, 5, none⟩ = some c5 := by
  simp [World.cell?, h]

def dupN : List Cod → Bool
  | [] => false
  | c :: cs => cs.any (fun d => d.name == c.name) || dupN cs

theorem lt_of_block {w : World} {x : Nat} {o : Obj} (h : w.heap[x]? = some o) : x < w.heap.size := by
  rcases Nat.lt_or_ge x w.heap.size with hb | hb
  · exact hb
  · rw [Array.getElem?_eq_none hb] at h; cases h

theorem firstNZ_step (E : Nat → Int) (i n : Nat) (h : (E i != 0) = false) : firstNZ E i (n + 1) = firstNZ E (i + 1) n := by
  show (if (E i != 0) = true then E i else firstNZ E (i + 1) n) = _
  rw [h]
  rfl

theorem firstNZ_hit (E : Nat → Int) (i n : Nat) (h : (E i != 0) = true) : firstNZ E i (n + 1) = E i := by
  show (if (E i != 0) = true then E i else firstNZ E (i + 1) n) = _
  rw [h]
  rfl

theorem heap_setCell_same {w : World} {b o : Nat} {c : Array Value} {T : TypeId} {f : Nat × Nat} (h : w.heap[b]? = some (.cells c T f)) (v : Value) :
    (w.setCell ⟨b, o, none⟩ v).heap[b]? = some (.cells (c.setIfInBounds o v) T f) := by
  simp [World.setCell, Array.getElem?_modify, h]

def prgV (vf vd : Value) : Value := .agg #[vf, vd]

theorem cells2 {w : World} {x : Nat} {T : TypeId} {f : Nat × Nat} {c0 c1 : Value} (h : w.heap[x]? = some (.cells #[c0, c1] T f)) : w.cell? ⟨x, 0, none⟩ = some c0 ∧ w.cell? ⟨x, 1, none⟩ = some c1 := by simp [World.cell?, h]
end

section
open Go.RowKit
set_option linter.unusedSimpArgs false
set_option linter.unusedVariables false

def numV (n : Int) : Value := .int .i64 n

def strV (s : List UInt8) : Value := .string ⟨s.toArray⟩

def numsL (xs : List Int) : List Value := xs.map numV

def strsL (xs : List (List UInt8)) : List Value := xs.map strV

theorem own_same {w w' : World} {base size n : Nat} {e : TypeId} {v : Value} {xs : List Value} (h : w.ownsRow base e size v n xs) (hb : ∀ g, v.ownBlock = some g → w'.heap[g]? = w.heap[g]?) :
    w'.ownsRow base e size v n xs := by
  refine ⟨h.1, ?_⟩
  rcases h.2 with h2 | ⟨g, cap, cur, hv, hg, hh, r⟩
  · exact Or.inl h2
  · subst hv
    exact Or.inr ⟨g, cap, cur, rfl, hg, by rw [hb g rfl]; exact hh, r⟩

theorem own_slice {w : World} {base size n : Nat} {e : TypeId} {v : Value} {xs : List Value} (h : w.ownsRow base e size v n xs) : ∃ a c, v = .slice a n c := by
  rcases h.2 with ⟨rfl, rfl⟩ | ⟨g, cap, cur, rfl, _⟩
  · exact ⟨_, _, rfl⟩
  · exact ⟨_, _, rfl⟩

theorem own_cap {w : World} {base size n : Nat} {e : TypeId} {a : Option Addr} {c : Nat} {xs : List Value} (h : w.ownsRow base e size (.slice a n c) n xs) : n ≤ c ∧ c ≤ maxLen := by
  rcases h.2 with ⟨h1, rfl⟩ | ⟨g, cap, cur, hv, _, _, h2, h3, _⟩
  · cases h1; exact ⟨Nat.le_refl _, Nat.zero_le _⟩
  · cases hv; exact ⟨h2, h3⟩

theorem own_at {w : World} {base size n : Nat} {e : TypeId} {v : Value} {xs : List Value} (h : w.ownsRow base e size v n xs) (hn : 0 < n) :
    ∃ g cap, v = .slice (some ⟨g, 0, none⟩) n cap ∧ base ≤ g ∧ g < w.heap.size ∧ n ≤ cap ∧ cap ≤ maxLen ∧ (∀ o, w.frozen? ⟨g, o, none⟩ = false) ∧ ∀ j u, xs[j]? = some u → w.cell? ⟨g, j, none⟩ = some u := by
  rcases h.2 with ⟨_, h0⟩ | ⟨g, cap, cur, hv, hb, hg, h2, h3, h4, h5⟩
  · omega
  · subst hv
    have hc := h.cells (g := g) rfl
    refine ⟨g, cap, rfl, hb, lt_of_block hg, h2, h3, fun o => by simp [World.frozen?, hg], fun j u hu => ?_⟩
    have := hc j u hu
    rwa [show (⟨g, 0, none⟩ : Addr).add j = ⟨g, j, none⟩ from by unfold Addr.add; split <;> simp_all] at this

/-- one cell is written -/
theorem own_set {w : World} {base size n g cap : Nat} {e : TypeId} {xs : List Value} (h : w.ownsRow base e size (.slice (some ⟨g, 0, none⟩) n cap) n xs) (j : Nat) (u : Value) (hj : j < n * size) :
    (w.setCell ⟨g, j, none⟩ u).ownsRow base e size (.slice (some ⟨g, 0, none⟩) n cap) n (xs.set j u) := by
  obtain ⟨h1, h2⟩ := h
  refine ⟨by simpa using h1, ?_⟩
  rcases h2 with ⟨h2, _⟩ | ⟨g', cap', cur, hv, hb, hh, hn, hc, hs, ht⟩
  · cases h2
  · cases hv
    refine .inr ⟨g, cap, _, rfl, hb, heap_setCell_same hh u, hn, hc, by simpa using hs, ?_⟩
    rw [Array.toList_setIfInBounds, List.take_set, ht]

/-- a row is cut -/
theorem own_cut {w : World} {base size n k g cap : Nat} {e : TypeId} {xs : List Value} (h : w.ownsRow base e size (.slice (some ⟨g, 0, none⟩) n cap) n xs) (hk : k ≤ n) :
    w.ownsRow base e size (.slice (some ⟨g, 0, none⟩) k cap) k (xs.take (k * size)) := by
  obtain ⟨h1, h2⟩ := h
  have hle : k * size ≤ n * size := Nat.mul_le_mul_right _ hk
  refine ⟨by rw [List.length_take, h1, Nat.min_eq_left hle], ?_⟩
  rcases h2 with ⟨h2, _⟩ | ⟨g', cap', cur, hv, hb, hh, hn, hc, hs, ht⟩
  · cases h2
  · cases hv
    exact .inr ⟨g, cap, cur, rfl, hb, hh, Nat.le_trans hk hn, hc, hs, by rw [← ht, List.take_take, Nat.min_eq_left hle]⟩

theorem numsL_get (xs : List Int) (j : Nat) (x : Int) (h : xs[j]? = some x) : (numsL xs)[j]? = some (numV x) := by simp [numsL, h]

theorem numsL_len (xs : List Int) : (numsL xs).length = xs.length := by simp [numsL]

theorem strsL_len (xs : List (List UInt8)) : (strsL xs).length = xs.length := by simp [strsL]

theorem numsL_set (xs : List Int) (j : Nat) (x : Int) : (numsL xs).set j (numV x) = numsL (xs.set j x) := by simp [numsL, List.map_set]

theorem numsL_take (xs : List Int) (j : Nat) : (numsL xs).take j = numsL (xs.take j) := by simp [numsL, List.map_take]

theorem numsL_append (xs ys : List Int) : numsL xs ++ numsL ys = numsL (xs ++ ys) := by simp [numsL]

theorem strsL_append (xs ys : List (List UInt8)) : strsL xs ++ strsL ys = strsL (xs ++ ys) := by simp [strsL]

theorem nums_one (xs : List Int) : ∀ u ∈ numsL xs, u.oneCell' = true := by
  intro u hu
  obtain ⟨x, _, rfl⟩ := List.mem_map.1 hu
  rfl

/-- what a world keeps: all blocks that are not the machine's -/
structure Fr (w : World) (col : Nat → Nat) (w' : World) (col' : Nat → Nat) : Prop where
  os : w'.os = w.os
  tape : w'.tape = w.tape
  output : w'.output = w.output
  size : w.heap.size ≤ w'.heap.size
  block : ∀ k, k < w.heap.size → col k = 0 → w'.heap[k]? = w.heap[k]? ∧ col' k = 0

theorem Fr.refl (w : World) (col : Nat → Nat) : Fr w col w col := ⟨rfl, rfl, rfl, Nat.le_refl _, fun _ _ h => ⟨rfl, h⟩⟩

theorem Fr.trans {u v w : World} {a b c : Nat → Nat} (h : Fr u a v b) (k : Fr v b w c) : Fr u a w c :=
  ⟨k.os.trans h.os, k.tape.trans h.tape, k.output.trans h.output, Nat.le_trans h.size k.size, fun i hi h0 => by
    have h1 := h.block i hi h0
    have h2 := k.block i (Nat.lt_of_lt_of_le hi h.size) h1.2
    exact ⟨h2.1.trans h1.1, h2.2⟩⟩

/-- nothing old is turned -/
theorem Fr.of_below {w w' : World} (col : Nat → Nat) (h : Below w.heap.size w w') : Fr w col w' col := ⟨h.os, h.tape, h.output, h.size, fun k hk h0 => ⟨h.block k hk, h0⟩⟩

theorem Fr.below {w w' : World} {col col' : Nat → Nat} {B : Nat} (h : Fr w col w' col') (hB : B ≤ w.heap.size) (h0 : ∀ k, k < B → col k = 0) : Below B w w' :=
  ⟨h.os, h.tape, h.output, h.size, fun k hk => (h.block k (by omega) (h0 k hk)).1⟩
end

end Go.Proofs.YthlngmknifpbjaaDoor
