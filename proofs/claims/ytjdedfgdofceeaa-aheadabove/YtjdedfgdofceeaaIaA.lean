/-
  Code of functions, plain: instructions, blocks, functions; how they lie in memory; what may be (P3.1 to P3.3).
-/
import Derived.Test.YtjdedfgdofceeaaProg
import Derived.WalkKit
import Derived.WalkSpells
import Derived.WalkLawsBesides
import Derived.WalkSmall
import Derived.Deep.LoopGhost
import Derived.Deep.Slices
import Derived.ProofKit
import Derived.Below
namespace Go.Proofs.Ytjdedfgdofceeaa
open Go.RowKit
set_option linter.unusedSimpArgs false
set_option linter.unusedVariables false

structure Ins where
  op : Int
  ds : List Int
  ar : List Int
  n : Int
  s : List UInt8
  to : List Int
deriving Inhabited

structure Cod where
  name : List UInt8
  params : Int
  results : Int
  vars : Int
  slots : Int
  blocks : List (List Ins)
deriving Inhabited

/-- a slice whose elements have m cells each, in a block below B -/
def Lies {A : Type} (m B : Nat) (w : World) (P : List Value → A → Prop) (v : Value) (xs : List A) : Prop :=
  xs.length ≤ maxLen ∧ ∃ a c, v = .slice a xs.length c ∧ (0 < xs.length → ∃ g o, a = some ⟨g, o, none⟩ ∧ g < B ∧
    ∀ i x, xs[i]? = some x → ∃ cs : List Value, cs.length = m ∧ P cs x ∧ ∀ j, j < m → w.cell? ⟨g, o + i * m + j, none⟩ = cs[j]?)

def I64 (n : Int) : Prop := -9223372036854775808 ≤ n ∧ n < 9223372036854775808
def IsN (cs : List Value) (x : Int) : Prop := cs = [.int .i64 x] ∧ I64 x
def Nums (B : Nat) (w : World) (v : Value) (xs : List Int) : Prop := Lies 1 B w IsN v xs
def IsIns (B : Nat) (w : World) (cs : List Value) (x : Ins) : Prop :=
  ∃ vd va vt, cs = [.int .i64 x.op, vd, va, .int .i64 x.n, .string ⟨x.s.toArray⟩, vt] ∧ Nums B w vd x.ds ∧ Nums B w va x.ar ∧ Nums B w vt x.to ∧ x.s.length ≤ maxLen ∧ I64 x.n
def Blk (B : Nat) (w : World) (v : Value) (x : List Ins) : Prop := Lies 6 B w (IsIns B w) v x
def IsBlk (B : Nat) (w : World) (cs : List Value) (x : List Ins) : Prop := ∃ v, cs = [v] ∧ Blk B w v x
def Blks (B : Nat) (w : World) (v : Value) (x : List (List Ins)) : Prop := Lies 1 B w (IsBlk B w) v x
def IsCod (B : Nat) (w : World) (cs : List Value) (x : Cod) : Prop :=
  ∃ vb, cs = [.string ⟨x.name.toArray⟩, .int .i64 x.params, .int .i64 x.results, .int .i64 x.vars, .int .i64 x.slots, vb] ∧ Blks B w vb x.blocks ∧ x.name.length ≤ maxLen ∧ I64 x.params ∧ I64 x.results ∧ I64 x.vars
def Cods (B : Nat) (w : World) (v : Value) (x : List Cod) : Prop := Lies 6 B w (IsCod B w) v x

theorem Lies.slice {A : Type} {m B : Nat} {w : World} {P : List Value → A → Prop} {v : Value} {xs : List A} (h : Lies m B w P v xs) : ∃ a c, v = .slice a xs.length c := by
  obtain ⟨_, a, c, hv, _⟩ := h
  exact ⟨a, c, hv⟩

theorem Lies.len {A : Type} {m B : Nat} {w : World} {P : List Value → A → Prop} {v : Value} {xs : List A} (h : Lies m B w P v xs) : xs.length ≤ maxLen := h.1

theorem Lies.at {A : Type} {m B : Nat} {w : World} {P : List Value → A → Prop} {a : Option Addr} {n c : Nat} {xs : List A} (h : Lies m B w P (.slice a n c) xs) {i : Nat} {x : A} (hx : xs[i]? = some x) :
    ∃ g o cs, a = some ⟨g, o, none⟩ ∧ g < B ∧ cs.length = m ∧ P cs x ∧ ∀ j, j < m → w.cell? ⟨g, o + i * m + j, none⟩ = cs[j]? := by
  obtain ⟨_, a', c', hv, hh⟩ := h
  cases hv
  have hi : i < xs.length := (List.getElem?_eq_some_iff.1 hx).1
  obtain ⟨g, o, ha, hg, hat⟩ := hh (by omega)
  obtain ⟨cs, h1, h2, h3⟩ := hat i x hx
  exact ⟨g, o, cs, ha, hg, h1, h2, h3⟩

theorem Lies.below {A : Type} {m B : Nat} {w w' : World} {P Q : List Value → A → Prop} {v : Value} {xs : List A} (h : Lies m B w P v xs) (k : Below B w w') (hp : ∀ cs x, P cs x → Q cs x) : Lies m B w' Q v xs := by
  obtain ⟨hl, a, c, hv, hh⟩ := h
  refine ⟨hl, a, c, hv, fun h0 => ?_⟩
  obtain ⟨g, o, ha, hg, hat⟩ := hh h0
  refine ⟨g, o, ha, hg, fun i x hx => ?_⟩
  obtain ⟨cs, h1, h2, h3⟩ := hat i x hx
  exact ⟨cs, h1, hp _ _ h2, fun j hj => by rw [k.cell (p := ⟨g, o + i * m + j, none⟩) hg]; exact h3 j hj⟩

/-- more blocks to lie in -/
theorem Lies.up {A : Type} {m B B' : Nat} {w : World} {P Q : List Value → A → Prop} {v : Value} {xs : List A} (h : Lies m B w P v xs) (k : B ≤ B') (hp : ∀ cs x, P cs x → Q cs x) : Lies m B' w Q v xs := by
  obtain ⟨hl, a, c, hv, hh⟩ := h
  refine ⟨hl, a, c, hv, fun h0 => ?_⟩
  obtain ⟨g, o, ha, hg, hat⟩ := hh h0
  refine ⟨g, o, ha, by omega, fun i x hx => ?_⟩
  obtain ⟨cs, h1, h2, h3⟩ := hat i x hx
  exact ⟨cs, h1, hp _ _ h2, h3⟩

theorem Nums.below {B : Nat} {w w' : World} {v : Value} {xs : List Int} (h : Nums B w v xs) (k : Below B w w') : Nums B w' v xs := Lies.below h k fun _ _ h => h
theorem IsIns.below {B : Nat} {w w' : World} {cs : List Value} {x : Ins} (h : IsIns B w cs x) (k : Below B w w') : IsIns B w' cs x := by
  obtain ⟨vd, va, vt, h1, h2, h3, h4, h5⟩ := h
  exact ⟨vd, va, vt, h1, h2.below k, h3.below k, h4.below k, h5⟩
theorem Blk.below {B : Nat} {w w' : World} {v : Value} {x : List Ins} (h : Blk B w v x) (k : Below B w w') : Blk B w' v x := Lies.below h k fun _ _ h => IsIns.below h k
theorem IsBlk.below {B : Nat} {w w' : World} {cs : List Value} {x : List Ins} (h : IsBlk B w cs x) (k : Below B w w') : IsBlk B w' cs x := by
  obtain ⟨v, h1, h2⟩ := h
  exact ⟨v, h1, h2.below k⟩
theorem Blks.below {B : Nat} {w w' : World} {v : Value} {x : List (List Ins)} (h : Blks B w v x) (k : Below B w w') : Blks B w' v x := Lies.below h k fun _ _ h => IsBlk.below h k
theorem IsCod.below {B : Nat} {w w' : World} {cs : List Value} {x : Cod} (h : IsCod B w cs x) (k : Below B w w') : IsCod B w' cs x := by
  obtain ⟨vb, h1, h2, h3⟩ := h
  exact ⟨vb, h1, h2.below k, h3⟩
theorem Cods.below {B : Nat} {w w' : World} {v : Value} {x : List Cod} (h : Cods B w v x) (k : Below B w w') : Cods B w' v x := Lies.below h k fun _ _ h => IsCod.below h k

/-- the first number that is not 0, of E i, E (i + 1), .. -/
def firstNZ (E : Nat → Int) : Nat → Nat → Int
  | _, 0 => 0
  | i, n + 1 => if E i != 0 then E i else firstNZ E (i + 1) n

/-- as many results, arguments and places as it must have -/
def countOk (op : Int) (d a t : Nat) : Bool :=
  if op == 1 then d == 1 && (a == 0 && t == 0) else if op == 2 then d == 1 && (a == 1 && t == 0) else if op == 3 then d == 1 && (a == 2 && t == 0)
  else if op == 4 then d == 1 && (a == 1 && t == 0) else if op == 5 then d == 0 && (a == 2 && t == 0) else if op == 6 then d == 1 && (a == 1 && t == 0)
  else if op == 7 then t == 0 else if op == 8 then d == 0 && t == 0 else if op == 9 then d == 0 && (a == 0 && t == 1)
  else if op == 10 then d == 0 && (a == 1 && t == 2) else if op == 11 then d == 0 && (a == 1 && decide (0 < t)) else if op == 12 then d == 0 && t == 0
  else d == 0 && (a == 0 && t == 0)

def belowB (most : Int) (l : List Int) : Bool := l.all fun n => decide (0 ≤ n) && decide (n < most)
def mathB (s : List UInt8) : Bool := s == [43] || s == [45] || s == [42] || s == [47] || s == [37] || s == [61, 61] || s == [33, 61] || s == [60] || s == [60, 61] || s == [62] || s == [62, 61]
def tInt : List UInt8 := [105, 110, 116]
def tBool : List UInt8 := [98, 111, 111, 108]
def tText : List UInt8 := [116, 101, 120, 116]
def formB (i : Ins) : Bool := if i.op == 3 then mathB i.s else if i.op == 8 then i.s == tInt || i.s == tBool || i.s == tText else if i.op == 13 then decide (2 ≤ i.n) && decide (i.n ≤ 5) else true
def argsB (res : Int) (i : Ins) : Bool := if i.op == 8 then (if i.s == tText then (i.ar.length : Int) == 2 else (i.ar.length : Int) == 1) else if i.op == 12 then (i.ar.length : Int) == res else true

/-- the place of the function of a name -/
def placeOf (fs : List Cod) (s : List UInt8) : Option Nat := fs.findIdx? fun c => c.name == s
def twiceB : List Int → Bool
  | [] => false
  | x :: xs => xs.contains x || twiceB xs
def invokeF (fs : List Cod) (i : Ins) : Int := match placeOf fs i.s with
  | none => 6
  | some k => match fs[k]? with
    | none => 6
    | some f => if (i.ar.length : Int) != f.params || (i.ds.length : Int) != f.results then 10 else if twiceB i.ds then 7 else 0
def instrF (fs : List Cod) (c : Cod) (i : Ins) : Int :=
  if decide (i.op < 1) || decide (13 < i.op) then 3 else if !countOk i.op i.ds.length i.ar.length i.to.length then 10
  else if !(belowB c.vars i.ds && (belowB c.vars i.ar && belowB c.blocks.length i.to)) then 2 else if !formB i then 4 else if !argsB c.results i then 10
  else if i.op == 7 then invokeF fs i else 0
def endsB (op : Int) : Bool := decide (9 ≤ op) && decide (op ≤ 13)
/-- an instruction at its place in a block -/
def atF (fs : List Cod) (c : Cod) (b : List Ins) (k : Nat) : Int := match b[k]? with
  | none => 0
  | some i => if instrF fs c i != 0 then instrF fs c i else if endsB i.op != ((k : Int) == (b.length : Int) - 1) then 4 else 0
/-- how many instructions there were, of numbers that go round -/
def accW (bs : List (List Ins)) (k : Nat) : Int := (bs.take k).foldl (fun a b => wrap64 (a + (b.length : Int))) 0
def blockF (fs : List Cod) (c : Cod) (k : Nat) : Int := match c.blocks[k]? with
  | none => 0
  | some b => if b.length = 0 then 6 else if 6000 < accW c.blocks (k + 1) then 1 else firstNZ (atF fs c b) 0 b.length
def headF (c : Cod) : Int := if c.blocks.length = 0 then 6 else if decide (2000 < c.blocks.length) || decide (3000 < c.vars) || decide (16 < c.params) || decide (16 < c.results) then 1
  else if decide (c.params < 0) || decide (c.results < 0) || decide (c.vars < c.params) || c.slots != 0 then 2 else 0
def codeF (fs : List Cod) (c : Cod) : Int := if headF c != 0 then headF c else firstNZ (blockF fs c) 0 c.blocks.length

theorem accW_succ (bs : List (List Ins)) (k : Nat) (b : List Ins) (h : bs[k]? = some b) : accW bs (k + 1) = wrap64 (accW bs k + (b.length : Int)) := by
  unfold accW
  rw [List.take_add_one, h]
  simp [List.foldl_append]

end Go.Proofs.Ytjdedfgdofceeaa
