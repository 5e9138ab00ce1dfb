/-
  What the machine of package ir does, plain (P3.4 to P3.8): 'none' where nothing is said.
-/
import Derived.Test.YtbpnfoihonehgadDoorJaA
import Derived.Lib.ItoaNum
namespace Go.Proofs.YtbpnfoihonehgadDoor
open Go.RowKit
set_option linter.unusedSimpArgs false
set_option linter.unusedVariables false

def getM (q : Mst) (v : Int) : Option Int := if 0 ≤ v then q.vars[v.toNat]? else none
def setM (q : Mst) (v n : Int) : Option Mst := if 0 ≤ v ∧ v.toNat < q.vars.length then some { q with vars := q.vars.set v.toNat n } else none

def truthI (b : Bool) : Int := if b then 1 else 0
def soM (s : List UInt8) (a b : Int) : Bool :=
  if s == [61, 61] then a == b else if s == [33, 61] then a != b else if s == [60] then decide (a < b) else if s == [60, 61] then decide (a ≤ b)
  else if s == [62] then decide (b < a) else if s == [62, 61] then decide (b ≤ a) else false
def divM (s : List UInt8) (a b : Int) : Int × Int := if b == 0 then (0, 3) else if s == [47] then (wrap64 (a.tdiv b), 0) else (a.tmod b, 0)
def calcM (s : List UInt8) (a b : Int) : Int × Int :=
  if s == [43] then (wrap64 (a + b), 0) else if s == [45] then (wrap64 (a - b), 0) else if s == [42] then (wrap64 (a * b), 0)
  else if s == [47] then divM s a b else if s == [37] then divM s a b else (truthI (soM s a b), 0)

def inHeap (q : Mst) (at_ behind : Int) : Bool := decide (0 ≤ at_) && (decide (0 ≤ wrap64 (at_ + behind)) && decide (wrap64 (at_ + behind) < (q.heap.length : Int)))
def loadM (q : Mst) (at_ behind : Int) : Int × Int := if inHeap q at_ behind then (q.heap.getD (wrap64 (at_ + behind)).toNat 0, 0) else (0, 2)
def storeM (q : Mst) (at_ behind n : Int) : Int × Mst := if inHeap q at_ behind then (0, { q with heap := q.heap.set (wrap64 (at_ + behind)).toNat n }) else (2, q)
def allocM (q : Mst) (n : Int) : (Int × Int) × Mst :=
  if n < 0 then ((0, 2), q) else if wrap64 (q.room - (q.heap.length : Int)) < n then ((0, 5), q) else (((q.heap.length : Int), 0), { q with heap := q.heap ++ List.replicate n.toNat 0 })

/-- the result of an instruction that has one -/
def valueM (q : Mst) (i : Ins) : Option ((Int × Int) × Mst) :=
  if i.op == 1 then some ((i.n, 0), q) else match i.ar[0]? with
  | none => none
  | some a => match getM q a with
    | none => none
    | some x => if i.op == 3 then (match i.ar[1]? with
        | none => none
        | some b => match getM q b with
          | none => none
          | some y => some (calcM i.s x y, q))
      else if i.op == 4 then some (loadM q x i.n, q) else if i.op == 6 then (if 20000 < x ∨ 20000 < q.heap.length ∨ q.room < 0 ∨ 20000 < q.room then none else some (allocM q x)) else some ((x, 0), q)

/-- a line with a number; nothing is said of others -/
def showM (q : Mst) (i : Ins) : Option (Int × Mst) := if q.lines.length = 2000 then some (7, q) else match i.ar[0]? with
  | none => none
  | some a => match getM q a with
    | none => none
    | some x => if i.s == tInt then some (0, { q with lines := q.lines ++ [Lib.itoa x] }) else none

/-- an instruction is done -/
def stepR (q : Mst) (i : Ins) : Option (Int × Mst) :=
  if i.op == 1 || i.op == 2 || i.op == 3 || i.op == 4 || i.op == 6 then (match valueM q i with
    | none => none
    | some ((n, e), q') => if e == 0 then (match i.ds[0]? with
        | none => none
        | some d => match setM q' d n with
          | none => none
          | some q'' => some (0, q''))
      else some (e, q'))
  else if i.op == 5 then (match i.ar[0]?, i.ar[1]? with
    | some a, some b => (match getM q a, getM q b with
      | some x, some y => some (storeM q x i.n y)
      | _, _ => none)
    | _, _ => none)
  else if i.op == 8 then showM q i
  else if i.op == 12 then some (1, q)
  else if i.op == 13 then some (i.n, q)
  else none

def stepM (q : Mst) : Option (Int × Mst) := match q.next with
  | [] => none
  | i :: l => stepR { q with next := l } i

def runM : Nat → Mst → Option (Int × Mst)
  | 0, q => some (6, q)
  | n + 1, q => match stepM q with
    | none => none
    | some (e, q') => if e == 0 then runM n q' else some (e, q')

end Go.Proofs.YtbpnfoihonehgadDoor
