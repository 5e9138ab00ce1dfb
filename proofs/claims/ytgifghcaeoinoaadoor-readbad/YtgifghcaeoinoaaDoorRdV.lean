/-
  Statements: how they lie in memory, what reading them answers as a function of the pieces, and what a call that reads one leaves.
-/
import Derived.Test.YtgifghcaeoinoaaDoorRdU
namespace Go.Proofs.YtgifghcaeoinoaaDoor
open Go.RowKit
set_option linter.unusedSimpArgs false
set_option linter.unusedVariables false

/-- a case of a switch: its numbers, its block -/
def IsC (P : Value → St → Prop) (S : Nat → Prop) (w : World) (v : Value) (c : List Int × List St) : Prop :=
  ∃ a l, v = .agg #[a, l] ∧ Row S w (fun u n => u = .int .i64 n) a c.1 ∧ Row S w P l c.2

def IsS : Nat → (Nat → Prop) → World → Value → St → Prop
  | 0, _, _, _, _ => False
  | f + 1, S, w, v, x => ∃ ae ab al ac, v = .agg #[.int .i64 x.kind, .string ⟨x.s.toArray⟩, .string ⟨x.t.toArray⟩, ae, ab, al, ac] ∧ Row S w (AnE S w) ae x.exprs ∧ Row S w (IsS f S w) ab x.body ∧ Row S w (IsS f S w) al x.els ∧
    Row S w (IsC (IsS f S w) S w) ac x.cases

theorem IsC.move {P Q : Value → St → Prop} {S S' : Nat → Prop} {w w' : World} {v : Value} {c : List Int × List St} (h : IsC P S w v c) (hk : ∀ g, S g → g < w.heap.size → S' g ∧ w'.heap[g]? = w.heap[g]?) (hp : ∀ u x, P u x → Q u x) : IsC Q S' w' v c := by
  obtain ⟨a, l, hv, h1, h2⟩ := h
  exact ⟨a, l, hv, h1.move hk (fun _ _ h => h), h2.move hk hp⟩

theorem IsS.move {S S' : Nat → Prop} {w w' : World} (hk : ∀ g, S g → g < w.heap.size → S' g ∧ w'.heap[g]? = w.heap[g]?) :
    ∀ (f : Nat) (v : Value) (x : St), IsS f S w v x → IsS f S' w' v x
  | 0, _, _, h => h.elim
  | f + 1, v, x, ⟨ae, ab, al, ac, hv, h1, h2, h3, h4⟩ => ⟨ae, ab, al, ac, hv, h1.move hk (fun _ _ h => h.move hk), h2.move hk (IsS.move hk f), h3.move hk (IsS.move hk f), h4.move hk (fun _ _ h => h.move hk (IsS.move hk f))⟩

theorem IsS.up {S : Nat → Prop} {w : World} : ∀ (f : Nat) (v : Value) (x : St), IsS f S w v x → IsS (f + 1) S w v x
  | 0, _, _, h => h.elim
  | f + 1, v, x, ⟨ae, ab, al, ac, hv, h1, h2, h3, h4⟩ => ⟨ae, ab, al, ac, hv, h1, h2.move (fun g h _ => ⟨h, rfl⟩) (IsS.up f), h3.move (fun g h _ => ⟨h, rfl⟩) (IsS.up f), h4.move (fun g h _ => ⟨h, rfl⟩) (fun _ _ h => h.move (fun g h _ => ⟨h, rfl⟩) (IsS.up f))⟩

theorem IsS.le {S : Nat → Prop} {w : World} {f g : Nat} (h : f ≤ g) {v : Value} {x : St} (hx : IsS f S w v x) : IsS g S w v x := by
  induction h with
  | refl => exact hx
  | step _ ih => exact IsS.up _ _ _ ih

def AnS (S : Nat → Prop) (w : World) (v : Value) (x : St) : Prop := ∃ f, IsS f S w v x

theorem AnS.move {S S' : Nat → Prop} {w w' : World} {v : Value} {x : St} (h : AnS S w v x) (hk : ∀ g, S g → g < w.heap.size → S' g ∧ w'.heap[g]? = w.heap[g]?) : AnS S' w' v x := by
  obtain ⟨f, h⟩ := h
  exact ⟨f, IsS.move hk f v x h⟩

theorem fuel_allS {S : Nat → Prop} {w : World} : ∀ {vs : List Value} {xs : List St}, AllP (AnS S w) vs xs → ∃ f, AllP (IsS f S w) vs xs
  | [], [], _ => ⟨0, trivial⟩
  | v :: vs, x :: xs, ⟨⟨f, a⟩, b⟩ => by
    obtain ⟨g, b⟩ := fuel_allS b
    exact ⟨max f g, IsS.le (Nat.le_max_left _ _) a, b.imp fun _ _ h => IsS.le (Nat.le_max_right _ _) h⟩
  | [], _ :: _, x => x.elim
  | _ :: _, [], x => x.elim

theorem fuel_rowS {S : Nat → Prop} {w : World} {v : Value} {xs : List St} (h : Row S w (AnS S w) v xs) : ∃ f, Row S w (IsS f S w) v xs := by
  obtain ⟨vs, h1, h2⟩ := h
  obtain ⟨f, h2⟩ := fuel_allS h2
  exact ⟨f, vs, h1, h2⟩

/-- a case, of whatever depth -/
def AnC (S : Nat → Prop) (w : World) (v : Value) (c : List Int × List St) : Prop := IsC (AnS S w) S w v c

theorem fuel_allC {S : Nat → Prop} {w : World} : ∀ {vs : List Value} {xs : List (List Int × List St)}, AllP (AnC S w) vs xs → ∃ f, AllP (IsC (IsS f S w) S w) vs xs
  | [], [], _ => ⟨0, trivial⟩
  | v :: vs, x :: xs, ⟨⟨a, l, hv, h1, h2⟩, b⟩ => by
    obtain ⟨g, b⟩ := fuel_allC b
    obtain ⟨f, h2⟩ := fuel_rowS h2
    exact ⟨max f g, ⟨a, l, hv, h1, h2.move (fun g h _ => ⟨h, rfl⟩) fun _ _ h => IsS.le (Nat.le_max_left _ _) h⟩, b.imp fun _ _ h => h.move (fun g h _ => ⟨h, rfl⟩) fun _ _ h => IsS.le (Nat.le_max_right _ _) h⟩
  | [], _ :: _, x => x.elim
  | _ :: _, [], x => x.elim

theorem AnC.move {S S' : Nat → Prop} {w w' : World} {v : Value} {x : List Int × List St} (h : AnC S w v x) (hk : ∀ g, S g → g < w.heap.size → S' g ∧ w'.heap[g]? = w.heap[g]?) : AnC S' w' v x :=
  IsC.move h hk fun _ _ h => h.move hk

theorem AnS.mk {S : Nat → Prop} {w : World} {ae ab al ac : Value} (k : Int) (s t : List UInt8) (xe : List Ex) (xb xl : List St) (xc : List (List Int × List St)) (h1 : Row S w (AnE S w) ae xe) (h2 : Row S w (AnS S w) ab xb) (h3 : Row S w (AnS S w) al xl)
    (h4 : Row S w (AnC S w) ac xc) : AnS S w (.agg #[.int .i64 k, .string ⟨s.toArray⟩, .string ⟨t.toArray⟩, ae, ab, al, ac]) ⟨k, s, t, xe, xb, xl, xc⟩ := by
  obtain ⟨f, h2⟩ := fuel_rowS h2
  obtain ⟨g, h3⟩ := fuel_rowS h3
  obtain ⟨vs, h5, h6⟩ := h4
  obtain ⟨i, h6⟩ := fuel_allC h6
  refine ⟨max f (max g i) + 1, ae, ab, al, ac, rfl, h1, h2.move (fun g h _ => ⟨h, rfl⟩) fun _ _ h => IsS.le (Nat.le_max_left _ _) h, h3.move (fun g h _ => ⟨h, rfl⟩) fun _ _ h => IsS.le (by omega) h, vs, h5, h6.imp fun _ _ h => h.move (fun g h _ => ⟨h, rfl⟩) fun _ _ h => IsS.le (by omega) h⟩

theorem Row.nil {B : Type} (S : Nat → Prop) (w : World) (P : Value → B → Prop) : Row S w P (.slice none 0 0) [] := ⟨[], .inl ⟨rfl, rfl, rfl⟩, trivial⟩

theorem Row.slice {B : Type} {S : Nat → Prop} {w : World} {P : Value → B → Prop} {v : Value} {xs : List B} (h : Row S w P v xs) : ∃ a c, v = .slice a xs.length c := by
  obtain ⟨vs, h1, _⟩ := h
  rcases h1 with ⟨rfl, h, _⟩ | ⟨g, cap, _, _, _, rfl, _⟩
  · exact ⟨none, 0, by rw [h]⟩
  · exact ⟨_, _, rfl⟩

/-- what a statement's value looks like, whatever it is -/
def ShS (v : Value) : Prop := ∃ k s t a1 l1 c1 a2 l2 c2 a3 l3 c3 a4 l4 c4, v = .agg #[.int .i64 k, .string s, .string t, .slice a1 l1 c1, .slice a2 l2 c2, .slice a3 l3 c3, .slice a4 l4 c4]

theorem AnS.sh {S : Nat → Prop} {w : World} {v : Value} {x : St} (h : AnS S w v x) : ShS v := by
  obtain ⟨f, h⟩ := h
  cases f with
  | zero => exact h.elim
  | succ f =>
    obtain ⟨ae, ab, al, ac, rfl, h1, h2, h3, h4⟩ := h
    obtain ⟨a1, c1, rfl⟩ := h1.slice
    obtain ⟨a2, c2, rfl⟩ := h2.slice
    obtain ⟨a3, c3, rfl⟩ := h3.slice
    obtain ⟨a4, c4, rfl⟩ := h4.slice
    exact ⟨_, _, _, _, _, _, _, _, _, _, _, _, _, _, _, rfl⟩

def st0 (k : Int) (s t : List UInt8) : St := ⟨k, s, t, [], [], [], []⟩

/-- statements up to the bracket -/
def stmtsLoop (ps : List Tok) (M : Nat → R St) : Nat → List St → Nat → R (List St)
  | 0, _, _ => none
  | f + 1, acc, n => if isT (cur ps n) 5 [125] then okR acc (n + 1) else bindR (M n) fun x n1 => stmtsLoop ps M f (acc ++ [x]) n1

def blockM (ps : List Tok) (M : Nat → Nat → R St) (f d n : Nat) : R (List St) :=
  bindR (needM ps 5 [123] n) fun _ n1 => if 30 ≤ d then badR ((cur ps n1).at_, 8) else stmtsLoop ps (M (d + 1)) f [] n1

def headedM (E : Nat → Nat → R Ex) (B : Nat → Nat → R (List St)) (d : Nat) (s : St) (n : Nat) : R St :=
  bindR (E d n) fun x n1 => bindR (B d n1) fun l n2 => okR { s with exprs := [x], body := l } n2

def ifM (ps : List Tok) (E : Nat → Nat → R Ex) (B : Nat → Nat → R (List St)) : Nat → Nat → Nat → R St
  | 0, _, _ => none
  | f + 1, d, n => bindR (headedM E B d (st0 4 [] []) n) fun s n1 =>
    if isT (cur ps n1) 2 [101, 108, 115, 101] then
      (if isT (cur ps (n1 + 1)) 2 [105, 102] then
        (if 30 ≤ d then badR ((cur ps (n1 + 1 + 1)).at_, 8) else bindR (ifM ps E B f (d + 1) (n1 + 1 + 1)) fun s2 n2 => okR { s with els := [s2] } n2)
      else bindR (B d (n1 + 1)) fun l n2 => okR { s with els := l } n2)
    else okR s n1

def nameM (ps : List Tok) (n : Nat) : R (List UInt8) := if (cur ps n).kind == 1 then okR (cur ps n).s (n + 1) else badR (refuseM ps n)

def atRangeM (ps : List Tok) (n : Nat) : Bool := ((cur ps n).kind == 1 || (cur ps n).kind == 2) && isT (cur ps (n + 1)) 5 [44]

def rangeM (ps : List Tok) (E : Nat → Nat → R Ex) (B : Nat → Nat → R (List St)) (d n : Nat) : R St :=
  bindR (nameM ps n) fun s n1 => bindR (needM ps 5 [44] n1) fun _ n2 => bindR (nameM ps n2) fun t n3 => bindR (needM ps 5 [58, 61] n3) fun _ n4 => bindR (needM ps 2 [114, 97, 110, 103, 101] n4) fun _ n5 => headedM E B d (st0 6 s t) n5

def loopM (ps : List Tok) (E : Nat → Nat → R Ex) (B : Nat → Nat → R (List St)) (d n : Nat) : R St := if atRangeM ps n then rangeM ps E B d n else headedM E B d (st0 5 [] []) n

def numM (ps : List Tok) (n : Nat) : R Int :=
  if isT (cur ps n) 5 [45] then (if (cur ps (n + 1)).kind == 3 then okR (-(cur ps (n + 1)).n) (n + 1 + 1) else badR (refuseM ps (n + 1)))
  else (if (cur ps n).kind == 3 then okR (cur ps n).n (n + 1) else badR (refuseM ps n))

def numsLoop (ps : List Tok) : Nat → List Int → Nat → R (List Int)
  | 0, _, _ => none
  | f + 1, acc, n => bindR (numM ps n) fun k n1 => if isT (cur ps n1) 5 [44] then numsLoop ps f (acc ++ [k]) (n1 + 1) else okR (acc ++ [k]) n1

def caseBodyM (ps : List Tok) (B : Nat → Nat → R (List St)) (d n : Nat) : R (List St) := bindR (needM ps 5 [58] n) fun _ n1 => B d n1

def caseM (ps : List Tok) (B : Nat → Nat → R (List St)) (f d n : Nat) : R (List Int × List St) := bindR (numsLoop ps f [] n) fun ns n1 => bindR (caseBodyM ps B d n1) fun l n2 => okR (ns, l) n2

def casesLoop (ps : List Tok) (B : Nat → Nat → R (List St)) (f d : Nat) : Nat → List (List Int × List St) → Nat → R (List (List Int × List St))
  | 0, _, _ => none
  | g + 1, acc, n => if isT (cur ps n) 2 [99, 97, 115, 101] then bindR (caseM ps B f d (n + 1)) fun c n1 => casesLoop ps B f d g (acc ++ [c]) n1 else okR acc n

def switchM (ps : List Tok) (E : Nat → Nat → R Ex) (B : Nat → Nat → R (List St)) (f d n : Nat) : R St :=
  bindR (E d n) fun x n1 => bindR (needM ps 5 [123] n1) fun _ n2 => bindR (casesLoop ps B f d f [] n2) fun cs n3 =>
    if isT (cur ps n3) 2 [100, 101, 102, 97, 117, 108, 116] then bindR (caseBodyM ps B d (n3 + 1)) fun l n4 => bindR (needM ps 5 [125] n4) fun _ n5 => okR ⟨7, [], [], [x], [], l, cs⟩ n5
    else bindR (needM ps 5 [125] n3) fun _ n5 => okR ⟨7, [], [], [x], [], [], cs⟩ n5

def returnM (ps : List Tok) (E : Nat → Nat → R Ex) (d n : Nat) : R St := if isT (cur ps n) 5 [125] then okR (st0 8 [] []) n else bindR (E d n) fun x n1 => okR { st0 8 [] [] with exprs := [x] } n1

def printM (ps : List Tok) (E : Nat → Nat → R Ex) (f d n : Nat) : R St :=
  bindR (listM ps (E d) f n) fun l n1 => if (l.length : Int) != 1 then badR ((cur ps n).at_, 10) else okR { st0 9 [] [] with exprs := l } n1

def deleteM (ps : List Tok) (E : Nat → Nat → R Ex) (d n : Nat) : R St :=
  bindR (needM ps 5 [40] n) fun _ n1 => bindR (nameM ps n1) fun s n2 => bindR (needM ps 5 [44] n2) fun _ n3 => bindR (E d n3) fun x n4 => bindR (needM ps 5 [41] n4) fun _ n5 => okR { st0 12 s [] with exprs := [x] } n5

def assignedM (E : Nat → Nat → R Ex) (k : Int) (s : List UInt8) (d n : Nat) : R St := bindR (E d n) fun x n1 => okR { st0 k s [] with exprs := [x] } n1

def putM (ps : List Tok) (E : Nat → Nat → R Ex) (s : List UInt8) (d n : Nat) : R St :=
  bindR (E d n) fun x n1 => bindR (needM ps 5 [93] n1) fun _ n2 => bindR (needM ps 5 [61] n2) fun _ n3 => bindR (E d n3) fun y n4 => okR { st0 3 s [] with exprs := [x, y] } n4

/-- a statement that begins with a name, which has been read: p: that piece -/
def nameStM (ps : List Tok) (E : Nat → Nat → R Ex) (f d : Nat) (p : Tok) (n : Nat) : R St :=
  if isT (cur ps n) 5 [58, 61] then assignedM E 1 p.s d (n + 1)
  else if isT (cur ps n) 5 [61] then assignedM E 2 p.s d (n + 1)
  else if isT (cur ps n) 5 [91] then putM ps E p.s d (n + 1)
  else if isT (cur ps n) 5 [40] then bindR (callM ps E f d p.s n) fun x n1 => okR { st0 13 [] [] with exprs := [x] } n1
  else if (cur ps n).kind == 0 then badR (refuseM ps n)
  else badR (p.at_, 4)

def keywordStM (ps : List Tok) (E : Nat → Nat → R Ex) (B : Nat → Nat → R (List St)) (f d : Nat) (p : Tok) (n : Nat) : R St :=
  if p.s == [105, 102] then ifM ps E B f d n
  else if p.s == [102, 111, 114] then loopM ps E B d n
  else if p.s == [115, 119, 105, 116, 99, 104] then switchM ps E B f d n
  else if p.s == [114, 101, 116, 117, 114, 110] then returnM ps E d n
  else if p.s == [112, 114, 105, 110, 116] then printM ps E f d n
  else if p.s == [98, 114, 101, 97, 107] then okR (st0 10 [] []) n
  else if p.s == [99, 111, 110, 116, 105, 110, 117, 101] then okR (st0 11 [] []) n
  else if p.s == [100, 101, 108, 101, 116, 101] then deleteM ps E d n
  else badR (p.at_, 4)

def statementM (ps : List Tok) (E : Nat → Nat → R Ex) (B : Nat → Nat → R (List St)) (f d n : Nat) : R St :=
  if (cur ps n).kind == 1 then nameStM ps E f d (cur ps n) (n + 1)
  else if (cur ps n).kind == 2 then keywordStM ps E B f d (cur ps n) (n + 1)
  else badR (refuseM ps n)

/-- by the fuel: a block within blocks -/
def blockF (ps : List Tok) (E : Nat → Nat → R Ex) (f : Nat) : Nat → Nat → Nat → R (List St)
  | 0, _, _ => none
  | g + 1, d, n => blockM ps (fun d n => statementM ps E (blockF ps E f g) f d n) f d n

/-- what a call that reads a statement leaves -/
def PostS (b bp cap T : Nat) (ps : List Tok) (q : RS) (w : World) (r : Sum (Int × Int) (St × Nat)) (e : Ending) (w' : World) : Prop :=
  Kept b w w' ∧ match r with
  | .inl k => ∃ v n', ShS v ∧ e = .returned (.tuple #[v, .bool false]) ∧ Rdr w' b bp cap T ps ⟨n', q.depth, k.1, k.2⟩
  | .inr x => ∃ v, e = .returned (.tuple #[v, .bool true]) ∧ AnS (fun g => w.heap.size ≤ g) w' v x.1 ∧ Rdr w' b bp cap T ps { q with next := x.2 }

/-- .. and one that reads a block -/
def PostB (b bp cap T : Nat) (ps : List Tok) (q : RS) (w : World) (r : Sum (Int × Int) (List St × Nat)) (e : Ending) (w' : World) : Prop :=
  Kept b w w' ∧ match r with
  | .inl k => ∃ a l c n', e = .returned (.tuple #[.slice a l c, .bool false]) ∧ Rdr w' b bp cap T ps ⟨n', q.depth, k.1, k.2⟩
  | .inr x => ∃ a c, e = .returned (.tuple #[.slice a x.1.length c, .bool true]) ∧ Row (fun g => w.heap.size ≤ g) w' (AnS (fun g => w.heap.size ≤ g) w') (.slice a x.1.length c) x.1 ∧ Rdr w' b bp cap T ps { q with next := x.2 }

def SaidB (ps : List Tok) (B : Nat → Nat → R (List St)) : Prop :=
  ∀ (w : World) (b bp cap T : Nat) (q : RS) (r : Sum (Int × Int) (List St × Nat)), Rdr w b bp cap T ps q → B q.depth q.next = some r →
    Calls Tryd.prog 61 #[.pointer (some ⟨b, 0, none⟩)] w (PostB b bp cap T ps q w r)

def SaidSt (ps : List Tok) (M : Nat → Nat → R St) : Prop :=
  ∀ (w : World) (b bp cap T : Nat) (q : RS) (r : Sum (Int × Int) (St × Nat)), Rdr w b bp cap T ps q → M q.depth q.next = some r →
    Calls Tryd.prog 82 #[.pointer (some ⟨b, 0, none⟩)] w (PostS b bp cap T ps q w r)

/-! seven cells -/
theorem store7 {w : World} {x : Nat} {T : TypeId} {f : Nat × Nat} {c0 c1 c2 c3 c4 c5 c6 : Value} (h : w.heap[x]? = some (.cells #[c0, c1, c2, c3, c4, c5, c6] T f)) (v0 v1 v2 v3 v4 v5 v6 : Value) :
    (((((((w.setCell ⟨x, 0, none⟩ v0).setCell ⟨x, 1, none⟩ v1).setCell ⟨x, 2, none⟩ v2).setCell ⟨x, 3, none⟩ v3).setCell ⟨x, 4, none⟩ v4).setCell ⟨x, 5, none⟩ v5).setCell ⟨x, 6, none⟩ v6).heap[x]? = some (.cells #[v0, v1, v2, v3, v4, v5, v6] T f) := by
  rw [heap_setCell_same (heap_setCell_same (heap_setCell_same (heap_setCell_same (heap_setCell_same (heap_setCell_same (heap_setCell_same h _) _) _) _) _) _)]
  simp

theorem kept7 (x : Nat) (w : World) (v0 v1 v2 v3 v4 v5 v6 : Value) : Kept x w (((((((w.setCell ⟨x, 0, none⟩ v0).setCell ⟨x, 1, none⟩ v1).setCell ⟨x, 2, none⟩ v2).setCell ⟨x, 3, none⟩ v3).setCell ⟨x, 4, none⟩ v4).setCell ⟨x, 5, none⟩ v5).setCell ⟨x, 6, none⟩ v6) :=
  (((((((Kept.refl _ _).setCell _ _).setCell _ _).setCell _ _).setCell _ _).setCell _ _).setCell _ _).setCell _ _

theorem size_store7 (w : World) (x : Nat) (v0 v1 v2 v3 v4 v5 v6 : Value) : (((((((w.setCell ⟨x, 0, none⟩ v0).setCell ⟨x, 1, none⟩ v1).setCell ⟨x, 2, none⟩ v2).setCell ⟨x, 3, none⟩ v3).setCell ⟨x, 4, none⟩ v4).setCell ⟨x, 5, none⟩ v5).setCell ⟨x, 6, none⟩ v6).heap.size = w.heap.size := by
  simp [World.setCell]

theorem cells7 {w : World} {x : Nat} {T : TypeId} {f : Nat × Nat} {c0 c1 c2 c3 c4 c5 c6 : Value} (h : w.heap[x]? = some (.cells #[c0, c1, c2, c3, c4, c5, c6] T f)) :
    w.cell? ⟨x, 0, none⟩ = some c0 ∧ w.cell? ⟨x, 1, none⟩ = some c1 ∧ w.cell? ⟨x, 2, none⟩ = some c2 ∧ w.cell? ⟨x, 3, none⟩ = some c3 ∧ w.cell? ⟨x, 4, none⟩ = some c4 ∧ w.cell? ⟨x, 5, none⟩ = some c5 ∧ w.cell? ⟨x, 6, none⟩ = some c6 := by
  simp [World.cell?, h]

theorem res_stmt {fn : Func} {tmps : Array Value} {w : World} {rt st x : Nat} {v0 v1 v2 v3 v4 v5 v6 : Value} {ok : Bool} {T : TypeId} {f : Nat × Nat}
    (hres : fn.results = #[.cell rt 39, .tmp st]) (hp : tmps.getD rt undef = .pointer (some ⟨x, 0, none⟩)) (ho : tmps.getD st undef = .bool ok)
    (hblk : w.heap[x]? = some (.cells #[v0, v1, v2, v3, v4, v5, v6] T f)) : (results fn tmps).run Tryd.prog w = .ok (.tuple #[.agg #[v0, v1, v2, v3, v4, v5, v6], .bool ok]) w := by
  obtain ⟨q0, q1, q2, q3, q4, q5, q6⟩ := cells7 hblk
  simp only [Array.getD_eq_getD_getElem?] at hp ho
  simp [results, hres, hp, ho, go_sem, q0, q1, q2, q3, q4, q5, q6]

theorem fin_stmt {fn : Func} {Q : Ending → World → Prop} {a : Act} {w : World} {rt st x : Nat} {v0 v1 v2 v3 v4 v5 v6 : Value} {ok : Bool} {T : TypeId} {f : Nat × Nat}
    (hres : fn.results = #[.cell rt 39, .tmp st]) (hp : a.tmps.getD rt undef = .pointer (some ⟨x, 0, none⟩)) (ho : a.tmps.getD st undef = .bool ok) (hd : a.defers = [])
    (hblk : w.heap[x]? = some (.cells #[v0, v1, v2, v3, v4, v5, v6] T f)) (hQ : Q (.returned (.tuple #[.agg #[v0, v1, v2, v3, v4, v5, v6], .bool ok])) w) : bodyPost Tryd.prog fn Q Exit.ret a w :=
  bodyPost_ret (res_stmt hres hp ho hblk) hd hQ

theorem postS_bad {b bp cap T : Nat} {ps : List Tok} {q : RS} {w w2 W : World} {k : Int × Int} {n' x : Nat} {v0 : Int} {v1 v2 : ByteArray} {a3 a4 a5 a6 : Option Addr} {l3 c3 l4 c4 l5 c5 l6 c6 : Nat} (h : Rdr w b bp cap T ps q)
    (kw : Kept b w w2) (kx : Kept x w2 W) (hx : w.heap.size ≤ x) (hR : Rdr w2 b bp cap T ps ⟨n', q.depth, k.1, k.2⟩) :
    PostS b bp cap T ps q w (.inl k) (.returned (.tuple #[.agg #[.int .i64 v0, .string v1, .string v2, .slice a3 l3 c3, .slice a4 l4 c4, .slice a5 l5 c5, .slice a6 l6 c6], .bool false])) W := by
  have h1 := h.bsize; have h2 := h.lt; have h3 := h.far
  exact ⟨kw.own kx hx, _, n', ⟨_, _, _, _, _, _, _, _, _, _, _, _, _, _, _, rfl⟩, rfl, hR.own kx (by omega) (by omega) (by omega)⟩

theorem AnS.own {S S' : Nat → Prop} {w w' : World} {x : Nat} {v : Value} {t : St} (h : AnS S w v t) (k : Kept x w w') (hs : ∀ g, S g → g ≠ x ∧ S' g) : AnS S' w' v t :=
  h.move fun g hS hg => ⟨(hs g hS).2, k.block g hg (hs g hS).1⟩

theorem postS_ok {b bp cap T : Nat} {ps : List Tok} {q : RS} {w w2 W : World} {t : St} {n' x : Nat} {v : Value} (h : Rdr w b bp cap T ps q)
    (kw : Kept b w w2) (kx : Kept x w2 W) (hx : w.heap.size ≤ x) (hR : Rdr w2 b bp cap T ps { q with next := n' }) (hA : AnS (fun g => w.heap.size ≤ g ∧ g ≠ x) w2 v t) :
    PostS b bp cap T ps q w (.inr (t, n')) (.returned (.tuple #[v, .bool true])) W := by
  have h1 := h.bsize; have h2 := h.lt; have h3 := h.far
  exact ⟨kw.own kx hx, v, rfl, hA.own kx fun g hg => ⟨hg.2, hg.1⟩, hR.own kx (by omega) (by omega) (by omega)⟩

theorem postS_okW {b bp cap T : Nat} {ps : List Tok} {q : RS} {w w2 W : World} {t : St} {n' x : Nat} {v : Value} (h : Rdr w b bp cap T ps q)
    (kw : Kept b w w2) (kx : Kept x w2 W) (hx : w.heap.size ≤ x) (hR : Rdr w2 b bp cap T ps { q with next := n' }) (hA : AnS (fun g => w.heap.size ≤ g) W v t) :
    PostS b bp cap T ps q w (.inr (t, n')) (.returned (.tuple #[v, .bool true])) W := by
  have h1 := h.bsize; have h2 := h.lt; have h3 := h.far
  exact ⟨kw.own kx hx, v, rfl, hA, hR.own kx (by omega) (by omega) (by omega)⟩

end Go.Proofs.YtgifghcaeoinoaaDoor
