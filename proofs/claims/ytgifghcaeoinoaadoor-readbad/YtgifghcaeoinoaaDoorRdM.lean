/-
  Package read, plain: what reading an expression answers, as a function of the pieces. Nothing here names the program.
-/
import Derived.Test.YtgifghcaeoinoaaDoorRdD
namespace Go.Proofs.YtgifghcaeoinoaaDoor
open Go.RowKit
set_option linter.unusedSimpArgs false
set_option linter.unusedVariables false

/-- an answer: none: the fuel is spent; else what is wrong (the place, the error), or what was read, and the place of the next piece -/
abbrev R (A : Type) := Option (Sum (Int × Int) (A × Nat))

def okR {A : Type} (a : A) (n : Nat) : R A := some (.inr (a, n))
def badR {A : Type} (k : Int × Int) : R A := some (.inl k)

def bindR {A B : Type} (x : R A) (f : A → Nat → R B) : R B := match x with
  | none => none
  | some (.inl k) => some (.inl k)
  | some (.inr (a, n)) => f a n

def needM (ps : List Tok) (k : Int) (s : List UInt8) (n : Nat) : R Unit := if isT (cur ps n) k s then okR () (n + 1) else badR (refuseM ps n)

/-- items with commas between -/
def listLoop {A : Type} (ps : List Tok) (item : Nat → R A) : Nat → List A → Nat → R (List A)
  | 0, _, _ => none
  | f + 1, acc, n => bindR (item n) fun x n1 => if isT (cur ps n1) 5 [41] then okR (acc ++ [x]) (n1 + 1) else bindR (needM ps 5 [44] n1) fun _ n2 => listLoop ps item f (acc ++ [x]) n2

def listM {A : Type} (ps : List Tok) (item : Nat → R A) (f n : Nat) : R (List A) :=
  bindR (needM ps 5 [40] n) fun _ n1 => if isT (cur ps n1) 5 [41] then okR [] (n1 + 1) else listLoop ps item f [] n1

/-- words that look like calls: the kind, and how many arguments (-1: any) -/
def callLike (s : List UInt8) : Option (Int × Int) :=
  if s == [108, 101, 110] then some (8, 1) else if s == [97, 112, 112, 101, 110, 100] then some (10, 2) else if s == [115, 108, 105, 99, 101] then some (11, -1) else if s == [109, 97, 112] then some (12, 0) else none

def countBad (c : Int) (l : Nat) : Bool := c != -1 && (l : Int) != c

def keywordPartM (ps : List Tok) (E : Nat → Nat → R Ex) (f d n : Nat) : R Ex :=
  if (cur ps n).s == [116, 114, 117, 101] then okR ⟨3, 1, [], []⟩ (n + 1)
  else if (cur ps n).s == [102, 97, 108, 115, 101] then okR ⟨3, 0, [], []⟩ (n + 1)
  else match callLike (cur ps n).s with
    | none => badR (refuseM ps n)
    | some (k, c) => bindR (listM ps (E d) f (n + 1)) fun l n' => if countBad c l.length then badR ((cur ps n).at_, 10) else okR ⟨k, 0, [], l⟩ n'

def namedM (ps : List Tok) (E : Nat → Nat → R Ex) (f d : Nat) (s : List UInt8) (n : Nat) : R Ex :=
  if isT (cur ps n) 5 [40] then bindR (listM ps (E d) f n) fun l n' => okR ⟨7, 0, s, l⟩ n' else okR ⟨4, 0, s, []⟩ n

def bracketedM (ps : List Tok) (E : Nat → Nat → R Ex) (d n : Nat) : R Ex :=
  bindR (needM ps 5 [40] n) fun _ n1 => bindR (E d n1) fun x n2 => bindR (needM ps 5 [41] n2) fun _ n3 => okR x n3

def firstM (ps : List Tok) (E : Nat → Nat → R Ex) (f d n : Nat) : R Ex :=
  if (cur ps n).kind == 3 then okR ⟨1, (cur ps n).n, [], []⟩ (n + 1)
  else if (cur ps n).kind == 4 then okR ⟨2, 0, (cur ps n).s, []⟩ (n + 1)
  else if (cur ps n).kind == 1 then namedM ps E f d (cur ps n).s (n + 1)
  else if (cur ps n).kind == 2 then keywordPartM ps E f d n
  else bracketedM ps E d n

def idxLoop (ps : List Tok) (E : Nat → Nat → R Ex) (d : Nat) : Nat → Ex → Nat → R Ex
  | 0, _, _ => none
  | f + 1, x, n => if isT (cur ps n) 5 [91] then bindR (E d (n + 1)) fun y n1 => bindR (needM ps 5 [93] n1) fun _ n2 => idxLoop ps E d f ⟨9, 0, [], [x, y]⟩ n2 else okR x n

def singleM (ps : List Tok) (E : Nat → Nat → R Ex) : Nat → Nat → Nat → R Ex
  | 0, _, _ => none
  | f + 1, d, n =>
    if isT (cur ps n) 5 [45] || isT (cur ps n) 5 [33] then
      (if 30 ≤ d then badR ((cur ps (n + 1)).at_, 8) else bindR (singleM ps E f (d + 1) (n + 1)) fun x n' => okR ⟨6, 0, (cur ps n).s, [x]⟩ n')
    else bindR (firstM ps E f d n) fun x n' => idxLoop ps E d f x n'

def opLoop (ps : List Tok) (lv : Nat) (sub : Nat → R Ex) : Nat → Ex → Nat → R Ex
  | 0, _, _ => none
  | f + 1, x, n => if isOpM (cur ps n) lv then bindR (sub (n + 1)) fun y n1 => opLoop ps lv sub f ⟨5, 0, (cur ps n).s, [x, y]⟩ n1 else okR x n

/-- k: so many levels bind closer (the level is 5 - k) -/
def opM (ps : List Tok) (E : Nat → Nat → R Ex) (f : Nat) : Nat → Nat → Nat → R Ex
  | 0, d, n => singleM ps E f d n
  | k + 1, d, n => bindR (opM ps E f k d n) fun x n1 => opLoop ps (4 - k) (fun m => opM ps E f k d m) f x n1

def exprM (ps : List Tok) : Nat → Nat → Nat → R Ex
  | 0, _, _ => none
  | f + 1, d, n => if 30 ≤ d then badR ((cur ps n).at_, 8) else opM ps (exprM ps f) f 5 (d + 1) n

/-- what a call that reads one expression leaves -/
def PostE (b bp cap T : Nat) (ps : List Tok) (q : RS) (w : World) (r : Sum (Int × Int) (Ex × Nat)) (e : Ending) (w' : World) : Prop :=
  Kept b w w' ∧ match r with
  | .inl k => ∃ v n', ShE v ∧ e = .returned (.tuple #[v, .bool false]) ∧ Rdr w' b bp cap T ps ⟨n', q.depth, k.1, k.2⟩
  | .inr x => ∃ v, e = .returned (.tuple #[v, .bool true]) ∧ AnE (fun g => w.heap.size ≤ g) w' v x.1 ∧ Rdr w' b bp cap T ps { q with next := x.2 }

/-- the contract of expression, at whatever model -/
def SaidE (ps : List Tok) (E : Nat → Nat → R Ex) : Prop :=
  ∀ (w : World) (b bp cap T : Nat) (q : RS) (r : Sum (Int × Int) (Ex × Nat)), Rdr w b bp cap T ps q → E q.depth q.next = some r →
    Calls Tryd.prog 110 #[.pointer (some ⟨b, 0, none⟩)] w (PostE b bp cap T ps q w r)

theorem bindR_some {A B : Type} {x : R A} {f : A → Nat → R B} {r : Sum (Int × Int) (B × Nat)} (h : bindR x f = some r) :
    (∃ k, x = some (.inl k) ∧ r = .inl k) ∨ (∃ a n, x = some (.inr (a, n)) ∧ f a n = some r) := by
  unfold bindR at h
  split at h
  · cases h
  · exact .inl ⟨_, rfl, by cases h; rfl⟩
  · exact .inr ⟨_, _, rfl, h⟩

theorem needM_some {ps : List Tok} {k : Int} {s : List UInt8} {n : Nat} {r : Sum (Int × Int) (Unit × Nat)} (h : needM ps k s n = some r) :
    (isT (cur ps n) k s = true ∧ r = .inr ((), n + 1)) ∨ (isT (cur ps n) k s = false ∧ r = .inl (refuseM ps n)) := by
  unfold needM at h
  split at h
  · rename_i hT; exact .inl ⟨hT, by cases h; rfl⟩
  · rename_i hT; exact .inr ⟨by simpa using hT, by cases h; rfl⟩

end Go.Proofs.YtgifghcaeoinoaaDoor
