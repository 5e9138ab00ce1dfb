/-
  Package read, plain: expressions and statements as trees, and how they lie in memory. Nothing here names the program.
-/
import Derived.Test.YtgifghcaeoinoaaDoorRdS
import Derived.Deep.AppendLies
namespace Go.Proofs.YtgifghcaeoinoaaDoor
open Go.RowKit
set_option linter.unusedSimpArgs false
set_option linter.unusedVariables false

structure Ex where
  kind : Int
  n : Int
  s : List UInt8
  args : List Ex

structure St where
  kind : Int
  s : List UInt8
  t : List UInt8
  exprs : List Ex
  body : List St
  els : List St
  cases : List (List Int × List St)

structure Fn' where
  name : List UInt8
  params : List (List UInt8 × Int)
  result : Int
  body : List St

/-- two lists, element by element -/
def AllP {A B : Type} (P : A → B → Prop) : List A → List B → Prop
  | [], [] => True
  | a :: as, b :: bs => P a b ∧ AllP P as bs
  | _, _ => False

theorem AllP.imp {A B : Type} {P Q : A → B → Prop} (h : ∀ a b, P a b → Q a b) : ∀ {as : List A} {bs : List B}, AllP P as bs → AllP Q as bs
  | [], [], _ => trivial
  | a :: as, b :: bs, ⟨x, y⟩ => ⟨h _ _ x, AllP.imp h y⟩
  | [], _ :: _, x => x.elim
  | _ :: _, [], x => x.elim

theorem AllP.snoc {A B : Type} {P : A → B → Prop} {a : A} {b : B} (h : P a b) : ∀ {as : List A} {bs : List B}, AllP P as bs → AllP P (as ++ [a]) (bs ++ [b])
  | [], [], _ => ⟨h, trivial⟩
  | _ :: _, _ :: _, ⟨x, y⟩ => ⟨x, AllP.snoc h y⟩
  | [], _ :: _, x => x.elim
  | _ :: _, [], x => x.elim

theorem AllP.length {A B : Type} {P : A → B → Prop} : ∀ {as : List A} {bs : List B}, AllP P as bs → as.length = bs.length
  | [], [], _ => rfl
  | _ :: _, _ :: _, ⟨_, y⟩ => by simp [AllP.length y]
  | [], _ :: _, x => x.elim
  | _ :: _, [], x => x.elim

/-- the cells of a list of values, one behind the other -/
def flat (vs : List Value) : List Value := vs.flatMap (fun v => v.cells.toList)

theorem flat_append (a b : List Value) : flat (a ++ b) = flat a ++ flat b := by simp [flat]

/-- a slice value that has so many elements, whose cells are these, in a block of the set S -/
def RowIs (S : Nat → Prop) (w : World) (v : Value) (n : Nat) (cells : List Value) : Prop :=
  (v = .slice none 0 0 ∧ n = 0 ∧ cells = []) ∨ ∃ g cap cur T fz, v = .slice (some ⟨g, 0, none⟩) n cap ∧ S g ∧ w.heap[g]? = some (.cells cur T fz) ∧ cur.toList.take cells.length = cells

theorem RowIs.move {S S' : Nat → Prop} {w w' : World} {v : Value} {n : Nat} {cells : List Value} (h : RowIs S w v n cells)
    (hk : ∀ g, S g → g < w.heap.size → S' g ∧ w'.heap[g]? = w.heap[g]?) : RowIs S' w' v n cells := by
  rcases h with h | ⟨g, cap, cur, T, fz, hv, hS, hg, ht⟩
  · exact .inl h
  · have hlt : g < w.heap.size := by
      rcases Nat.lt_or_ge g w.heap.size with hb | hb
      · exact hb
      · rw [Array.getElem?_eq_none hb] at hg; cases hg
    obtain ⟨h1, h2⟩ := hk g hS hlt
    exact .inr ⟨g, cap, cur, T, fz, hv, h1, by rw [h2]; exact hg, ht⟩

/-- a slice whose elements are as told, one by one -/
def Row {B : Type} (S : Nat → Prop) (w : World) (P : Value → B → Prop) (v : Value) (xs : List B) : Prop :=
  ∃ vs, RowIs S w v xs.length (flat vs) ∧ AllP P vs xs

theorem Row.move {B : Type} {S S' : Nat → Prop} {w w' : World} {P Q : Value → B → Prop} {v : Value} {xs : List B} (h : Row S w P v xs)
    (hk : ∀ g, S g → g < w.heap.size → S' g ∧ w'.heap[g]? = w.heap[g]?) (hp : ∀ u x, P u x → Q u x) : Row S' w' Q v xs := by
  obtain ⟨vs, h1, h2⟩ := h
  exact ⟨vs, h1.move hk, h2.imp hp⟩

def IsE : Nat → (Nat → Prop) → World → Value → Ex → Prop
  | 0, _, _, _, _ => False
  | f + 1, S, w, v, x => ∃ a, v = .agg #[.int .i64 x.kind, .int .i64 x.n, .string ⟨x.s.toArray⟩, a] ∧ Row S w (IsE f S w) a x.args

theorem IsE.move {S S' : Nat → Prop} {w w' : World} (hk : ∀ g, S g → g < w.heap.size → S' g ∧ w'.heap[g]? = w.heap[g]?) :
    ∀ (f : Nat) (v : Value) (x : Ex), IsE f S w v x → IsE f S' w' v x
  | 0, _, _, h => h.elim
  | f + 1, v, x, ⟨a, hv, hr⟩ => ⟨a, hv, hr.move hk (IsE.move hk f)⟩

theorem IsE.up {S : Nat → Prop} {w : World} : ∀ (f : Nat) (v : Value) (x : Ex), IsE f S w v x → IsE (f + 1) S w v x
  | 0, _, _, h => h.elim
  | f + 1, v, x, ⟨a, hv, hr⟩ => ⟨a, hv, hr.move (fun g h _ => ⟨h, rfl⟩) (IsE.up f)⟩

theorem IsE.le {S : Nat → Prop} {w : World} {f g : Nat} (h : f ≤ g) {v : Value} {x : Ex} (hx : IsE f S w v x) : IsE g S w v x := by
  induction h with
  | refl => exact hx
  | step _ ih => exact IsE.up _ _ _ ih

/-- an expression lies in memory, in blocks of S -/
def AnE (S : Nat → Prop) (w : World) (v : Value) (x : Ex) : Prop := ∃ f, IsE f S w v x

theorem AnE.move {S S' : Nat → Prop} {w w' : World} {v : Value} {x : Ex} (h : AnE S w v x) (hk : ∀ g, S g → g < w.heap.size → S' g ∧ w'.heap[g]? = w.heap[g]?) : AnE S' w' v x := by
  obtain ⟨f, h⟩ := h
  exact ⟨f, IsE.move hk f v x h⟩

/-- many expressions: one fuel for all -/
theorem fuel_all {S : Nat → Prop} {w : World} : ∀ {vs : List Value} {xs : List Ex}, AllP (AnE S w) vs xs → ∃ f, AllP (IsE f S w) vs xs
  | [], [], _ => ⟨0, trivial⟩
  | v :: vs, x :: xs, ⟨⟨f, a⟩, b⟩ => by
    obtain ⟨g, b⟩ := fuel_all b
    refine ⟨max f g, IsE.le (Nat.le_max_left _ _) a, b.imp fun _ _ h => IsE.le (Nat.le_max_right _ _) h⟩
  | [], _ :: _, x => x.elim
  | _ :: _, [], x => x.elim

theorem AnE.mk {S : Nat → Prop} {w : World} {a : Value} (k n : Int) (s : List UInt8) (xs : List Ex) (h : Row S w (AnE S w) a xs) :
    AnE S w (.agg #[.int .i64 k, .int .i64 n, .string ⟨s.toArray⟩, a]) ⟨k, n, s, xs⟩ := by
  obtain ⟨vs, h1, h2⟩ := h
  obtain ⟨f, h2⟩ := fuel_all h2
  exact ⟨f + 1, a, rfl, vs, h1, h2⟩

/-- what an expression's value looks like, whatever it is -/
def ShE (v : Value) : Prop := ∃ k n s a l c, v = .agg #[.int .i64 k, .int .i64 n, .string s, .slice a l c]

theorem AnE.sh {S : Nat → Prop} {w : World} {v : Value} {x : Ex} (h : AnE S w v x) : ShE v := by
  obtain ⟨f, h⟩ := h
  cases f with
  | zero => exact h.elim
  | succ f =>
    obtain ⟨a, rfl, vs, h1, _⟩ := h
    rcases h1 with ⟨rfl, _⟩ | ⟨g, cap, _, _, _, rfl, _⟩
    · exact ⟨_, _, _, _, _, _, rfl⟩
    · exact ⟨_, _, _, _, _, _, rfl⟩

end Go.Proofs.YtgifghcaeoinoaaDoor
