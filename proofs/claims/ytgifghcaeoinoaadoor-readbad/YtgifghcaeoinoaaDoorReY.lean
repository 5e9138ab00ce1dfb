/-
  The tables, as the program's text lays them, in a world that meets the row's condition.
-/
import Derived.Test.YtgifghcaeoinoaaDoorRows
import Derived.Test.YtgifghcaeoinoaaDoorReS
import Derived.ProofKit
import Derived.LaidMore
import Derived.OpenShut
import Derived.Stop.Joined
namespace Go.Proofs.YtgifghcaeoinoaaDoor
open Go.ChangeShapes Go.WideShapes Go.ChangeAt Go.WideElems Go.RowKit
set_option linter.unusedSimpArgs false
set_option linter.unusedVariables false

def litS {H : Type} (l : List (List UInt8)) : DataW H := .agg (l.map fun s => .lit (.string s))

theorem arr_strings {H : Type} {enc : TypeId × Value → H} {W : World} {base fuel n : Nat} {spare : Nat → Bool} {held : Bool} {t : TypeId} {cs : List Value} {p : List MemPlace} (ht : Tryd.prog.underlying t = some (.array n 9)) (L : List (List UInt8))
    (h : DataW.trod enc Tryd.prog W base spare held fuel t cs = some (litS L, p)) : ∀ i, i < L.length → cs[i]? = some (.string ⟨(L.getD i []).toArray⟩) := by
  have c9 : Tryd.prog.cellsOf 9 = 1 := by kernel_rfl
  obtain ⟨xs, m, rfl, hx, hlen, hn, hel⟩ := DataW.trod_array ht h
  simp only [litS, Prod.mk.injEq, DataW.agg.injEq] at hx
  have hxl : xs.length = L.length := by
    have := congrArg List.length hx.1
    simpa using this.symm
  intro i hi
  have h1 := hel i (by omega)
  have hix : i < xs.length := by omega
  rw [List.getElem?_eq_getElem hix] at h1
  obtain ⟨s, e1, e2, _⟩ := DataW.trod_string Tryd.underlying9 h1
  have e3 : xs[i].1 = .lit (.string (L.getD i [])) := by
    have h2 : (xs.map (·.1))[i]? = (L.map fun s => DataW.lit (H := H) (.string s))[i]? := by rw [hx.1]
    rw [List.getElem?_map, List.getElem?_map, List.getElem?_eq_getElem hix, List.getElem?_eq_getElem hi] at h2
    simp at h2
    rw [h2, List.getD_eq_getElem?_getD, List.getElem?_eq_getElem hi]
    rfl
  rw [e2] at e3
  have e5 := Lit.string.inj (DataW.lit.inj e3)
  rw [c9] at e1
  have e4 : cs[i]? = some (.string s) := by
    have h3 : ((cs.drop (i * 1)).take 1)[0]? = some (.string s) := by rw [e1]; rfl
    rw [List.getElem?_take_of_lt (by omega), List.getElem?_drop] at h3
    simpa using h3
  rw [e4, ← e5, Lib.mk_data]

theorem arr_levels {H : Type} {enc : TypeId × Value → H} {W : World} {base fuel : Nat} {spare : Nat → Bool} {held : Bool} {cs : List Value} {p : List MemPlace} (LL : List (List (List UInt8))) (hLL : ∀ l ∈ LL, l.length = 6)
    (h : DataW.trod enc Tryd.prog W base spare held fuel 155 cs = some (.agg (LL.map litS), p)) : ∀ i j, i < LL.length → j < 6 → cs[i * 6 + j]? = some (.string ⟨((LL.getD i []).getD j []).toArray⟩) := by
  have c6 : Tryd.prog.cellsOf 120 = 6 := by kernel_rfl
  obtain ⟨xs, m, rfl, hx, hlen, hn, hel⟩ := DataW.trod_array Tryd.underlying155 h
  simp only [Prod.mk.injEq, DataW.agg.injEq] at hx
  have hxl : xs.length = LL.length := by
    have := congrArg List.length hx.1
    simpa using this.symm
  intro i j hi hj
  have h1 := hel i (by omega)
  have hix : i < xs.length := by omega
  rw [List.getElem?_eq_getElem hix, c6] at h1
  have e3 : xs[i] = (litS (LL.getD i []), xs[i].2) := by
    have h2 : (xs.map (·.1))[i]? = (LL.map (litS (H := H)))[i]? := by rw [hx.1]
    rw [List.getElem?_map, List.getElem?_map, List.getElem?_eq_getElem hix, List.getElem?_eq_getElem hi] at h2
    simp at h2
    rw [List.getD_eq_getElem?_getD, List.getElem?_eq_getElem hi]
    exact Prod.ext h2 rfl
  rw [e3] at h1
  have hl6 : (LL.getD i []).length = 6 := by
    rw [List.getD_eq_getElem?_getD, List.getElem?_eq_getElem hi]
    exact hLL _ (List.getElem_mem hi)
  have h4 := arr_strings Tryd.underlying120 _ h1 j (by omega)
  rw [List.getElem?_take_of_lt hj, List.getElem?_drop] at h4
  exact h4

end Go.Proofs.YtgifghcaeoinoaaDoor
