/-
  Whatever reads as code lies in memory so.
-/
import Derived.Test.YtjdedfgdofceeaaIaA
import Derived.ChangeArms
import Derived.Deep.Matrix
namespace Go.Proofs.Ytjdedfgdofceeaa
open Go.RowKit
set_option linter.unusedSimpArgs false
set_option linter.unusedVariables false

variable {H : Type} {enc : TypeId × Value → H} {W : World} {base : Nat} {spare : Nat → Bool} {held : Bool}

theorem get_some {A : Type} {xs : List A} {n i : Nat} (h : xs.length = n) (hi : i < n) : ∃ x, xs[i]? = some x := ⟨xs[i]'(by omega), List.getElem?_eq_getElem (by omega)⟩

theorem plain_addr {a : Addr} {n m : Nat} {cs : List Value} (h : W.cells? base (a.add (0 * n)) m = some cs) (hm : 0 < m) : ∃ g o, a = ⟨g, o, none⟩ := by
  obtain ⟨_, hl, hc⟩ := World.cells?_some h
  have h0 := hc 0 hm
  rw [List.getElem?_eq_getElem (by omega)] at h0
  obtain ⟨g, o, spot⟩ := a
  have hspot : spot = none := by simpa [Addr.add] using World.cell?_spot h0
  subst hspot
  exact ⟨g, o, rfl⟩

theorem elem_cells {a : Addr} {n m i : Nat} {e : TypeId} {elems : List (DataW H × List MemPlace)} {len : Nat} (hlen : elems.length = len) (hi : i < len)
    (hel : ∀ i, i < len → (W.cells? base (a.add (i * m)) m).bind (DataW.trod enc Try.prog W base spare held n e) = elems[i]?) (hm : 0 < m) :
    ∃ g o cs y, a = (⟨g, o, none⟩ : Addr) ∧ DataW.trod enc Try.prog W base spare held n e cs = some y ∧ cs.length = m ∧ ∀ j, j < m → W.cell? ⟨g, o + i * m + j, none⟩ = cs[j]? := by
  obtain ⟨y0, hy0⟩ := get_some (i := 0) hlen (by omega)
  have h0 := hel 0 (by omega)
  rw [hy0] at h0
  obtain ⟨cs0, hc0, _⟩ := Option.bind_eq_some_iff.1 h0
  obtain ⟨g, o, rfl⟩ := plain_addr hc0 hm
  obtain ⟨y, hy⟩ := get_some (i := i) hlen hi
  have h1 := hel i hi
  rw [hy] at h1
  obtain ⟨cs, hc, ht⟩ := Option.bind_eq_some_iff.1 h1
  obtain ⟨_, hcl, hcell⟩ := World.cells?_some hc
  exact ⟨g, o, cs, y, rfl, ht, hcl, fun j hj => by rw [← hcell j hj, Go.WideShapes.add_plain, Go.WideShapes.add_plain]⟩

theorem lies_of_trod {A : Type} [Inhabited A] {t e : TypeId} {m fuel : Nat} {cs : List Value} {x : DataW H × List MemPlace} {P : List Value → A → Prop} (ht : Try.prog.underlying t = some (.slice e)) (hc : Try.prog.cellsOf e = m) (hm : 0 < m)
    (hP : ∀ n cs y, n < fuel → DataW.trod enc Try.prog W base spare held n e cs = some y → ∃ x, P cs x) (h : DataW.trod enc Try.prog W base spare held fuel t cs = some x) : ∃ v xs, cs = [v] ∧ Lies m W.heap.size W P v xs := by
  rcases DataW.trod_slice ht h with ⟨rfl, _⟩ | ⟨a, len, cap, elems, rest, n, rfl, rfl, _, hb, hl, hmx, hlen, hel, _⟩
  · exact ⟨_, [], rfl, Nat.zero_le _, none, 0, rfl, fun h => by simp at h⟩
  · rw [hc] at hel
    cases len with
    | zero => exact ⟨_, [], rfl, Nat.zero_le _, some a, cap, rfl, fun h => by simp at h⟩
    | succ len =>
      obtain ⟨F, hF⟩ := Go.Deep.choose_lt (α := A) (n := len + 1) (p := fun i x => ∃ g o cs, a = (⟨g, o, none⟩ : Addr) ∧ cs.length = m ∧ P cs x ∧ ∀ j, j < m → W.cell? ⟨g, o + i * m + j, none⟩ = cs[j]?) (by
        intro i hi
        obtain ⟨g, o, cs, y, rfl, ht', hcl, hcell⟩ := elem_cells (i := i) hlen hi hel hm
        obtain ⟨x, hx⟩ := hP n cs y (by omega) ht'
        exact ⟨x, g, o, cs, rfl, hcl, hx, hcell⟩)
      obtain ⟨g, o, cs0, rfl, hl0, _, hc0⟩ := hF 0 (by omega)
      have hg : g < W.heap.size := by
        have h1 := hc0 0 hm
        rw [List.getElem?_eq_getElem (by omega)] at h1
        exact World.block_lt_of_cell? W _ h1
      refine ⟨_, (List.range (len + 1)).map F, rfl, by simp; omega, some ⟨g, o, none⟩, cap, by simp, fun _ => ⟨g, o, rfl, hg, fun i x hx => ?_⟩⟩
      have hi : i < len + 1 := by
        have := (List.getElem?_eq_some_iff.1 hx).1
        simpa using this
      simp [List.getElem?_map, List.getElem?_range hi] at hx
      subst hx
      obtain ⟨g', o', cs, hga, h1, h2, h3⟩ := hF i hi
      cases hga
      exact ⟨cs, h1, h2, h3⟩

theorem cells_int : Try.prog.cellsOf 3 = 1 := by kernel_rfl
theorem cells_ints : Try.prog.cellsOf 31 = 1 := by kernel_rfl
theorem cells_str : Try.prog.cellsOf 9 = 1 := by kernel_rfl
theorem cells_ins : Try.prog.cellsOf 42 = 6 := by kernel_rfl
theorem cells_blk : Try.prog.cellsOf 40 = 1 := by kernel_rfl
theorem cells_blks : Try.prog.cellsOf 22 = 1 := by kernel_rfl
theorem cells_cod : Try.prog.cellsOf 24 = 6 := by kernel_rfl

theorem i64_of_wf {n : Int} (h : (Lit.int .i64 n).wf = true) : I64 n := by
  unfold Lit.wf at h
  rw [Bool.and_eq_true] at h
  have h1 := of_decide_eq_true h.1
  have h2 := of_decide_eq_true h.2
  have e1 : IntKind.i64.min = -9223372036854775808 := by decide +kernel
  have e2 : IntKind.i64.max = 9223372036854775807 := by decide +kernel
  rw [e1] at h1
  rw [e2] at h2
  exact ⟨h1, by omega⟩

theorem num_of_trod {fuel : Nat} {cs : List Value} {x : DataW H × List MemPlace} (h : DataW.trod enc Try.prog W base spare held fuel 3 cs = some x) : ∃ n, IsN cs n := by
  obtain ⟨n, h1, _, h2⟩ := DataW.trod_int Try.underlying3 h
  exact ⟨n, h1, i64_of_wf h2⟩

theorem nums_of_trod {fuel : Nat} {cs : List Value} {x : DataW H × List MemPlace} (h : DataW.trod enc Try.prog W base spare held fuel 31 cs = some x) : ∃ v xs, cs = [v] ∧ Nums W.heap.size W v xs :=
  lies_of_trod Try.underlying31 cells_int (by decide) (fun n cs y _ hy => num_of_trod hy) h

set_option maxRecDepth 20000 in
theorem str_of_trod {fuel : Nat} {cs : List Value} {x : DataW H × List MemPlace} (h : DataW.trod enc Try.prog W base spare held fuel 9 cs = some x) : ∃ s : List UInt8, cs = [.string ⟨s.toArray⟩] ∧ s.length ≤ maxLen := by
  obtain ⟨s, h1, _, h2⟩ := DataW.trod_string Try.underlying9 h
  refine ⟨s.data.toList, by rw [h1], ?_⟩
  have : s.size = s.data.toList.length := (Array.length_toList (xs := s.data)).symm
  rw [← this]
  exact h2

set_option maxRecDepth 20000 in
theorem ins_of_trod {fuel : Nat} {cs : List Value} {x : DataW H × List MemPlace} (h : DataW.trod enc Try.prog W base spare held fuel 42 cs = some x) : ∃ i, IsIns W.heap.size W cs i := by
  obtain ⟨xs, n, rfl, rfl, hlen, hxs, hel⟩ := DataW.trod_struct Try.underlying42 h
  rw [cells_ins] at hlen
  match cs, hlen with
  | [v0, v1, v2, v3, v4, v5], _ =>
    have h0 : DataW.trod enc Try.prog W base spare held n 3 (([v0, v1, v2, v3, v4, v5].drop 0).take (Try.prog.cellsOf 3)) = xs[0]? := hel 0 _ rfl
    have h1 : DataW.trod enc Try.prog W base spare held n 31 (([v0, v1, v2, v3, v4, v5].drop 1).take (Try.prog.cellsOf 31)) = xs[1]? := hel 1 _ rfl
    have h2 : DataW.trod enc Try.prog W base spare held n 31 (([v0, v1, v2, v3, v4, v5].drop 2).take (Try.prog.cellsOf 31)) = xs[2]? := hel 2 _ rfl
    have h3 : DataW.trod enc Try.prog W base spare held n 3 (([v0, v1, v2, v3, v4, v5].drop 3).take (Try.prog.cellsOf 3)) = xs[3]? := hel 3 _ rfl
    have h4 : DataW.trod enc Try.prog W base spare held n 9 (([v0, v1, v2, v3, v4, v5].drop 4).take (Try.prog.cellsOf 9)) = xs[4]? := hel 4 _ rfl
    have h5 : DataW.trod enc Try.prog W base spare held n 31 (([v0, v1, v2, v3, v4, v5].drop 5).take (Try.prog.cellsOf 31)) = xs[5]? := hel 5 _ rfl
    rw [cells_int] at h0 h3
    rw [cells_ints] at h1 h2 h5
    rw [cells_str] at h4
    obtain ⟨y0, e0⟩ := get_some (i := 0) hxs (by decide)
    obtain ⟨y1, e1⟩ := get_some (i := 1) hxs (by decide)
    obtain ⟨y2, e2⟩ := get_some (i := 2) hxs (by decide)
    obtain ⟨y3, e3⟩ := get_some (i := 3) hxs (by decide)
    obtain ⟨y4, e4⟩ := get_some (i := 4) hxs (by decide)
    obtain ⟨y5, e5⟩ := get_some (i := 5) hxs (by decide)
    rw [e0] at h0; rw [e1] at h1; rw [e2] at h2; rw [e3] at h3; rw [e4] at h4; rw [e5] at h5
    simp at h0 h1 h2 h3 h4 h5
    obtain ⟨op, r0, _⟩ := num_of_trod h0
    obtain ⟨vd, ds, r1, hd⟩ := nums_of_trod h1
    obtain ⟨va, ar, r2, ha⟩ := nums_of_trod h2
    obtain ⟨nn, r3, hn⟩ := num_of_trod h3
    obtain ⟨s, r4, hs⟩ := str_of_trod h4
    obtain ⟨vt, to, r5, ht⟩ := nums_of_trod h5
    cases r0; cases r1; cases r2; cases r3; cases r4; cases r5
    exact ⟨⟨op, ds, ar, nn, s, to⟩, _, _, _, rfl, hd, ha, ht, hs, hn⟩

theorem blk_of_trod {fuel : Nat} {cs : List Value} {x : DataW H × List MemPlace} (h : DataW.trod enc Try.prog W base spare held fuel 40 cs = some x) : ∃ b, IsBlk W.heap.size W cs b := by
  obtain ⟨v, xs, rfl, hv⟩ := lies_of_trod (P := IsIns W.heap.size W) Try.underlying40 cells_ins (by decide) (fun n cs y _ hy => ins_of_trod hy) h
  exact ⟨xs, v, rfl, hv⟩

theorem blks_of_trod {fuel : Nat} {cs : List Value} {x : DataW H × List MemPlace} (h : DataW.trod enc Try.prog W base spare held fuel 22 cs = some x) : ∃ v b, cs = [v] ∧ Blks W.heap.size W v b :=
  lies_of_trod Try.underlying22 cells_blk (by decide) (fun n cs y _ hy => blk_of_trod hy) h

set_option maxRecDepth 20000 in
theorem cod_of_trod {fuel : Nat} {cs : List Value} {x : DataW H × List MemPlace} (h : DataW.trod enc Try.prog W base spare held fuel 24 cs = some x) : ∃ i, IsCod W.heap.size W cs i := by
  obtain ⟨xs, n, rfl, rfl, hlen, hxs, hel⟩ := DataW.trod_struct Try.underlying24 h
  rw [cells_cod] at hlen
  match cs, hlen with
  | [v0, v1, v2, v3, v4, v5], _ =>
    have h0 : DataW.trod enc Try.prog W base spare held n 9 (([v0, v1, v2, v3, v4, v5].drop 0).take (Try.prog.cellsOf 9)) = xs[0]? := hel 0 _ rfl
    have h1 : DataW.trod enc Try.prog W base spare held n 3 (([v0, v1, v2, v3, v4, v5].drop 1).take (Try.prog.cellsOf 3)) = xs[1]? := hel 1 _ rfl
    have h2 : DataW.trod enc Try.prog W base spare held n 3 (([v0, v1, v2, v3, v4, v5].drop 2).take (Try.prog.cellsOf 3)) = xs[2]? := hel 2 _ rfl
    have h3 : DataW.trod enc Try.prog W base spare held n 3 (([v0, v1, v2, v3, v4, v5].drop 3).take (Try.prog.cellsOf 3)) = xs[3]? := hel 3 _ rfl
    have h4 : DataW.trod enc Try.prog W base spare held n 3 (([v0, v1, v2, v3, v4, v5].drop 4).take (Try.prog.cellsOf 3)) = xs[4]? := hel 4 _ rfl
    have h5 : DataW.trod enc Try.prog W base spare held n 22 (([v0, v1, v2, v3, v4, v5].drop 5).take (Try.prog.cellsOf 22)) = xs[5]? := hel 5 _ rfl
    rw [cells_int] at h1 h2 h3 h4
    rw [cells_str] at h0
    rw [cells_blks] at h5
    obtain ⟨y0, e0⟩ := get_some (i := 0) hxs (by decide)
    obtain ⟨y1, e1⟩ := get_some (i := 1) hxs (by decide)
    obtain ⟨y2, e2⟩ := get_some (i := 2) hxs (by decide)
    obtain ⟨y3, e3⟩ := get_some (i := 3) hxs (by decide)
    obtain ⟨y4, e4⟩ := get_some (i := 4) hxs (by decide)
    obtain ⟨y5, e5⟩ := get_some (i := 5) hxs (by decide)
    rw [e0] at h0; rw [e1] at h1; rw [e2] at h2; rw [e3] at h3; rw [e4] at h4; rw [e5] at h5
    simp at h0 h1 h2 h3 h4 h5
    obtain ⟨s, r0, hs⟩ := str_of_trod h0
    obtain ⟨n1, r1, i1⟩ := num_of_trod h1
    obtain ⟨n2, r2, i2⟩ := num_of_trod h2
    obtain ⟨n3, r3, i3⟩ := num_of_trod h3
    obtain ⟨n4, r4, _⟩ := num_of_trod h4
    obtain ⟨vb, bs, r5, hb⟩ := blks_of_trod h5
    cases r0; cases r1; cases r2; cases r3; cases r4; cases r5
    exact ⟨⟨s, n1, n2, n3, n4, bs⟩, _, rfl, hb, hs, i1, i2, i3⟩

end Go.Proofs.Ytjdedfgdofceeaa
