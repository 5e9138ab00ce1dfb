/-
  Whatever reads as a block of statements lies in memory as one, at some depth.
-/
import Derived.Test.YtbpnfoihonehgabTeC
namespace Go.Proofs.Ytbpnfoihonehgab
open Go.RowKit
set_option linter.unusedSimpArgs false
set_option linter.unusedVariables false

theorem cells27 : Try.prog.cellsOf 28 = 7 := by kernel_rfl
theorem cells30 : Try.prog.cellsOf 31 = 2 := by kernel_rfl
theorem cells3 : Try.prog.cellsOf 3 = 1 := by kernel_rfl
theorem cells9 : Try.prog.cellsOf 9 = 1 := by kernel_rfl
theorem cells22 : Try.prog.cellsOf 22 = 1 := by kernel_rfl
theorem cells24 : Try.prog.cellsOf 25 = 1 := by kernel_rfl
theorem cells25 : Try.prog.cellsOf 26 = 1 := by kernel_rfl
theorem cells28 : Try.prog.cellsOf 29 = 1 := by kernel_rfl

variable {H : Type} {enc : TypeId × Value → H} {W : World} {base : Nat} {spare : Nat → Bool} {held : Bool}

theorem slice_sh {t e : TypeId} {fuel : Nat} {cs : List Value} {x : DataW H × List MemPlace} (ht : Try.prog.underlying t = some (.slice e)) (h : DataW.trod enc Try.prog W base spare held fuel t cs = some x) : ∃ a l c, cs = [.slice a l c] := by
  rcases DataW.trod_slice ht h with ⟨rfl, _⟩ | ⟨a, len, cap, elems, rest, n, _, rfl, _⟩
  · exact ⟨_, _, _, rfl⟩
  · exact ⟨_, _, _, rfl⟩

theorem get_some {A : Type} {xs : List A} {n i : Nat} (h : xs.length = n) (hi : i < n) : ∃ x, xs[i]? = some x := ⟨xs[i]'(by omega), List.getElem?_eq_getElem (by omega)⟩

theorem stmt_open {fuel : Nat} {cs : List Value} {x : DataW H × List MemPlace} (h : DataW.trod enc Try.prog W base spare held fuel 28 cs = some x) :
    ∃ (n : Nat) (k : Int) (s t : ByteArray) (ax : Option Addr) (lx cx : Nat) (ab : Option Addr) (lb cb : Nat) (ae : Option Addr) (le ce : Nat) (ac : Option Addr) (lc cc : Nat) (yb ye yc : DataW H × List MemPlace), fuel = n + 1 ∧
      cs = [.int .i64 k, .string s, .string t, .slice ax lx cx, .slice ab lb cb, .slice ae le ce, .slice ac lc cc] ∧
      DataW.trod enc Try.prog W base spare held n 22 [.slice ab lb cb] = some yb ∧ DataW.trod enc Try.prog W base spare held n 22 [.slice ae le ce] = some ye ∧
      DataW.trod enc Try.prog W base spare held n 26 [.slice ac lc cc] = some yc := by
  obtain ⟨xs, n, rfl, rfl, hlen, hxs, hel⟩ := DataW.trod_struct Try.underlying28 h
  rw [cells27] at hlen
  match cs, hlen with
  | [v0, v1, v2, v3, v4, v5, v6], _ =>
    have h0 : DataW.trod enc Try.prog W base spare held n 3 (([v0, v1, v2, v3, v4, v5, v6].drop 0).take (Try.prog.cellsOf 3)) = xs[0]? := hel 0 _ rfl
    rw [cells3] at h0
    have h1 : DataW.trod enc Try.prog W base spare held n 9 (([v0, v1, v2, v3, v4, v5, v6].drop 1).take (Try.prog.cellsOf 9)) = xs[1]? := hel 1 _ rfl
    rw [cells9] at h1
    have h2 : DataW.trod enc Try.prog W base spare held n 9 (([v0, v1, v2, v3, v4, v5, v6].drop 2).take (Try.prog.cellsOf 9)) = xs[2]? := hel 2 _ rfl
    rw [cells9] at h2
    have h3 : DataW.trod enc Try.prog W base spare held n 25 (([v0, v1, v2, v3, v4, v5, v6].drop 3).take (Try.prog.cellsOf 25)) = xs[3]? := hel 3 _ rfl
    rw [cells24] at h3
    have h4 : DataW.trod enc Try.prog W base spare held n 22 (([v0, v1, v2, v3, v4, v5, v6].drop 4).take (Try.prog.cellsOf 22)) = xs[4]? := hel 4 _ rfl
    rw [cells22] at h4
    have h5 : DataW.trod enc Try.prog W base spare held n 22 (([v0, v1, v2, v3, v4, v5, v6].drop 5).take (Try.prog.cellsOf 22)) = xs[5]? := hel 5 _ rfl
    rw [cells22] at h5
    have h6 : DataW.trod enc Try.prog W base spare held n 26 (([v0, v1, v2, v3, v4, v5, v6].drop 6).take (Try.prog.cellsOf 26)) = xs[6]? := hel 6 _ rfl
    rw [cells25] at h6
    obtain ⟨y0, e0⟩ := get_some (i := 0) hxs (by decide)
    obtain ⟨y1, e1⟩ := get_some (i := 1) hxs (by decide)
    obtain ⟨y2, e2⟩ := get_some (i := 2) hxs (by decide)
    obtain ⟨y3, e3⟩ := get_some (i := 3) hxs (by decide)
    obtain ⟨y4, e4⟩ := get_some (i := 4) hxs (by decide)
    obtain ⟨y5, e5⟩ := get_some (i := 5) hxs (by decide)
    obtain ⟨y6, e6⟩ := get_some (i := 6) hxs (by decide)
    rw [e0] at h0; rw [e1] at h1; rw [e2] at h2; rw [e3] at h3; rw [e4] at h4; rw [e5] at h5; rw [e6] at h6
    simp at h0 h1 h2 h3 h4 h5 h6
    obtain ⟨k, r0, _⟩ := DataW.trod_int Try.underlying3 h0
    obtain ⟨s, r1, _⟩ := DataW.trod_string Try.underlying9 h1
    obtain ⟨t, r2, _⟩ := DataW.trod_string Try.underlying9 h2
    obtain ⟨ax, lx, cx, r3⟩ := slice_sh Try.underlying25 h3
    obtain ⟨ab, lb, cb, r4⟩ := slice_sh Try.underlying22 h4
    obtain ⟨ae, le, ce, r5⟩ := slice_sh Try.underlying22 h5
    obtain ⟨ac, lc, cc, r6⟩ := slice_sh Try.underlying26 h6
    cases r0; cases r1; cases r2; cases r3; cases r4; cases r5; cases r6
    exact ⟨n, k, s, t, ax, lx, cx, ab, lb, cb, ae, le, ce, ac, lc, cc, y4, y5, y6, rfl, rfl, h4, h5, h6⟩

theorem case_open {fuel : Nat} {cs : List Value} {x : DataW H × List MemPlace} (h : DataW.trod enc Try.prog W base spare held fuel 31 cs = some x) :
    ∃ (n : Nat) (ax : Option Addr) (lx cx : Nat) (ab : Option Addr) (lb cb : Nat) (yb : DataW H × List MemPlace), fuel = n + 1 ∧ cs = [.slice ax lx cx, .slice ab lb cb] ∧
      DataW.trod enc Try.prog W base spare held n 22 [.slice ab lb cb] = some yb := by
  obtain ⟨xs, n, rfl, rfl, hlen, hxs, hel⟩ := DataW.trod_struct Try.underlying31 h
  rw [cells30] at hlen
  match cs, hlen with
  | [v0, v1], _ =>
    have h0 : DataW.trod enc Try.prog W base spare held n 29 (([v0, v1].drop 0).take (Try.prog.cellsOf 29)) = xs[0]? := hel 0 _ rfl
    rw [cells28] at h0
    have h1 : DataW.trod enc Try.prog W base spare held n 22 (([v0, v1].drop 1).take (Try.prog.cellsOf 22)) = xs[1]? := hel 1 _ rfl
    rw [cells22] at h1
    obtain ⟨y0, e0⟩ := get_some (i := 0) hxs (by decide)
    obtain ⟨y1, e1⟩ := get_some (i := 1) hxs (by decide)
    rw [e0] at h0; rw [e1] at h1
    simp at h0 h1
    obtain ⟨ax, lx, cx, r0⟩ := slice_sh Try.underlying29 h0
    obtain ⟨ab, lb, cb, r1⟩ := slice_sh Try.underlying22 h1
    cases r0; cases r1
    exact ⟨n, ax, lx, cx, ab, lb, cb, y1, rfl, rfl, h1⟩

theorem plain_addr {a : Addr} {n m : Nat} {cs : List Value} (h : W.cells? base (a.add (0 * n)) m = some cs) (hm : 0 < m) : ∃ g o, a = ⟨g, o, none⟩ := by
  obtain ⟨_, hl, hc⟩ := World.cells?_some h
  have h0 := hc 0 hm
  rw [List.getElem?_eq_getElem (by omega)] at h0
  obtain ⟨g, o, spot⟩ := a
  have hspot : spot = none := by simpa [Addr.add] using World.cell?_spot h0
  subst hspot
  exact ⟨g, o, rfl⟩

theorem elem_cells {a : Addr} {n m i : Nat} {e : TypeId} {elems : List (DataW H × List MemPlace)} {len : Nat} (hlen : elems.length = len) (hi : i < len)
    (hel : ∀ i, i < len → (W.cells? base (a.add (i * m)) m).bind (DataW.trod enc Try.prog W base spare held n e) = elems[i]?) (hm : 0 < m) :
    ∃ g o cs y, a = (⟨g, o, none⟩ : Addr) ∧ DataW.trod enc Try.prog W base spare held n e cs = some y ∧ ∀ j, j < m → W.cell? ⟨g, o + i * m + j, none⟩ = cs[j]? := by
  obtain ⟨y0, hy0⟩ := get_some (i := 0) hlen (by omega)
  have h0 := hel 0 (by omega)
  rw [hy0] at h0
  obtain ⟨cs0, hc0, _⟩ := Option.bind_eq_some_iff.1 h0
  obtain ⟨g, o, rfl⟩ := plain_addr hc0 hm
  obtain ⟨y, hy⟩ := get_some (i := i) hlen hi
  have h1 := hel i hi
  rw [hy] at h1
  obtain ⟨cs, hc, ht⟩ := Option.bind_eq_some_iff.1 h1
  obtain ⟨_, _, hcell⟩ := World.cells?_some hc
  exact ⟨g, o, cs, y, rfl, ht, fun j hj => by rw [← hcell j hj, Go.WideShapes.add_plain, Go.WideShapes.add_plain]⟩

theorem ends_of_trod : ∀ (fuel : Nat) (cs : List Value) (x : DataW H × List MemPlace), DataW.trod enc Try.prog W base spare held fuel 22 cs = some x → ∃ a l c b, cs = [.slice a l c] ∧ EndsV fuel W (.slice a l c) b := by
  intro fuel
  induction fuel using Nat.strongRecOn with
  | ind fuel ih =>
    intro cs x h
    rcases DataW.trod_slice Try.underlying22 h with ⟨rfl, _⟩ | ⟨a, len, cap, elems, rest, n, rfl, rfl, _, hb, hl, hm, hlen, hel, _⟩
    · cases fuel with
      | zero => simp [DataW.trod] at h
      | succ n => exact ⟨_, _, _, false, rfl, .inl ⟨_, _, rfl, rfl⟩⟩
    · cases len with
      | zero => exact ⟨_, _, _, false, rfl, .inl ⟨_, _, rfl, rfl⟩⟩
      | succ len =>
        rw [cells27] at hel
        obtain ⟨g, off, cs', y, rfl, hs, hcell'⟩ := elem_cells (i := len) hlen (by omega) hel (by decide)
        obtain ⟨n1, k, s, t, ax, lx, cx, ab, lb, cb, ae, le, ce, ac, lc, cc, yb, ye, yc, rfl, rfl, hbo, hel2, hca⟩ := stmt_open hs
        obtain ⟨_, _, _, b1, r1, e1⟩ := ih n1 (by omega) _ _ hbo
        obtain ⟨_, _, _, b2, r2, e2⟩ := ih n1 (by omega) _ _ hel2
        cases r1; cases r2
        have hcases : ∃ (V : Nat → Value) (B : Nat → Bool), lc ≤ maxLen ∧ CasesAt (EndsV (n1 + 1) W) W ac lc V B := by
          rcases DataW.trod_slice Try.underlying26 hca with ⟨r, _⟩ | ⟨a', len', cap', elems', rest', n2, hn2, r, _, hb', hl', hm', hlen', hel', _⟩
          · cases r
            exact ⟨fun _ => .bool false, fun _ => false, Nat.zero_le _, fun i hi => absurd hi (by omega)⟩
          · cases r
            obtain ⟨F, hF⟩ := Go.Deep.choose_lt (α := Value × Bool) (n := lc) (p := fun i y => ∃ g o x, a' = (⟨g, o, none⟩ : Addr) ∧ W.cell? ⟨g, o + i * 2, none⟩ = some x ∧ W.cell? ⟨g, o + i * 2 + 1, none⟩ = some y.1 ∧ (∃ a l c, y.1 = .slice a l c) ∧ (∃ a l c, x = .slice a l c) ∧ EndsV (n1 + 1) W y.1 y.2) (by
              intro i hi
              rw [cells30] at hel'
              obtain ⟨g', o', cs2, y', rfl, hs2, hcell2⟩ := elem_cells (i := i) hlen' hi hel' (by decide)
              obtain ⟨n3, ax', lx', cx', ab', lb', cb', yb', hn3, rfl, hbo'⟩ := case_open hs2
              have p0' := hcell2 0 (by decide)
              have p1' := hcell2 1 (by decide)
              obtain ⟨_, _, _, b3, r3, e3⟩ := ih n3 (by omega) _ _ hbo'
              cases r3
              exact ⟨(.slice ab' lb' cb', b3), g', o', _, rfl, p0', p1', ⟨_, _, _, rfl⟩, ⟨_, _, _, rfl⟩, EndsV.le (by omega) e3⟩)
            refine ⟨fun i => (F i).1, fun i => (F i).2, by omega, fun i hi => ?_⟩
            obtain ⟨g', o', x', r', z⟩ := hF i hi
            exact ⟨g', o', x', by rw [r'], z⟩
        obtain ⟨V, B, hlc, hC⟩ := hcases
        refine ⟨_, _, _, _, rfl, .inr ⟨g, off, len, cap, k, s, t, ax, lx, cx, ab, lb, cb, ae, le, ce, ac, lc, cc, b1, b2, V, B, rfl, by omega, hlc, ?_, EndsV.le (by omega) e1, EndsV.le (by omega) e2, hC, rfl⟩⟩
        exact ⟨hcell' 0 (by decide), hcell' 1 (by decide), hcell' 2 (by decide), hcell' 3 (by decide), hcell' 4 (by decide), hcell' 5 (by decide), hcell' 6 (by decide)⟩

set_option maxHeartbeats 400000 in
theorem typedEnds_walk (n : Nat) (v : Value) (b : Bool) (w : World) (h : EndsV n w v b) :
    Calls Try.prog 3 #[v] w fun e w' => e = .returned (.bool true) ∧ Below w.heap.size w w' := by
  have HH : Hid (_) := h
  clear h
  go_enter Try.func3, Try.ntmps3
  go_wp2_with fail
  refine (ends_any n v b _ HH.out).mono ?_
  rintro e w1 ⟨rfl, hb1⟩
  have HB1 : Hid (_) := hb1
  clear hb1
  go_wp2_with fail
  refine (endsOf_any n v b _ (EndsV.below HB1.out _ _ _ HH.out)).mono ?_
  rintro e w2 ⟨rfl, hb2⟩
  have HB2 : Hid (_) := hb2
  clear hb2
  go_wp2_with fail
  go_ret
  exact ⟨by simp, below_after HB1.out HB2.out⟩

end Go.Proofs.Ytbpnfoihonehgab
