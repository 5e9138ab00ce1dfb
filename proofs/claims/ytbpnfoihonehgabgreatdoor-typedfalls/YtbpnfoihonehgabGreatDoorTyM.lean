/-
  Statements without blocks.
-/
import Derived.Test.YtbpnfoihonehgabGreatDoorTyL
namespace Go.Proofs.YtbpnfoihonehgabGreatDoor
open Go.RowKit Go.Maps
set_option linter.unusedSimpArgs false
set_option linter.unusedVariables false

theorem expr_said_t {B cb : Nat} {fv : Value} {fs : List Fn'} {pl : DataW Unit} {res : Int} (sc : List (DataW Unit)) (l : Nat) : ∀ f, SaidX B cb fv fs pl res sc l (exprT pl fs sc f)
  | 0 => fun _ _ _ _ _ _ _ _ h => by cases h
  | f + 1 => expr_any (expr_said_t sc l f)

def wantVarT (sc : List (DataW Unit)) (nm : List UInt8) (ts : List Int) : Int := if (lookT sc nm sc.length).2 != 0 then (lookT sc nm sc.length).2 else if ts.any (fun t => (lookT sc nm sc.length).1 == t) then 0 else 9

theorem any_false_of {ts : List Int} {x : Int} (h : ∀ j, j < ts.length → (x == ts.getD j 0) = false) : ts.any (fun t => x == t) = false := by
  rw [List.any_eq_false]
  intro t ht
  obtain ⟨j, hj, rfl⟩ := List.getElem_of_mem ht
  have := h j hj
  rw [List.getD_eq_getElem?_getD, List.getElem?_eq_getElem hj] at this
  simpa using this

theorem any_true_of {ts : List Int} {x : Int} {i : Nat} (hi : i < ts.length) (h : (x == ts.getD i 0) = true) : ts.any (fun t => x == t) = true := by
  rw [List.any_eq_true]
  rw [List.getD_eq_getElem?_getD, List.getElem?_eq_getElem hi] at h
  exact ⟨_, List.getElem_mem hi, h⟩

set_option maxHeartbeats 2000000 in
set_option maxRecDepth 20000 in
theorem wantVar_any (w : World) (B cb : Nat) (X : List Nat) (fv : Value) (pl : DataW Unit) (res : Int) (sc : List (DataW Unit)) (d l : Nat) (nm : List UInt8) (v : Value) (ts : List Int) (h : Chk w B cb X fv pl res sc d l) (hnm : nm.length ≤ 1000000) (hv : IntsAt w v ts) (htl : ts.length ≤ 1000000) :
    Calls Tryz.prog 87 #[.pointer (some ⟨cb, 0, none⟩), .string ⟨nm.toArray⟩, v] w fun e w' => e = .returned (.int .i64 (wantVarT sc nm ts)) ∧ w' = w := by
  obtain ⟨av, cv, rfl, hc⟩ := hv
  have HC : Hid (_) := hc
  have HH : Hid (_) := h
  obtain ⟨r, hr⟩ : ∃ r, r = wantVarT sc nm ts := ⟨_, rfl⟩
  rw [← hr]
  have HR : Hid (r = wantVarT sc nm ts) := hr
  clear hc h hr
  go_enter Tryz.func87, Tryz.ntmps87
  go_wp2_with fail
  refine (declared_any _ B cb X fv pl res sc d l nm HH.out hnm).mono ?_
  rintro e w1 ⟨rfl, hw1⟩
  have hw1' := hw1.symm
  subst hw1'
  unfold wantVarT at HR
  generalize lookT sc nm sc.length = lk at *
  obtain ⟨t0, k0⟩ := lk
  unfold tyE
  rcases h0 : (k0 != 0) with _ | _
  · simp only [h0, Bool.false_eq_true, if_false] at HR
    go_wp2_with fail
    go_loopg [22] ts.length (fun g s22 wr => ∃ i : Nat, s22 = .int .i64 (i : Nat) ∧ wr = w ∧ i + g = ts.length ∧ Hid (∀ j, j < i → (t0 == ts.getD j 0) = false))
    case atStart => exact ⟨0, rfl, rfl, by omega, fun j hj => absurd hj (by omega)⟩
    case round =>
      obtain ⟨i, rfl, rfl, hi, HJ⟩ := hrel
      cases gk with
      | zero =>
        have hlt : ¬ (i : Int) < (ts.length : Int) := by omega
        have hltb : decide ((i : Int) < (ts.length : Int)) = false := by simpa using hlt
        have HE2 : Hid (r = 9) := by unfold Hid; rw [HR.out, any_false_of (fun j hj => HJ.out j (by omega))]; rfl
        go_wp2_with fail
        go_ret
        exact ⟨by rw [HE2.out]; rfl, rfl⟩
      | succ g =>
        have hlt : (i : Int) < (ts.length : Int) := by omega
        have hltb : decide ((i : Int) < (ts.length : Int)) = true := by simpa using hlt
        obtain ⟨gb, rfl, hcell⟩ := HC.out i (by omega)
        obtain ⟨t, ht⟩ : ∃ t, t = ts.getD i 0 := ⟨_, rfl⟩
        rw [← ht] at hcell
        have HTT : Hid (t = ts.getD i 0) := ht
        clear ht
        rcases h1 : (t0 == t) with _ | _
        · go_wp2_with fail
          go_roundg g
          case measure => omega
          case rel =>
            refine ⟨i + 1, by go_num, rfl, by omega, fun j hj => ?_⟩
            rcases Nat.lt_or_ge j i with h | h
            · exact HJ.out j h
            · have : j = i := by omega
              subst this; rw [← HTT.out]; exact h1
        · have HE2 : Hid (r = 0) := by unfold Hid; rw [HR.out, any_true_of (i := i) (by omega) (by rw [← HTT.out]; exact h1)]; rfl
          go_wp2_with fail
          go_ret
          exact ⟨by rw [HE2.out]; rfl, rfl⟩
  · simp only [h0, if_true] at HR
    go_wp2_with fail
    go_ret
    exact ⟨by rw [HR.out]; rfl, rfl⟩

/-- what a call on a statement or a block leaves -/
def PostT (w : World) (B cb : Nat) (X : List Nat) (fv : Value) (pl : DataW Unit) (res : Int) (scs : List (DataW Unit)) (d l : Nat) (k : Int) (e : Ending) (w' : World) : Prop :=
  e = .returned (.int .i64 k) ∧ ∃ X', Chk w' B cb X' fv pl res scs d l ∧ KX X X' w w'

def doT (E : Nat → Ex → Option (Int × Int)) (d : Nat) (x : Ex) : Option Int := if x.kind != 7 then some 4 else (E d x).map (·.2)

set_option maxHeartbeats 1000000 in
set_option maxRecDepth 20000 in
theorem doing_any {B cb : Nat} {fv : Value} {fs : List Fn'} {pl : DataW Unit} {res : Int} {sc : List (DataW Unit)} {l : Nat} {E : Nat → Ex → Option (Int × Int)} (hE : SaidX B cb fv fs pl res sc l E)
    (w : World) (X : List Nat) (d : Nat) (v : Value) (x : Ex) (r : Int) (h : Ctx w B cb X fv fs pl res sc d l) (hx : AnE (fun g => g < B) w v x) (hr : doT E d x = some r) :
    Calls Tryz.prog 70 #[.pointer (some ⟨cb, 0, none⟩), v] w (PostT w B cb X fv pl res sc d l r) := by
  obtain ⟨a, c, rfl, hrow⟩ := anE_parts hx
  have hkb : Below w.heap.size w (w.alloc (.cells #[.int .i64 x.kind, .int .i64 x.n, .string ⟨x.s.toArray⟩, .slice a x.args.length c] 116)) := (Below.refl _ _).alloc (Nat.le_refl _) _
  have HC : Hid (_) := h.add hkb
  have HX : Hid (_) := hx.bel (h.bel (KX.of_below (X := X) hkb))
  have HK : Hid (_) := KX.of_below (X := X) hkb
  unfold doT at hr
  rcases h7 : (x.kind != 7) with _ | _
  · rw [h7] at hr
    simp only [Bool.false_eq_true, if_false] at hr
    rcases hq : E d x with _ | ⟨t, m⟩
    · rw [hq] at hr; cases hr
    · rw [hq] at hr
      simp only [Option.map_some, Option.some.injEq] at hr
      subst hr
      clear hx h hkb hrow
      go_enter Tryz.func70, Tryz.ntmps70
      go_wp2_with fail
      refine (hE _ _ _ _ _ _ HC.out HX.out hq).mono ?_
      rintro e w1 ⟨rfl, hc1, hk1⟩
      have HC1 : Hid (_) := hc1
      have HK1 : Hid (_) := hk1
      clear hc1 hk1
      unfold tyE
      go_wp2_with fail
      go_ret
      exact ⟨rfl, X, HC1.out, HK.out.trans HK1.out⟩
  · rw [h7] at hr
    cases hr
    clear hx h hkb hrow
    go_enter Tryz.func70, Tryz.ntmps70
    go_wp2_with fail
    go_ret
    exact ⟨rfl, X, HC.out.chk, HK.out⟩

/-- a statement's parts in memory -/
theorem anS_parts {S : Nat → Prop} {w : World} {v : Value} {x : St} (h : AnS S w v x) : ∃ ae ce ab cb al cl ac cc, v = .agg #[.int .i64 x.kind, .string ⟨x.s.toArray⟩, .string ⟨x.t.toArray⟩, .slice ae x.exprs.length ce, .slice ab x.body.length cb, .slice al x.els.length cl, .slice ac x.cases.length cc] ∧
    Row S w (AnE S w) (.slice ae x.exprs.length ce) x.exprs ∧ Row S w (AnS S w) (.slice ab x.body.length cb) x.body ∧ Row S w (AnS S w) (.slice al x.els.length cl) x.els ∧ Row S w (AnC S w) (.slice ac x.cases.length cc) x.cases := by
  obtain ⟨f, h⟩ := h
  cases f with
  | zero => exact h.elim
  | succ f =>
    obtain ⟨ae, ab, al, ac, rfl, h1, h2, h3, h4⟩ := h
    obtain ⟨ae, ce, rfl⟩ := h1.slice
    obtain ⟨ab, cb, rfl⟩ := h2.slice
    obtain ⟨al, cl, rfl⟩ := h3.slice
    obtain ⟨ac, cc, rfl⟩ := h4.slice
    refine ⟨ae, ce, ab, cb, al, cl, ac, cc, rfl, h1, h2.move (fun g h _ => ⟨h, rfl⟩) fun _ _ h => ⟨f, h⟩, h3.move (fun g h _ => ⟨h, rfl⟩) fun _ _ h => ⟨f, h⟩, h4.move (fun g h _ => ⟨h, rfl⟩) fun _ _ h => h.move (fun g h _ => ⟨h, rfl⟩) fun _ _ h => ⟨f, h⟩⟩

/-- the first expression, in a later world -/
theorem row_first {w w' : World} {B : Nat} {a : Option Addr} {n c : Nat} {xs : List Ex} {x : Ex} (h : Row (fun g => g < B) w (AnE (fun g => g < B) w) (.slice a n c) xs) (i : Nat) (hx : xs[i]? = some x) (hb : Below B w w') :
    ∃ g y0 y1 y2 y3 l3 c3, a = some ⟨g, 0, none⟩ ∧ n = xs.length ∧ AnE (fun g => g < B) w' (.agg #[.int .i64 y0, .int .i64 y1, .string y2, .slice y3 l3 c3]) x ∧ w'.cell? ⟨g, i * 4, none⟩ = some (.int .i64 y0) ∧ w'.cell? ⟨g, i * 4 + 1, none⟩ = some (.int .i64 y1) ∧ w'.cell? ⟨g, i * 4 + 2, none⟩ = some (.string y2) ∧ w'.cell? ⟨g, i * 4 + 3, none⟩ = some (.slice y3 l3 c3) ∧ g < B := by
  obtain ⟨g, ca, u, hva, hgB, hu, hcell⟩ := Row.at h 4 anE_len i x hx
  cases hva
  obtain ⟨y0, y1, y2, y3, l3, c3, rfl⟩ := hu.sh
  refine ⟨g, y0, y1, y2, y3, l3, c3, rfl, rfl, hu.bel hb, ?_, ?_, ?_, ?_, hgB⟩
  · rw [hb.cell (p := ⟨g, i * 4, none⟩) hgB]; exact hcell 0 (by decide)
  · rw [hb.cell (p := ⟨g, i * 4 + 1, none⟩) hgB]; exact hcell 1 (by decide)
  · rw [hb.cell (p := ⟨g, i * 4 + 2, none⟩) hgB]; exact hcell 2 (by decide)
  · rw [hb.cell (p := ⟨g, i * 4 + 3, none⟩) hgB]; exact hcell 3 (by decide)

end Go.Proofs.YtbpnfoihonehgabGreatDoor
