/-
  Statements that branch: If and For.
-/
import Derived.Test.YtbpnfoihonehgabGreatDoorTyP
namespace Go.Proofs.YtbpnfoihonehgabGreatDoor
open Go.RowKit Go.Maps
set_option linter.unusedSimpArgs false
set_option linter.unusedVariables false

def condT (E : Nat → Ex → Option (Int × Int)) (t : Int) (d : Nat) (s : St) (K : Option Int) : Option Int :=
  match s.exprs[0]? with
  | none => none
  | some x => match wantT (E d x) t with
    | none => none
    | some k => if k != 0 then some k else K

def thenT (a : Option Int) (K : Option Int) : Option Int := match a with
  | none => none
  | some k => if k != 0 then some k else K

def ifT (E : Nat → Ex → Option (Int × Int)) (Bm : List (DataW Unit) → Nat → Nat → List St → Option Int) (scs : List (DataW Unit)) (d l : Nat) (s : St) : Option Int := condT E 2 d s (thenT (Bm scs d l s.body) (Bm scs d l s.els))

def forT (E : Nat → Ex → Option (Int × Int)) (Bm : List (DataW Unit) → Nat → Nat → List St → Option Int) (scs : List (DataW Unit)) (d l : Nat) (s : St) : Option Int := condT E 2 d s (loopT Bm scs d l s.body)

set_option maxHeartbeats 2000000 in
set_option maxRecDepth 20000 in
theorem branching_for {B cb : Nat} {fv : Value} {fs : List Fn'} {pl : DataW Unit} {res : Int} {sc : List (DataW Unit)} {l : Nat} {E : Nat → Ex → Option (Int × Int)} {Bm : List (DataW Unit) → Nat → Nat → List St → Option Int} (hE : SaidX B cb fv fs pl res sc l E) (hB : SaidBk B cb fv fs pl res Bm)
    (w : World) (X : List Nat) (d : Nat) (v : Value) (s : St) (r : Int) (h : Ctx w B cb X fv fs pl res sc d l) (hs : AnS (fun g => g < B) w v s) (hk : s.kind = 5) (hr : forT E Bm sc d l s = some r) :
    Calls Tryz.prog 68 #[.pointer (some ⟨cb, 0, none⟩), v] w (PostT w B cb X fv pl res sc d l r) := by
  obtain ⟨ae, ce, ab, cq, al, cl, ac, cc, rfl, hre, hrb, hrl, hrc⟩ := anS_parts hs
  have hkb : Below w.heap.size w (w.alloc (.cells #[.int .i64 s.kind, .string ⟨s.s.toArray⟩, .string ⟨s.t.toArray⟩, .slice ae s.exprs.length ce, .slice ab s.body.length cq, .slice al s.els.length cl, .slice ac s.cases.length cc] 63)) := (Below.refl _ _).alloc (Nat.le_refl _) _
  have HC : Hid (_) := h.add hkb
  have HK : Hid (KX X X w (w.alloc (.cells #[.int .i64 s.kind, .string ⟨s.s.toArray⟩, .string ⟨s.t.toArray⟩, .slice ae s.exprs.length ce, .slice ab s.body.length cq, .slice al s.els.length cl, .slice ac s.cases.length cc] 63))) := KX.of_below hkb
  have HB1 : Hid (Below B w (w.alloc (.cells #[.int .i64 s.kind, .string ⟨s.s.toArray⟩, .string ⟨s.t.toArray⟩, .slice ae s.exprs.length ce, .slice ab s.body.length cq, .slice al s.els.length cl, .slice ac s.cases.length cc] 63))) := h.bel (KX.of_below (X := X) hkb)
  have hNX : Hid (w.heap.size ∉ X) := fun hm => by have := (h.chk.low _ hm).2; omega
  have hblk := heap_alloc_new w (.cells #[.int .i64 s.kind, .string ⟨s.s.toArray⟩, .string ⟨s.t.toArray⟩, .slice ae s.exprs.length ce, .slice ab s.body.length cq, .slice al s.els.length cl, .slice ac s.cases.length cc] 63)
  unfold forT condT at hr
  rcases hx : s.exprs[0]? with _ | x
  · rw [hx] at hr; cases hr
  · rw [hx] at hr
    simp only at hr
    rcases hq : wantT (E d x) 2 with _ | m
    · rw [hq] at hr; cases hr
    · rw [hq] at hr
      simp only at hr
      obtain ⟨g, y0, y1, y2, y3, l3, c3, rfl, _, hAx, p0, p1, p2, p3, hgB⟩ := row_first hre 0 hx HB1.out
      simp only [Nat.zero_mul, Nat.zero_add] at p0 p1 p2 p3
      have hlen : 0 < s.exprs.length := (List.getElem?_eq_some_iff.1 hx).1
      have hlenI : (0 : Int) < (s.exprs.length : Int) := by omega
      have HAX : Hid (_) := hAx
      have HR : Hid (_) := hr
      have HBLK : Hid (_) := hblk
      have HRB : Hid (_) := RowS.bel hrb HB1.out
      have HRL : Hid (_) := RowS.bel hrl HB1.out
      have hgl : g < w.heap.size := by have := h.bs; omega
      rw [hk] at HC HK HB1 HBLK HAX HRB HRL p0 p1 p2 p3 ⊢
      clear hr hAx hre hrb hrl hrc hs hkb h hblk
      go_enter Tryz.func68, Tryz.ntmps68
      go_wp2_with fail
      refine (want_any hE _ _ _ _ _ _ _ HC.out HAX.out hq).mono ?_
      rintro e w1 ⟨rfl, hc1, hk1⟩
      have hb1 := blk_kx hk1 hNX.out HBLK.out
      have cs1 := cells7 hb1
      have HC1 : Hid (_) := HC.out.next hc1 hk1
      have HK1 : Hid (KX X X w w1) := HK.out.trans hk1
      have HRB1 : Hid (_) := RowS.bel HRB.out (HC.out.bel hk1)
      have HRL1 : Hid (_) := RowS.bel HRL.out (HC.out.bel hk1)
      have HBL1 : Hid (_) := hb1
      clear hc1 hk1 hb1
      rcases hm : (m != 0) with _ | _
      · have hr := HR.out
        rw [hm] at hr
        simp only [Bool.false_eq_true, if_false] at hr
        have HR2 : Hid (_) := hr
        clear hr
        go_wp2_with fail
        refine (loop_any_t hB _ _ _ _ _ _ _ _ HC1.out HRB1.out HR2.out).mono ?_
        rintro e w2 ⟨rfl, X2, hc2, hk2⟩
        have HC2 : Hid (_) := hc2
        have HK2 : Hid (_) := hk2
        clear hc2 hk2
        go_wp2_with fail
        go_ret
        exact ⟨rfl, X2, HC2.out, HK1.out.trans HK2.out⟩
      · have hr := HR.out
        rw [hm] at hr
        cases hr
        go_wp2_with fail
        go_ret
        exact ⟨rfl, X, HC1.out.chk, HK1.out⟩

set_option maxHeartbeats 2000000 in
set_option maxRecDepth 20000 in
theorem branching_if {B cb : Nat} {fv : Value} {fs : List Fn'} {pl : DataW Unit} {res : Int} {sc : List (DataW Unit)} {l : Nat} {E : Nat → Ex → Option (Int × Int)} {Bm : List (DataW Unit) → Nat → Nat → List St → Option Int} (hE : SaidX B cb fv fs pl res sc l E) (hB : SaidBk B cb fv fs pl res Bm)
    (w : World) (X : List Nat) (d : Nat) (v : Value) (s : St) (r : Int) (h : Ctx w B cb X fv fs pl res sc d l) (hs : AnS (fun g => g < B) w v s) (hk : s.kind = 4) (hr : ifT E Bm sc d l s = some r) :
    Calls Tryz.prog 68 #[.pointer (some ⟨cb, 0, none⟩), v] w (PostT w B cb X fv pl res sc d l r) := by
  obtain ⟨ae, ce, ab, cq, al, cl, ac, cc, rfl, hre, hrb, hrl, hrc⟩ := anS_parts hs
  have hkb : Below w.heap.size w (w.alloc (.cells #[.int .i64 s.kind, .string ⟨s.s.toArray⟩, .string ⟨s.t.toArray⟩, .slice ae s.exprs.length ce, .slice ab s.body.length cq, .slice al s.els.length cl, .slice ac s.cases.length cc] 63)) := (Below.refl _ _).alloc (Nat.le_refl _) _
  have HC : Hid (_) := h.add hkb
  have HK : Hid (KX X X w (w.alloc (.cells #[.int .i64 s.kind, .string ⟨s.s.toArray⟩, .string ⟨s.t.toArray⟩, .slice ae s.exprs.length ce, .slice ab s.body.length cq, .slice al s.els.length cl, .slice ac s.cases.length cc] 63))) := KX.of_below hkb
  have HB1 : Hid (Below B w (w.alloc (.cells #[.int .i64 s.kind, .string ⟨s.s.toArray⟩, .string ⟨s.t.toArray⟩, .slice ae s.exprs.length ce, .slice ab s.body.length cq, .slice al s.els.length cl, .slice ac s.cases.length cc] 63))) := h.bel (KX.of_below (X := X) hkb)
  have hNX : Hid (w.heap.size ∉ X) := fun hm => by have := (h.chk.low _ hm).2; omega
  have hblk := heap_alloc_new w (.cells #[.int .i64 s.kind, .string ⟨s.s.toArray⟩, .string ⟨s.t.toArray⟩, .slice ae s.exprs.length ce, .slice ab s.body.length cq, .slice al s.els.length cl, .slice ac s.cases.length cc] 63)
  unfold ifT condT at hr
  rcases hx : s.exprs[0]? with _ | x
  · rw [hx] at hr; cases hr
  · rw [hx] at hr
    simp only at hr
    rcases hq : wantT (E d x) 2 with _ | m
    · rw [hq] at hr; cases hr
    · rw [hq] at hr
      simp only at hr
      obtain ⟨g, y0, y1, y2, y3, l3, c3, rfl, _, hAx, p0, p1, p2, p3, hgB⟩ := row_first hre 0 hx HB1.out
      simp only [Nat.zero_mul, Nat.zero_add] at p0 p1 p2 p3
      have hlen : 0 < s.exprs.length := (List.getElem?_eq_some_iff.1 hx).1
      have hlenI : (0 : Int) < (s.exprs.length : Int) := by omega
      have HAX : Hid (_) := hAx
      have HR : Hid (_) := hr
      have HBLK : Hid (_) := hblk
      have HRB : Hid (_) := RowS.bel hrb HB1.out
      have HRL : Hid (_) := RowS.bel hrl HB1.out
      have hgl : g < w.heap.size := by have := h.bs; omega
      rw [hk] at HC HK HB1 HBLK HAX HRB HRL p0 p1 p2 p3 ⊢
      clear hr hAx hre hrb hrl hrc hs hkb h hblk
      go_enter Tryz.func68, Tryz.ntmps68
      go_wp2_with fail
      refine (want_any hE _ _ _ _ _ _ _ HC.out HAX.out hq).mono ?_
      rintro e w1 ⟨rfl, hc1, hk1⟩
      have hb1 := blk_kx hk1 hNX.out HBLK.out
      have cs1 := cells7 hb1
      have HC1 : Hid (_) := HC.out.next hc1 hk1
      have HK1 : Hid (KX X X w w1) := HK.out.trans hk1
      have HRB1 : Hid (_) := RowS.bel HRB.out (HC.out.bel hk1)
      have HRL1 : Hid (_) := RowS.bel HRL.out (HC.out.bel hk1)
      have HBL1 : Hid (_) := hb1
      clear hc1 hk1 hb1
      rcases hm : (m != 0) with _ | _
      · have hr := HR.out
        rw [hm] at hr
        simp only [Bool.false_eq_true, if_false] at hr
        unfold thenT at hr
        rcases hq2 : Bm sc d l s.body with _ | m2
        · rw [hq2] at hr; cases hr
        · rw [hq2] at hr
          simp only at hr
          have HR2 : Hid (_) := hr
          clear hr
          go_wp2_with fail
          refine (hB _ _ _ _ _ _ _ _ HC1.out HRB1.out hq2).mono ?_
          rintro e w2 ⟨rfl, X2, hc2, hk2⟩
          have hb2 := blk_kx hk2 hNX.out HBL1.out
          have cs2 := cells7 hb2
          have HC2 : Hid (_) := HC1.out.next hc2 hk2
          have HK2 : Hid (KX X X2 w w2) := HK1.out.trans hk2
          have HRL2 : Hid (_) := RowS.bel HRL1.out (HC1.out.bel hk2)
          clear hc2 hk2 hb2 cs1
          rcases hm2 : (m2 != 0) with _ | _
          · have hr := HR2.out
            rw [hm2] at hr
            simp only [Bool.false_eq_true, if_false] at hr
            have HR3 : Hid (_) := hr
            clear hr
            go_wp2_with fail
            refine (hB _ _ _ _ _ _ _ _ HC2.out HRL2.out HR3.out).mono ?_
            rintro e w3 ⟨rfl, X3, hc3, hk3⟩
            have HC3 : Hid (_) := hc3
            have HK3 : Hid (_) := hk3
            clear hc3 hk3
            go_wp2_with fail
            go_ret
            exact ⟨rfl, X3, HC3.out, HK2.out.trans HK3.out⟩
          · have hr := HR2.out
            rw [hm2] at hr
            cases hr
            go_wp2_with fail
            go_ret
            exact ⟨rfl, X2, HC2.out.chk, HK2.out⟩
      · have hr := HR.out
        rw [hm] at hr
        cases hr
        go_wp2_with fail
        go_ret
        exact ⟨rfl, X, HC1.out.chk, HK1.out⟩

end Go.Proofs.YtbpnfoihonehgabGreatDoor
