/-
  Statements that return, and that change variables.
-/
import Derived.Test.YtbpnfoihonehgabGreatDoorTyM
namespace Go.Proofs.YtbpnfoihonehgabGreatDoor
open Go.RowKit Go.Maps
set_option linter.unusedSimpArgs false
set_option linter.unusedVariables false

theorem cell_kx {w w' : World} {X X' : List Nat} {b o : Nat} {v : Value} (k : KX X X' w w') (hb : b ∉ X) (hc : w.cell? ⟨b, o, none⟩ = some v) : w'.cell? ⟨b, o, none⟩ = some v :=
  (World.cell?_of_block (w := w) (k.block b (World.block_lt_of_cell? w ⟨b, o, none⟩ hc) hb)).trans hc

theorem blk_kx {w w' : World} {X X' : List Nat} {b : Nat} {o : Obj} (k : KX X X' w w') (hb : b ∉ X) (hc : w.heap[b]? = some o) : w'.heap[b]? = some o := (k.block b (lt_of_block hc) hb).trans hc

def leaveT (E : Nat → Ex → Option (Int × Int)) (res : Int) (d : Nat) (s : St) : Option Int :=
  if res == 0 then (if ((s.exprs.length : Nat) : Int) != 0 then some 10 else some 0)
  else if ((s.exprs.length : Nat) : Int) != 1 then some 10
  else match s.exprs[0]? with
    | none => none
    | some x => wantT (E d x) res

set_option maxHeartbeats 2000000 in
set_option maxRecDepth 20000 in
theorem leaving_any {B cb : Nat} {fv : Value} {fs : List Fn'} {pl : DataW Unit} {res : Int} {sc : List (DataW Unit)} {l : Nat} {E : Nat → Ex → Option (Int × Int)} (hE : SaidX B cb fv fs pl res sc l E)
    (w : World) (X : List Nat) (d : Nat) (v : Value) (s : St) (r : Int) (h : Ctx w B cb X fv fs pl res sc d l) (hs : AnS (fun g => g < B) w v s) (hr : leaveT E res d s = some r) :
    Calls Tryz.prog 69 #[.pointer (some ⟨cb, 0, none⟩), v] w (PostT w B cb X fv pl res sc d l r) := by
  obtain ⟨ae, ce, ab, cq, al, cl, ac, cc, rfl, hre, hrb, hrl, hrc⟩ := anS_parts hs
  have hkb : Below w.heap.size w (w.alloc (.cells #[.int .i64 s.kind, .string ⟨s.s.toArray⟩, .string ⟨s.t.toArray⟩, .slice ae s.exprs.length ce, .slice ab s.body.length cq, .slice al s.els.length cl, .slice ac s.cases.length cc] 63)) := (Below.refl _ _).alloc (Nat.le_refl _) _
  have HC : Hid (_) := h.add hkb
  have HK : Hid (KX X X w (w.alloc (.cells #[.int .i64 s.kind, .string ⟨s.s.toArray⟩, .string ⟨s.t.toArray⟩, .slice ae s.exprs.length ce, .slice ab s.body.length cq, .slice al s.els.length cl, .slice ac s.cases.length cc] 63))) := KX.of_below hkb
  have HB1 : Hid (Below B w (w.alloc (.cells #[.int .i64 s.kind, .string ⟨s.s.toArray⟩, .string ⟨s.t.toArray⟩, .slice ae s.exprs.length ce, .slice ab s.body.length cq, .slice al s.els.length cl, .slice ac s.cases.length cc] 63))) := h.bel (KX.of_below (X := X) hkb)
  have hNX : Hid (w.heap.size ∉ X) := fun hm => by have := (h.chk.low _ hm).2; omega
  have hblk := heap_alloc_new w (.cells #[.int .i64 s.kind, .string ⟨s.s.toArray⟩, .string ⟨s.t.toArray⟩, .slice ae s.exprs.length ce, .slice ab s.body.length cq, .slice al s.els.length cl, .slice ac s.cases.length cc] 63)
  obtain ⟨q0, q2, q4, q5, qz⟩ := (h.add hkb).chk.cells
  have hcb := h.chk.cblt
  unfold leaveT at hr
  rcases h0 : (res == 0) with _ | _
  · rw [h0] at hr
    simp only [Bool.false_eq_true, if_false] at hr
    rcases h1 : (((s.exprs.length : Nat) : Int) != 1) with _ | _
    · rw [h1] at hr
      simp only [Bool.false_eq_true, if_false] at hr
      have hlen : s.exprs.length = 1 := by simp at h1; omega
      rcases hx : s.exprs[0]? with _ | x
      · rw [hx] at hr; cases hr
      · rw [hx] at hr
        simp only at hr
        have hbd : Below B w (w.alloc (.cells #[.int .i64 s.kind, .string ⟨s.s.toArray⟩, .string ⟨s.t.toArray⟩, .slice ae s.exprs.length ce, .slice ab s.body.length cq, .slice al s.els.length cl, .slice ac s.cases.length cc] 63)).drew := HB1.out.trans (Below.refl _ _).drew
        obtain ⟨g, y0, y1, y2, y3, l3, c3, rfl, _, hAx, p0, p1, p2, p3, hgB⟩ := row_first hre 0 hx hbd
        simp only [Nat.zero_mul, Nat.zero_add] at p0 p1 p2 p3
        have HCd : Hid (_) := HC.out.add (Below.refl _ _).drew
        have HAX : Hid (_) := hAx
        have HR : Hid (_) := hr
        have hBs := HC.out.bs
        have hgl : g < w.heap.size := by have := h.bs; omega
        have hlenI : (0 : Int) < (s.exprs.length : Int) := by omega
        clear hr hAx hre hrb hrl hrc hs hkb h hbd hblk q4 q5 qz hBs hlen
        go_enter Tryz.func69, Tryz.ntmps69
        go_wp2_with fail
        go_region_with (go_at_call 82; refine (want_any hE _ _ _ _ _ _ _ HCd.out HAX.out HR.out).mono ?_; rintro e w1 ⟨rfl, hc1, hk1⟩)
        all_goals
          have HC1 : Hid (_) := hc1
          have HK1 : Hid (_) := hk1
          clear hc1 hk1
          go_wp2_with fail
          go_ret
          exact ⟨rfl, X, HC1.out, (HK.out.drew).trans HK1.out⟩
    · rw [h1] at hr
      cases hr
      clear hre hrb hrl hrc hs hkb h hblk q4 q5 qz
      go_enter Tryz.func69, Tryz.ntmps69
      go_wp2_with fail
      go_ret
      exact ⟨rfl, X, HC.out.chk, HK.out⟩
  · rw [h0] at hr
    simp only [if_true] at hr
    rcases h1 : (((s.exprs.length : Nat) : Int) != 0) with _ | _
    all_goals
      rw [h1] at hr
      cases hr
      clear hre hrb hrl hrc hs hkb h hblk q4 q5 qz
      go_enter Tryz.func69, Tryz.ntmps69
      go_wp2_with fail
      go_ret
      exact ⟨rfl, X, HC.out.chk, HK.out⟩

def letT (E : Nat → Ex → Option (Int × Int)) (D : DataW Unit) (d : Nat) (s : St) : Option (Int × DataW Unit) :=
  if 1000000 < s.s.length then none else if 1000000 < Maps.size D then none else
  match s.exprs[0]? with
  | none => none
  | some x => match valT (E d x) with
    | none => none
    | some p => if p.2 != 0 then some (p.2, D) else some (declT D s.s p.1, declD D s.s p.1)

def setT (E : Nat → Ex → Option (Int × Int)) (scs : List (DataW Unit)) (d : Nat) (s : St) : Option Int :=
  if 1000000 < s.s.length then none else
  match s.exprs[0]? with
  | none => none
  | some x => match valT (E d x) with
    | none => none
    | some p => if p.2 != 0 then some p.2 else some (wantVarT scs s.s [p.1])

set_option maxHeartbeats 2000000 in
set_option maxRecDepth 20000 in
theorem changing_let {B cb : Nat} {fv : Value} {fs : List Fn'} {pl : DataW Unit} {res : Int} {sc : List (DataW Unit)} {D : DataW Unit} {l : Nat} {E : Nat → Ex → Option (Int × Int)} (hE : SaidX B cb fv fs pl res (sc ++ [D]) l E)
    (w : World) (X : List Nat) (d : Nat) (v : Value) (s : St) (r : Int × DataW Unit) (h : Ctx w B cb X fv fs pl res (sc ++ [D]) d l) (hs : AnS (fun g => g < B) w v s) (hk : s.kind = 1) (hr : letT E D d s = some r) :
    Calls Tryz.prog 73 #[.pointer (some ⟨cb, 0, none⟩), v] w (PostT w B cb X fv pl res (sc ++ [r.2]) d l r.1) := by
  obtain ⟨ae, ce, ab, cq, al, cl, ac, cc, rfl, hre, hrb, hrl, hrc⟩ := anS_parts hs
  have hkb : Below w.heap.size w (w.alloc (.cells #[.int .i64 s.kind, .string ⟨s.s.toArray⟩, .string ⟨s.t.toArray⟩, .slice ae s.exprs.length ce, .slice ab s.body.length cq, .slice al s.els.length cl, .slice ac s.cases.length cc] 63)) := (Below.refl _ _).alloc (Nat.le_refl _) _
  have HC : Hid (_) := h.add hkb
  have HK : Hid (KX X X w (w.alloc (.cells #[.int .i64 s.kind, .string ⟨s.s.toArray⟩, .string ⟨s.t.toArray⟩, .slice ae s.exprs.length ce, .slice ab s.body.length cq, .slice al s.els.length cl, .slice ac s.cases.length cc] 63))) := KX.of_below hkb
  have HB1 : Hid (Below B w (w.alloc (.cells #[.int .i64 s.kind, .string ⟨s.s.toArray⟩, .string ⟨s.t.toArray⟩, .slice ae s.exprs.length ce, .slice ab s.body.length cq, .slice al s.els.length cl, .slice ac s.cases.length cc] 63))) := h.bel (KX.of_below (X := X) hkb)
  have hNX : Hid (w.heap.size ∉ X) := fun hm => by have := (h.chk.low _ hm).2; omega
  have hblk := heap_alloc_new w (.cells #[.int .i64 s.kind, .string ⟨s.s.toArray⟩, .string ⟨s.t.toArray⟩, .slice ae s.exprs.length ce, .slice ab s.body.length cq, .slice al s.els.length cl, .slice ac s.cases.length cc] 63)
  unfold letT at hr
  by_cases hl1 : 1000000 < s.s.length
  · rw [if_pos hl1] at hr; cases hr
  rw [if_neg hl1] at hr
  by_cases hl2 : 1000000 < Maps.size D
  · rw [if_pos hl2] at hr; cases hr
  rw [if_neg hl2] at hr
  rcases hx : s.exprs[0]? with _ | x
  · rw [hx] at hr; cases hr
  · rw [hx] at hr
    simp only at hr
    rcases hq : valT (E d x) with _ | ⟨t, m⟩
    · rw [hq] at hr; cases hr
    · rw [hq] at hr
      simp only at hr
      obtain ⟨g, y0, y1, y2, y3, l3, c3, rfl, _, hAx, p0, p1, p2, p3, hgB⟩ := row_first hre 0 hx HB1.out
      simp only [Nat.zero_mul, Nat.zero_add] at p0 p1 p2 p3
      have hlen : 0 < s.exprs.length := (List.getElem?_eq_some_iff.1 hx).1
      have hlenI : (0 : Int) < (s.exprs.length : Int) := by omega
      have HAX : Hid (_) := hAx
      have HR : Hid (_) := hr
      have HBLK : Hid (_) := hblk
      have hgl : g < w.heap.size := by have := h.bs; omega
      rw [hk] at HC HK HB1 HBLK HAX p0 p1 p2 p3 ⊢
      clear hr hAx hre hrb hrl hrc hs hkb h hblk
      go_enter Tryz.func73, Tryz.ntmps73
      go_wp2_with fail
      refine (value_any hE _ _ _ _ _ _ HC.out HAX.out hq).mono ?_
      rintro e w1 ⟨rfl, hc1, hk1⟩
      have hb1 := blk_kx hk1 hNX.out HBLK.out
      have cs1 := cells7 hb1
      have HC1 : Hid (_) := HC.out.next hc1 hk1
      have HK1 : Hid (KX X X w w1) := HK.out.trans hk1
      clear hc1 hk1 hb1
      unfold tyE
      rcases hm : (m != 0) with _ | _
      · have hr := HR.out
        rw [hm] at hr
        cases hr
        go_wp2_with fail
        refine (declare_any _ B cb X fv pl res sc D d l s.s t HC1.out.chk HC1.out.tab (by omega) (by omega)).mono ?_
        rintro e w2 ⟨rfl, hc2, hk2⟩
        have HC2 : Hid (_) := hc2
        have HK2 : Hid (_) := hk2
        clear hc2 hk2
        go_wp2_with fail
        go_ret
        exact ⟨rfl, X, HC2.out, HK1.out.trans HK2.out⟩
      · have hr := HR.out
        rw [hm] at hr
        cases hr
        go_wp2_with fail
        go_ret
        exact ⟨rfl, X, HC1.out.chk, HK1.out⟩

set_option maxHeartbeats 2000000 in
set_option maxRecDepth 20000 in
theorem changing_set {B cb : Nat} {fv : Value} {fs : List Fn'} {pl : DataW Unit} {res : Int} {sc : List (DataW Unit)} {l : Nat} {E : Nat → Ex → Option (Int × Int)} (hE : SaidX B cb fv fs pl res sc l E)
    (w : World) (X : List Nat) (d : Nat) (v : Value) (s : St) (r : Int) (h : Ctx w B cb X fv fs pl res sc d l) (hs : AnS (fun g => g < B) w v s) (hk : s.kind = 2) (hr : setT E sc d s = some r) :
    Calls Tryz.prog 73 #[.pointer (some ⟨cb, 0, none⟩), v] w (PostT w B cb X fv pl res sc d l r) := by
  obtain ⟨ae, ce, ab, cq, al, cl, ac, cc, rfl, hre, hrb, hrl, hrc⟩ := anS_parts hs
  have hkb : Below w.heap.size w (w.alloc (.cells #[.int .i64 s.kind, .string ⟨s.s.toArray⟩, .string ⟨s.t.toArray⟩, .slice ae s.exprs.length ce, .slice ab s.body.length cq, .slice al s.els.length cl, .slice ac s.cases.length cc] 63)) := (Below.refl _ _).alloc (Nat.le_refl _) _
  have HC : Hid (_) := h.add hkb
  have HK : Hid (KX X X w (w.alloc (.cells #[.int .i64 s.kind, .string ⟨s.s.toArray⟩, .string ⟨s.t.toArray⟩, .slice ae s.exprs.length ce, .slice ab s.body.length cq, .slice al s.els.length cl, .slice ac s.cases.length cc] 63))) := KX.of_below hkb
  have HB1 : Hid (Below B w (w.alloc (.cells #[.int .i64 s.kind, .string ⟨s.s.toArray⟩, .string ⟨s.t.toArray⟩, .slice ae s.exprs.length ce, .slice ab s.body.length cq, .slice al s.els.length cl, .slice ac s.cases.length cc] 63))) := h.bel (KX.of_below (X := X) hkb)
  have hNX : Hid (w.heap.size ∉ X) := fun hm => by have := (h.chk.low _ hm).2; omega
  have hblk := heap_alloc_new w (.cells #[.int .i64 s.kind, .string ⟨s.s.toArray⟩, .string ⟨s.t.toArray⟩, .slice ae s.exprs.length ce, .slice ab s.body.length cq, .slice al s.els.length cl, .slice ac s.cases.length cc] 63)
  unfold setT at hr
  by_cases hl1 : 1000000 < s.s.length
  · rw [if_pos hl1] at hr; cases hr
  rw [if_neg hl1] at hr
  rcases hx : s.exprs[0]? with _ | x
  · rw [hx] at hr; cases hr
  · rw [hx] at hr
    simp only at hr
    rcases hq : valT (E d x) with _ | ⟨t, m⟩
    · rw [hq] at hr; cases hr
    · rw [hq] at hr
      simp only at hr
      obtain ⟨g, y0, y1, y2, y3, l3, c3, rfl, _, hAx, p0, p1, p2, p3, hgB⟩ := row_first hre 0 hx HB1.out
      simp only [Nat.zero_mul, Nat.zero_add] at p0 p1 p2 p3
      have hlen : 0 < s.exprs.length := (List.getElem?_eq_some_iff.1 hx).1
      have hlenI : (0 : Int) < (s.exprs.length : Int) := by omega
      have HAX : Hid (_) := hAx
      have HR : Hid (_) := hr
      have HBLK : Hid (_) := hblk
      have hgl : g < w.heap.size := by have := h.bs; omega
      rw [hk] at HC HK HB1 HBLK HAX p0 p1 p2 p3 ⊢
      clear hr hAx hre hrb hrl hrc hs hkb h hblk
      go_enter Tryz.func73, Tryz.ntmps73
      go_wp2_with fail
      refine (value_any hE _ _ _ _ _ _ HC.out HAX.out hq).mono ?_
      rintro e w1 ⟨rfl, hc1, hk1⟩
      have hb1 := blk_kx hk1 hNX.out HBLK.out
      have cs1 := cells7 hb1
      have HC1 : Hid (_) := HC.out.next hc1 hk1
      have HK1 : Hid (KX X X w w1) := HK.out.trans hk1
      clear hc1 hk1 hb1
      unfold tyE
      rcases hm : (m != 0) with _ | _
      · have hr := HR.out
        rw [hm] at hr
        cases hr
        have hba : Below w1.heap.size w1 (w1.alloc (.cells #[.int .i64 t] 3)) := (Below.refl _ _).alloc (Nat.le_refl _) _
        have HCa : Hid (_) := HC1.out.add hba
        have HKa : Hid (KX X X w1 (w1.alloc (.cells #[.int .i64 t] 3))) := KX.of_below hba
        have HI : Hid (IntsAt (w1.alloc (.cells #[.int .i64 t] 3)) (.slice (some ⟨w1.heap.size, 0, none⟩) 1 1) [t]) := by
          refine ⟨_, _, rfl, fun i hi => ⟨w1.heap.size, rfl, ?_⟩⟩
          have : i = 0 := by simp at hi; omega
          subst this
          have := heap_alloc_new w1 (.cells #[.int .i64 t] 3)
          simp only [World.cell?, this]
          rfl
        clear hba
        go_wp2_with fail
        refine (wantVar_any _ B cb X fv pl res sc d l s.s _ [t] HCa.out.chk (by omega) HI.out (by simp)).mono ?_
        rintro e w2 ⟨rfl, hw2⟩
        have hw2' := hw2.symm
        subst hw2'
        go_wp2_with fail
        go_ret
        exact ⟨rfl, X, HCa.out.chk, HK1.out.trans HKa.out⟩
      · have hr := HR.out
        rw [hm] at hr
        cases hr
        go_wp2_with fail
        go_ret
        exact ⟨rfl, X, HC1.out.chk, HK1.out⟩

end Go.Proofs.YtbpnfoihonehgabGreatDoor
