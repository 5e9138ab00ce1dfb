/-
  Statements that change a part of a variable; and Switch.
-/
import Derived.Test.YtbpnfoihonehgabGreatDoorTyS
namespace Go.Proofs.YtbpnfoihonehgabGreatDoor
open Go.RowKit Go.Maps
set_option linter.unusedSimpArgs false
set_option linter.unusedVariables false

def wantsT (E : Nat → Ex → Option (Int × Int)) (d : Nat) : List Ex → Option Int
  | [] => some 0
  | x :: xs => thenT (wantT (E d x) 1) (wantsT E d xs)

def putT (E : Nat → Ex → Option (Int × Int)) (scs : List (DataW Unit)) (d : Nat) (s : St) (ts : List Int) : Option Int :=
  if 1000000 < s.s.length then none else if 1000000 < s.exprs.length then none else thenT (wantsT E d s.exprs) (some (wantVarT scs s.s ts))

set_option maxHeartbeats 4000000 in
set_option maxRecDepth 20000 in
theorem changing_put {B cb : Nat} {fv : Value} {fs : List Fn'} {pl : DataW Unit} {res : Int} {sc : List (DataW Unit)} {l : Nat} {E : Nat → Ex → Option (Int × Int)} (hE : SaidX B cb fv fs pl res sc l E)
    (w : World) (X : List Nat) (d : Nat) (v : Value) (s : St) (r : Int) (h : Ctx w B cb X fv fs pl res sc d l) (hs : AnS (fun g => g < B) w v s) (hk : s.kind = 3) (hr : putT E sc d s [4, 5] = some r) :
    Calls Tryz.prog 73 #[.pointer (some ⟨cb, 0, none⟩), v] w (PostT w B cb X fv pl res sc d l r) := by
  obtain ⟨ae, ce, ab, cq, al, cl, ac, cc, rfl, hre, hrb, hrl, hrc⟩ := anS_parts hs
  rw [hk]
  have hkb : Below w.heap.size w (w.alloc (.cells #[.int .i64 3, .string ⟨s.s.toArray⟩, .string ⟨s.t.toArray⟩, .slice ae s.exprs.length ce, .slice ab s.body.length cq, .slice al s.els.length cl, .slice ac s.cases.length cc] 63)) := (Below.refl _ _).alloc (Nat.le_refl _) _
  have HC : Hid (Ctx (w.alloc (.cells #[.int .i64 3, .string ⟨s.s.toArray⟩, .string ⟨s.t.toArray⟩, .slice ae s.exprs.length ce, .slice ab s.body.length cq, .slice al s.els.length cl, .slice ac s.cases.length cc] 63)) B cb X fv fs pl res sc d l) := h.add hkb
  have HK : Hid (KX X X w (w.alloc (.cells #[.int .i64 3, .string ⟨s.s.toArray⟩, .string ⟨s.t.toArray⟩, .slice ae s.exprs.length ce, .slice ab s.body.length cq, .slice al s.els.length cl, .slice ac s.cases.length cc] 63))) := KX.of_below hkb
  have HNX : Hid (w.heap.size ∉ X) := fun hm => by have := (h.chk.low _ hm).2; omega
  have HBLK : Hid (_) := heap_alloc_new w (.cells #[.int .i64 3, .string ⟨s.s.toArray⟩, .string ⟨s.t.toArray⟩, .slice ae s.exprs.length ce, .slice ab s.body.length cq, .slice al s.els.length cl, .slice ac s.cases.length cc] 63)
  have HW0 : Hid (Ctx w B cb X fv fs pl res sc d l) := h
  have HRE : Hid (Row (fun g => g < B) w (AnE (fun g => g < B) w) (.slice ae s.exprs.length ce) s.exprs) := hre
  unfold putT at hr
  by_cases hl1 : 1000000 < s.s.length
  · rw [if_pos hl1] at hr; cases hr
  rw [if_neg hl1] at hr
  by_cases hl2 : 1000000 < s.exprs.length
  · rw [if_pos hl2] at hr; cases hr
  rw [if_neg hl2] at hr
  have HR : Hid (thenT (wantsT E d (s.exprs.drop 0)) (some (wantVarT sc s.s [4, 5])) = some r) := hr
  clear hr hre hrb hrl hrc hs hkb h
  go_enter Tryz.func73, Tryz.ntmps73
  go_wp2_with fail
  go_loopg [56] s.exprs.length (fun g s56 wr => ∃ (i : Nat), s56 = .int .i64 (i : Nat) ∧ i + g = s.exprs.length ∧ Hid (Ctx wr B cb X fv fs pl res sc d l) ∧ Hid (KX X X w wr) ∧ Hid (wr.heap[w.heap.size]? = some (.cells #[.int .i64 3, .string ⟨s.s.toArray⟩, .string ⟨s.t.toArray⟩, .slice ae s.exprs.length ce, .slice ab s.body.length cq, .slice al s.els.length cl, .slice ac s.cases.length cc] 63)) ∧ Hid (thenT (wantsT E d (s.exprs.drop i)) (some (wantVarT sc s.s [4, 5])) = some r))
  case atStart => exact ⟨0, rfl, by omega, HC, HK, HBLK, HR⟩
  case round =>
    clear HC HK HBLK HR
    obtain ⟨i, rfl, hig, HC, HK, HBLK, HR⟩ := hrel
    have cs1 := cells7 HBLK.out
    have hsz := lt_of_block HBLK.out
    cases gk with
    | zero =>
      have hil : i = s.exprs.length := by omega
      have hlt : ¬ (i : Int) < (s.exprs.length : Int) := by omega
      have hltb : decide ((i : Int) < (s.exprs.length : Int)) = false := by simpa using hlt
      have hN := HR.out
      rw [hil, List.drop_length] at hN
      have HR2 : Hid (wantVarT sc s.s [4, 5] = r) := by
        unfold Hid
        simpa [wantsT, thenT] using hN
      have hba : Below wr.heap.size wr (wr.alloc (.cells #[.int .i64 4, .int .i64 5] 3)) := (Below.refl _ _).alloc (Nat.le_refl _) _
      have HCa : Hid (_) := HC.out.add hba
      have HKa : Hid (KX X X wr (wr.alloc (.cells #[.int .i64 4, .int .i64 5] 3))) := KX.of_below hba
      have HI : Hid (IntsAt (wr.alloc (.cells #[.int .i64 4, .int .i64 5] 3)) (.slice (some ⟨wr.heap.size, 0, none⟩) 2 2) [4, 5]) := by
        refine ⟨_, _, rfl, fun j hj => ⟨wr.heap.size, rfl, ?_⟩⟩
        have h9 := heap_alloc_new wr (.cells #[.int .i64 4, .int .i64 5] 3)
        have : j = 0 ∨ j = 1 := by simp at hj; omega
        simp only [World.cell?, h9]
        rcases this with rfl | rfl <;> rfl
      clear hN hba
      go_wp2_with fail
      refine (wantVar_any _ B cb X fv pl res sc d l s.s _ [4, 5] HCa.out.chk (by omega) HI.out (by simp)).mono ?_
      rintro e w2 ⟨rfl, hw2⟩
      have hw2' := hw2.symm
      subst hw2'
      go_wp2_with fail
      go_ret
      exact ⟨by rw [HR2.out]; rfl, X, HCa.out.chk, HK.out.trans HKa.out⟩
    | succ g =>
      have hlt : (i : Int) < (s.exprs.length : Int) := by omega
      have hltb : decide ((i : Int) < (s.exprs.length : Int)) = true := by simpa using hlt
      have hilt : i < s.exprs.length := by omega
      have hget : s.exprs[i]? = some s.exprs[i] := List.getElem?_eq_getElem hilt
      have hN := HR.out
      rw [List.drop_eq_getElem_cons hilt] at hN
      simp only [wantsT] at hN
      generalize s.exprs[i] = x at hN hget
      obtain ⟨ga, y0, y1, y2, y3, l3, c3, rfl, _, hAx, p0, p1, p2, p3, hgB⟩ := row_first HRE.out i hget (HW0.out.bel HK.out)
      have hgal : ga < wr.heap.size := World.block_lt_of_cell? wr ⟨ga, i * 4, none⟩ p0
      rcases hq : wantT (E d x) 1 with _ | m
      · rw [hq] at hN; cases hN
      · rw [hq] at hN
        have HN : Hid (_) := hN
        have hka : Below wr.heap.size wr (wr.alloc (.cells #[.int .i64 y0, .int .i64 y1, .string y2, .slice y3 l3 c3] 116)) := (Below.refl _ _).alloc (Nat.le_refl _) _
        have HAX : Hid (_) := hAx.bel (HC.out.bel (KX.of_below (X := X) hka))
        have HCA : Hid (_) := HC.out.add hka
        have HKA : Hid (KX X X w (wr.alloc (.cells #[.int .i64 y0, .int .i64 y1, .string y2, .slice y3 l3 c3] 116))) := HK.out.trans (KX.of_below hka)
        have HBA : Hid (_) := (hka.block _ hsz).trans HBLK.out
        clear hN hAx hka hget
        go_wp2_with fail
        clear p0 p1 p2 p3 cs1
        refine (want_any hE _ _ _ _ _ _ _ HCA.out HAX.out hq).mono ?_
        rintro e w5 ⟨rfl, hc5, hk5⟩
        have HC5 : Hid (_) := HCA.out.next hc5 hk5
        have HK5 : Hid (KX X X w w5) := HKA.out.trans hk5
        have HB5 : Hid (_) := blk_kx hk5 HNX.out HBA.out
        clear hc5 hk5
        rcases hm : (m != 0) with _ | _
        · have hN := HN.out
          simp only [thenT, hm, Bool.false_eq_true, if_false] at hN
          have HN2 : Hid (_) := hN
          clear hN
          go_wp2_with fail
          go_roundg g
          case measure => omega
          case rel => exact ⟨i + 1, by go_num, by omega, HC5, HK5, HB5, HN2⟩
        · have hN := HN.out
          simp only [thenT, hm, if_true, Option.some.injEq] at hN
          have HN2 : Hid (m = r) := hN
          clear hN
          go_wp2_with fail
          go_ret
          exact ⟨by rw [HN2.out]; rfl, X, HC5.out.chk, HK5.out⟩

set_option maxHeartbeats 4000000 in
set_option maxRecDepth 20000 in
theorem changing_delete {B cb : Nat} {fv : Value} {fs : List Fn'} {pl : DataW Unit} {res : Int} {sc : List (DataW Unit)} {l : Nat} {E : Nat → Ex → Option (Int × Int)} (hE : SaidX B cb fv fs pl res sc l E)
    (w : World) (X : List Nat) (d : Nat) (v : Value) (s : St) (r : Int) (h : Ctx w B cb X fv fs pl res sc d l) (hs : AnS (fun g => g < B) w v s) (hk : s.kind = 12) (hr : putT E sc d s [5] = some r) :
    Calls Tryz.prog 73 #[.pointer (some ⟨cb, 0, none⟩), v] w (PostT w B cb X fv pl res sc d l r) := by
  obtain ⟨ae, ce, ab, cq, al, cl, ac, cc, rfl, hre, hrb, hrl, hrc⟩ := anS_parts hs
  rw [hk]
  have hkb : Below w.heap.size w (w.alloc (.cells #[.int .i64 12, .string ⟨s.s.toArray⟩, .string ⟨s.t.toArray⟩, .slice ae s.exprs.length ce, .slice ab s.body.length cq, .slice al s.els.length cl, .slice ac s.cases.length cc] 63)) := (Below.refl _ _).alloc (Nat.le_refl _) _
  have HC : Hid (Ctx (w.alloc (.cells #[.int .i64 12, .string ⟨s.s.toArray⟩, .string ⟨s.t.toArray⟩, .slice ae s.exprs.length ce, .slice ab s.body.length cq, .slice al s.els.length cl, .slice ac s.cases.length cc] 63)) B cb X fv fs pl res sc d l) := h.add hkb
  have HK : Hid (KX X X w (w.alloc (.cells #[.int .i64 12, .string ⟨s.s.toArray⟩, .string ⟨s.t.toArray⟩, .slice ae s.exprs.length ce, .slice ab s.body.length cq, .slice al s.els.length cl, .slice ac s.cases.length cc] 63))) := KX.of_below hkb
  have HNX : Hid (w.heap.size ∉ X) := fun hm => by have := (h.chk.low _ hm).2; omega
  have HBLK : Hid (_) := heap_alloc_new w (.cells #[.int .i64 12, .string ⟨s.s.toArray⟩, .string ⟨s.t.toArray⟩, .slice ae s.exprs.length ce, .slice ab s.body.length cq, .slice al s.els.length cl, .slice ac s.cases.length cc] 63)
  have HW0 : Hid (Ctx w B cb X fv fs pl res sc d l) := h
  have HRE : Hid (Row (fun g => g < B) w (AnE (fun g => g < B) w) (.slice ae s.exprs.length ce) s.exprs) := hre
  unfold putT at hr
  by_cases hl1 : 1000000 < s.s.length
  · rw [if_pos hl1] at hr; cases hr
  rw [if_neg hl1] at hr
  by_cases hl2 : 1000000 < s.exprs.length
  · rw [if_pos hl2] at hr; cases hr
  rw [if_neg hl2] at hr
  have HR : Hid (thenT (wantsT E d (s.exprs.drop 0)) (some (wantVarT sc s.s [5])) = some r) := hr
  clear hr hre hrb hrl hrc hs hkb h
  go_enter Tryz.func73, Tryz.ntmps73
  go_wp2_with fail
  go_loopg [56] s.exprs.length (fun g s56 wr => ∃ (i : Nat), s56 = .int .i64 (i : Nat) ∧ i + g = s.exprs.length ∧ Hid (Ctx wr B cb X fv fs pl res sc d l) ∧ Hid (KX X X w wr) ∧ Hid (wr.heap[w.heap.size]? = some (.cells #[.int .i64 12, .string ⟨s.s.toArray⟩, .string ⟨s.t.toArray⟩, .slice ae s.exprs.length ce, .slice ab s.body.length cq, .slice al s.els.length cl, .slice ac s.cases.length cc] 63)) ∧ Hid (thenT (wantsT E d (s.exprs.drop i)) (some (wantVarT sc s.s [5])) = some r))
  case atStart => exact ⟨0, rfl, by omega, HC, HK, HBLK, HR⟩
  case round =>
    clear HC HK HBLK HR
    obtain ⟨i, rfl, hig, HC, HK, HBLK, HR⟩ := hrel
    have cs1 := cells7 HBLK.out
    have hsz := lt_of_block HBLK.out
    cases gk with
    | zero =>
      have hil : i = s.exprs.length := by omega
      have hlt : ¬ (i : Int) < (s.exprs.length : Int) := by omega
      have hltb : decide ((i : Int) < (s.exprs.length : Int)) = false := by simpa using hlt
      have hN := HR.out
      rw [hil, List.drop_length] at hN
      have HR2 : Hid (wantVarT sc s.s [5] = r) := by
        unfold Hid
        simpa [wantsT, thenT] using hN
      have hba : Below wr.heap.size wr (wr.alloc (.cells #[.int .i64 5] 3)) := (Below.refl _ _).alloc (Nat.le_refl _) _
      have HCa : Hid (_) := HC.out.add hba
      have HKa : Hid (KX X X wr (wr.alloc (.cells #[.int .i64 5] 3))) := KX.of_below hba
      have HI : Hid (IntsAt (wr.alloc (.cells #[.int .i64 5] 3)) (.slice (some ⟨wr.heap.size, 0, none⟩) 1 1) [5]) := by
        refine ⟨_, _, rfl, fun j hj => ⟨wr.heap.size, rfl, ?_⟩⟩
        have h9 := heap_alloc_new wr (.cells #[.int .i64 5] 3)
        have : j = 0 := by simp at hj; omega
        simp only [World.cell?, h9]
        rcases this with rfl
        rfl
      clear hN hba
      go_wp2_with fail
      refine (wantVar_any _ B cb X fv pl res sc d l s.s _ [5] HCa.out.chk (by omega) HI.out (by simp)).mono ?_
      rintro e w2 ⟨rfl, hw2⟩
      have hw2' := hw2.symm
      subst hw2'
      go_wp2_with fail
      go_ret
      exact ⟨by rw [HR2.out]; rfl, X, HCa.out.chk, HK.out.trans HKa.out⟩
    | succ g =>
      have hlt : (i : Int) < (s.exprs.length : Int) := by omega
      have hltb : decide ((i : Int) < (s.exprs.length : Int)) = true := by simpa using hlt
      have hilt : i < s.exprs.length := by omega
      have hget : s.exprs[i]? = some s.exprs[i] := List.getElem?_eq_getElem hilt
      have hN := HR.out
      rw [List.drop_eq_getElem_cons hilt] at hN
      simp only [wantsT] at hN
      generalize s.exprs[i] = x at hN hget
      obtain ⟨ga, y0, y1, y2, y3, l3, c3, rfl, _, hAx, p0, p1, p2, p3, hgB⟩ := row_first HRE.out i hget (HW0.out.bel HK.out)
      have hgal : ga < wr.heap.size := World.block_lt_of_cell? wr ⟨ga, i * 4, none⟩ p0
      rcases hq : wantT (E d x) 1 with _ | m
      · rw [hq] at hN; cases hN
      · rw [hq] at hN
        have HN : Hid (_) := hN
        have hka : Below wr.heap.size wr (wr.alloc (.cells #[.int .i64 y0, .int .i64 y1, .string y2, .slice y3 l3 c3] 116)) := (Below.refl _ _).alloc (Nat.le_refl _) _
        have HAX : Hid (_) := hAx.bel (HC.out.bel (KX.of_below (X := X) hka))
        have HCA : Hid (_) := HC.out.add hka
        have HKA : Hid (KX X X w (wr.alloc (.cells #[.int .i64 y0, .int .i64 y1, .string y2, .slice y3 l3 c3] 116))) := HK.out.trans (KX.of_below hka)
        have HBA : Hid (_) := (hka.block _ hsz).trans HBLK.out
        clear hN hAx hka hget
        go_wp2_with fail
        clear p0 p1 p2 p3 cs1
        refine (want_any hE _ _ _ _ _ _ _ HCA.out HAX.out hq).mono ?_
        rintro e w5 ⟨rfl, hc5, hk5⟩
        have HC5 : Hid (_) := HCA.out.next hc5 hk5
        have HK5 : Hid (KX X X w w5) := HKA.out.trans hk5
        have HB5 : Hid (_) := blk_kx hk5 HNX.out HBA.out
        clear hc5 hk5
        rcases hm : (m != 0) with _ | _
        · have hN := HN.out
          simp only [thenT, hm, Bool.false_eq_true, if_false] at hN
          have HN2 : Hid (_) := hN
          clear hN
          go_wp2_with fail
          go_roundg g
          case measure => omega
          case rel => exact ⟨i + 1, by go_num, by omega, HC5, HK5, HB5, HN2⟩
        · have hN := HN.out
          simp only [thenT, hm, if_true, Option.some.injEq] at hN
          have HN2 : Hid (m = r) := hN
          clear hN
          go_wp2_with fail
          go_ret
          exact ⟨by rw [HN2.out]; rfl, X, HC5.out.chk, HK5.out⟩

set_option maxHeartbeats 2000000 in
set_option maxRecDepth 20000 in
theorem branching_switch {B cb : Nat} {fv : Value} {fs : List Fn'} {pl : DataW Unit} {res : Int} {sc : List (DataW Unit)} {l : Nat} {E : Nat → Ex → Option (Int × Int)} {Bm : List (DataW Unit) → Nat → Nat → List St → Option Int} (hE : SaidX B cb fv fs pl res sc l E) (hB : SaidBk B cb fv fs pl res Bm)
    (w : World) (X : List Nat) (d : Nat) (v : Value) (s : St) (r : Int) (h : Ctx w B cb X fv fs pl res sc d l) (hs : AnS (fun g => g < B) w v s) (hk : s.kind = 7) (hr : chooseT E Bm sc d l s = some r) :
    Calls Tryz.prog 68 #[.pointer (some ⟨cb, 0, none⟩), v] w (PostT w B cb X fv pl res sc d l r) := by
  obtain ⟨ae, ce, ab, cq, al, cl, ac, cc, rfl, hre, hrb, hrl, hrc⟩ := anS_parts hs
  have hkb : Below w.heap.size w (w.alloc (.cells #[.int .i64 s.kind, .string ⟨s.s.toArray⟩, .string ⟨s.t.toArray⟩, .slice ae s.exprs.length ce, .slice ab s.body.length cq, .slice al s.els.length cl, .slice ac s.cases.length cc] 63)) := (Below.refl _ _).alloc (Nat.le_refl _) _
  have HC : Hid (_) := h.add hkb
  have HK : Hid (KX X X w (w.alloc (.cells #[.int .i64 s.kind, .string ⟨s.s.toArray⟩, .string ⟨s.t.toArray⟩, .slice ae s.exprs.length ce, .slice ab s.body.length cq, .slice al s.els.length cl, .slice ac s.cases.length cc] 63))) := KX.of_below hkb
  have HS : Hid (_) := hs.bel (h.bel (KX.of_below (X := X) hkb))
  have HR : Hid (_) := hr
  rw [hk] at HC HK HS ⊢
  clear hr hre hrb hrl hrc hs hkb h
  go_enter Tryz.func68, Tryz.ntmps68
  go_wp2_with fail
  refine (choosing_any hE hB _ _ _ _ _ _ HC.out HS.out HR.out).mono ?_
  rintro e w1 ⟨rfl, X1, hc1, hk1⟩
  have HC1 : Hid (_) := hc1
  have HK1 : Hid (_) := hk1
  clear hc1 hk1
  go_wp2_with fail
  go_ret
  exact ⟨rfl, X1, HC1.out, HK.out.trans HK1.out⟩

end Go.Proofs.YtbpnfoihonehgabGreatDoor
