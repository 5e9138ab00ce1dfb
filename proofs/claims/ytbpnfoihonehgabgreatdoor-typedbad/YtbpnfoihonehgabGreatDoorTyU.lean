/-
  Statements that range.
-/
import Derived.Test.YtbpnfoihonehgabGreatDoorTyT
namespace Go.Proofs.YtbpnfoihonehgabGreatDoor
open Go.RowKit Go.Maps
set_option linter.unusedSimpArgs false
set_option linter.unusedVariables false

def declsT (Bm : List (DataW Unit) → Nat → Nat → List St → Option Int) (scs : List (DataW Unit)) (d l : Nat) (body : List St) : DataW Unit → List (List UInt8) → Option Int
  | D, [] => loopT Bm (scs ++ [D]) d l body
  | D, nm :: ns => if 1000000 < nm.length then none else if 1000000 < Maps.size D then none else if declT D nm 1 != 0 then some (declT D nm 1) else declsT Bm scs d l body (declD D nm 1) ns

def rangeInT (Bm : List (DataW Unit) → Nat → Nat → List St → Option Int) (scs : List (DataW Unit)) (d l : Nat) (s : St) : Option Int := declsT Bm scs d l s.body (.map []) [s.s, s.t]

theorem index_0 (a b : ByteArray) (w : World) : (Instr.index 139 (.agg #[.string a, .string b]) (.int .i64 0)).run Tryz.prog w = .ok (.string a) w := by kernel_rfl
theorem index_1 (a b : ByteArray) (w : World) : (Instr.index 139 (.agg #[.string a, .string b]) (.int .i64 1)).run Tryz.prog w = .ok (.string b) w := by kernel_rfl

set_option maxHeartbeats 4000000 in
set_option maxRecDepth 20000 in
theorem rangeIn_any {B cb : Nat} {fv : Value} {fs : List Fn'} {pl : DataW Unit} {res : Int} {Bm : List (DataW Unit) → Nat → Nat → List St → Option Int} (hB : SaidBk B cb fv fs pl res Bm)
    (w : World) (X : List Nat) (sc : List (DataW Unit)) (d l lb cx : Nat) (s : St) (r : Int) (ae : Option Addr) (ce : Nat) (ab : Option Addr) (cq : Nat) (al : Option Addr) (cl : Nat) (ac : Option Addr) (cc : Nat) (h : Ctx w B cb X fv fs pl res (sc ++ [.map []]) d l)
    (hrow : Row (fun g => g < B) w (AnS (fun g => g < B) w) (.slice ab s.body.length cq) s.body)
    (hlb : w.heap[lb]? = some (.cells #[.int .i64 s.kind, .string ⟨s.s.toArray⟩, .string ⟨s.t.toArray⟩, .slice ae s.exprs.length ce, .slice ab s.body.length cq, .slice al s.els.length cl, .slice ac s.cases.length cc] 63)) (hcx : w.heap[cx]? = some (.cells #[.pointer (some ⟨cb, 0, none⟩)] 55)) (hX1 : lb ∉ X) (hX2 : cx ∉ X) (hr : rangeInT Bm sc d l s = some r) :
    Calls Tryz.prog 103 #[.pointer (some ⟨lb, 0, none⟩), .pointer (some ⟨cx, 0, none⟩)] w fun e w' => e = .returned (.int .i64 r) ∧ ∃ X' D', Chk w' B cb X' fv pl res (sc ++ [D']) d l ∧ KX X X' w w' := by
  have hi0 := index_0
  have hi1 := index_1
  have c1 := cells7 hlb
  have c2 : w.cell? ⟨cx, 0, none⟩ = some (.pointer (some ⟨cb, 0, none⟩)) := by simp [World.cell?, hcx]
  have HROW : Hid (_) := hrow
  have HLB : Hid (_) := hlb
  have HCX : Hid (_) := hcx
  have HX1 : Hid (lb ∉ X) := hX1
  have HX2 : Hid (cx ∉ X) := hX2
  have HH : Hid (Ctx w B cb X fv fs pl res (sc ++ [.map []]) d l) := h
  have HR : Hid (_) := hr
  have hl1 := lt_of_block hlb
  have hl2 := lt_of_block hcx
  clear hrow hlb hcx hX1 hX2 h hr
  go_enter Tryz.func103, Tryz.ntmps103
  go_wp2_with fail
  go_loopg [11] 2 (fun g s11 wr => ∃ (i : Nat) (D : DataW Unit), s11 = .int .i64 (i : Nat) ∧ i + g = 2 ∧ Hid (Ctx wr B cb X fv fs pl res (sc ++ [D]) d l) ∧ Hid (KX X X w wr) ∧ Hid (declsT Bm sc d l s.body D ([s.s, s.t].drop i) = some r))
  case atStart => exact ⟨0, .map [], rfl, by omega, HH, KX.refl _ _, HR⟩
  case round =>
    clear HR c1 c2
    obtain ⟨i, D, rfl, hig, HC, HK, HN⟩ := hrel
    have hb1 := blk_kx HK.out HX1.out HLB.out
    have hb2 := blk_kx HK.out HX2.out HCX.out
    have c1 := cells7 hb1
    have c2 : wr.cell? ⟨cx, 0, none⟩ = some (.pointer (some ⟨cb, 0, none⟩)) := by simp [World.cell?, hb2]
    have hl3 := lt_of_block hb1
    have hl4 := lt_of_block hb2
    have hN := HN.out
    clear HN hb1 hb2
    cases gk with
    | zero =>
      have hi2 : i = 2 := by omega
      subst hi2
      have HN2 : Hid (loopT Bm (sc ++ [D]) d l s.body = some r) := hN
      have HRB : Hid (_) := RowS.bel HROW.out (HH.out.bel HK.out)
      clear hN
      go_wp2_with fail
      refine (loop_any_t hB _ _ _ _ _ _ _ _ HC.out HRB.out HN2.out).mono ?_
      rintro e w2 ⟨rfl, X2, hc2, hk2⟩
      have HC2 : Hid (_) := hc2
      have HK2 : Hid (KX X X2 w w2) := HK.out.trans hk2
      clear hc2 hk2
      go_wp2_with fail
      go_ret
      exact ⟨rfl, X2, D, HC2.out, HK2.out⟩
    | succ g =>
      have hi01 : i = 0 ∨ i = 1 := by omega
      rcases hi01 with rfl | rfl
      · skip
        rw [List.drop_eq_getElem_cons (by simp)] at hN
        simp only [declsT] at hN
        have hN : (if 1000000 < s.s.length then none else if 1000000 < Maps.size D then none else if declT D s.s 1 != 0 then some (declT D s.s 1) else declsT Bm sc d l s.body (declD D s.s 1) ([s.s, s.t].drop 1)) = some r := hN
        by_cases hl3 : 1000000 < s.s.length
        · rw [if_pos hl3] at hN; cases hN
        rw [if_neg hl3] at hN
        by_cases hl4 : 1000000 < Maps.size D
        · rw [if_pos hl4] at hN; cases hN
        rw [if_neg hl4] at hN
        have HN2 : Hid (_) := hN
        clear hN
        go_wp2_with fail
        refine (declare_any _ B cb X fv pl res sc D d l s.s 1 HC.out.chk HC.out.tab (by omega) (by omega)).mono ?_
        rintro e w2 ⟨rfl, hc2, hk2⟩
        have HC2 : Hid (_) := HC.out.next hc2 hk2
        have HK2 : Hid (KX X X w w2) := HK.out.trans hk2
        clear hc2 hk2
        rcases hm : (declT D s.s 1 != 0) with _ | _
        · have hN := HN2.out
          rw [hm] at hN
          simp only [Bool.false_eq_true, if_false] at hN
          have HN3 : Hid (_) := hN
          clear hN
          go_wp2_with fail
          go_roundg g
          case measure => omega
          case rel => exact ⟨1, _, by go_num, by omega, HC2, HK2, HN3⟩
        · have hN := HN2.out
          rw [hm] at hN
          simp only [if_true, Option.some.injEq] at hN
          have HN3 : Hid (_ = r) := hN
          clear hN
          go_wp2_with fail
          go_ret
          exact ⟨by rw [← HN3.out]; rfl, X, _, HC2.out.chk, HK2.out⟩
      · skip
        rw [List.drop_eq_getElem_cons (by simp)] at hN
        simp only [declsT] at hN
        have hN : (if 1000000 < s.t.length then none else if 1000000 < Maps.size D then none else if declT D s.t 1 != 0 then some (declT D s.t 1) else declsT Bm sc d l s.body (declD D s.t 1) ([s.s, s.t].drop 2)) = some r := hN
        by_cases hl3 : 1000000 < s.t.length
        · rw [if_pos hl3] at hN; cases hN
        rw [if_neg hl3] at hN
        by_cases hl4 : 1000000 < Maps.size D
        · rw [if_pos hl4] at hN; cases hN
        rw [if_neg hl4] at hN
        have HN2 : Hid (_) := hN
        clear hN
        go_wp2_with fail
        refine (declare_any _ B cb X fv pl res sc D d l s.t 1 HC.out.chk HC.out.tab (by omega) (by omega)).mono ?_
        rintro e w2 ⟨rfl, hc2, hk2⟩
        have HC2 : Hid (_) := HC.out.next hc2 hk2
        have HK2 : Hid (KX X X w w2) := HK.out.trans hk2
        clear hc2 hk2
        rcases hm : (declT D s.t 1 != 0) with _ | _
        · have hN := HN2.out
          rw [hm] at hN
          simp only [Bool.false_eq_true, if_false] at hN
          have HN3 : Hid (_) := hN
          clear hN
          go_wp2_with fail
          go_roundg g
          case measure => omega
          case rel => exact ⟨2, _, by go_num, by omega, HC2, HK2, HN3⟩
        · have hN := HN2.out
          rw [hm] at hN
          simp only [if_true, Option.some.injEq] at hN
          have HN3 : Hid (_ = r) := hN
          clear hN
          go_wp2_with fail
          go_ret
          exact ⟨by rw [← HN3.out]; rfl, X, _, HC2.out.chk, HK2.out⟩

theorem callRg (caps : Array Value) (w : World) : (callFunc 103 caps).run Tryz.prog w = .ok (.enter 103 caps) w := by kernel_rfl

def rangeT (E : Nat → Ex → Option (Int × Int)) (Bm : List (DataW Unit) → Nat → Nat → List St → Option Int) (scs : List (DataW Unit)) (d l : Nat) (s : St) : Option Int :=
  match s.exprs[0]? with
  | none => none
  | some x => match valT (E d x) with
    | none => none
    | some p => if p.2 != 0 then some p.2 else if p.1 == 2 then some 9 else if 100000 < scs.length then none else rangeInT Bm scs d l s

set_option maxHeartbeats 4000000 in
set_option maxRecDepth 20000 in
theorem ranging_any {B cb : Nat} {fv : Value} {fs : List Fn'} {pl : DataW Unit} {res : Int} {sc : List (DataW Unit)} {l : Nat} {E : Nat → Ex → Option (Int × Int)} {Bm : List (DataW Unit) → Nat → Nat → List St → Option Int} (hE : SaidX B cb fv fs pl res sc l E) (hB : SaidBk B cb fv fs pl res Bm)
    (w : World) (X : List Nat) (d : Nat) (v : Value) (s : St) (r : Int) (h : Ctx w B cb X fv fs pl res sc d l) (hs : AnS (fun g => g < B) w v s) (hr : rangeT E Bm sc d l s = some r) :
    Calls Tryz.prog 84 #[.pointer (some ⟨cb, 0, none⟩), v] w (PostT w B cb X fv pl res sc d l r) := by
  have hmf := mkf
  obtain ⟨ae, ce, ab, cq, al, cl, ac, cc, rfl, hre, hrb, hrl, hrc⟩ := anS_parts hs
  unfold rangeT at hr
  rcases hx : s.exprs[0]? with _ | x
  · rw [hx] at hr; cases hr
  rw [hx] at hr
  simp only at hr
  rcases hq : valT (E d x) with _ | ⟨t, m⟩
  · rw [hq] at hr; cases hr
  rw [hq] at hr
  simp only at hr
  have hkb : Below w.heap.size w ((w.alloc (.cells #[.pointer (some ⟨cb, 0, none⟩)] 55)).alloc (.cells #[.int .i64 s.kind, .string ⟨s.s.toArray⟩, .string ⟨s.t.toArray⟩, .slice ae s.exprs.length ce, .slice ab s.body.length cq, .slice al s.els.length cl, .slice ac s.cases.length cc] 63)).drew := (((Below.refl _ _).alloc (Nat.le_refl _) _).alloc (by simp) _).drew
  have hbd := h.bel (KX.of_below (X := X) hkb)
  obtain ⟨g, y0, y1, y2, y3, l3, c3, rfl, _, hAx, p0, p1, p2, p3, hgB⟩ := row_first hre 0 hx hbd
  simp only [Nat.zero_mul, Nat.zero_add] at p0 p1 p2 p3
  have HC : Hid (_) := h.add hkb
  have HK : Hid (KX X X w ((w.alloc (.cells #[.pointer (some ⟨cb, 0, none⟩)] 55)).alloc (.cells #[.int .i64 s.kind, .string ⟨s.s.toArray⟩, .string ⟨s.t.toArray⟩, .slice (some ⟨g, 0, none⟩) s.exprs.length ce, .slice ab s.body.length cq, .slice al s.els.length cl, .slice ac s.cases.length cc] 63)).drew) := KX.of_below hkb
  have hal := heap_alloc2 w (.cells #[.pointer (some ⟨cb, 0, none⟩)] 55) (.cells #[.int .i64 s.kind, .string ⟨s.s.toArray⟩, .string ⟨s.t.toArray⟩, .slice (some ⟨g, 0, none⟩) s.exprs.length ce, .slice ab s.body.length cq, .slice al s.els.length cl, .slice ac s.cases.length cc] 63)
  have HAL : Hid (_) := hal
  have HNX : Hid (w.heap.size ∉ X ∧ w.heap.size + 1 ∉ X) := ⟨fun hm => by have := (h.chk.low _ hm).2; omega, fun hm => by have := (h.chk.low _ hm).2; omega⟩
  have HRB : Hid (_) := RowS.bel hrb hbd
  have hlen : 0 < s.exprs.length := (List.getElem?_eq_some_iff.1 hx).1
  have hlenI : (0 : Int) < (s.exprs.length : Int) := by omega
  have HAX : Hid (_) := hAx
  have HR : Hid (_) := hr
  have hgl : g < w.heap.size := by have := h.bs; omega
  clear hr hAx hre hrb hrl hrc hs hkb h hbd hal hlen
  go_enter Tryz.func84, Tryz.ntmps84
  go_wp2_with fail
  go_region_with (go_at_call 71; refine (value_any hE _ _ _ _ _ _ HC.out HAX.out hq).mono ?_; rintro e w1 ⟨rfl, hc1, hk1⟩; unfold tyE)
  all_goals
    have HC1 : Hid (_) := HC.out.next hc1 hk1
    have HK1 : Hid (KX X X w w1) := HK.out.trans hk1
    have HB0 : Hid (w1.heap[w.heap.size]? = some (.cells #[.pointer (some ⟨cb, 0, none⟩)] 55)) := blk_kx hk1 HNX.out.1 HAL.out.1
    have HB1 : Hid (w1.heap[w.heap.size + 1]? = some (.cells #[.int .i64 s.kind, .string ⟨s.s.toArray⟩, .string ⟨s.t.toArray⟩, .slice (some ⟨g, 0, none⟩) s.exprs.length ce, .slice ab s.body.length cq, .slice al s.els.length cl, .slice ac s.cases.length cc] 63)) := blk_kx hk1 HNX.out.2 HAL.out.2
    have HRB1 : Hid (_) := RowS.bel HRB.out (HC.out.bel hk1)
    have cx1 : w1.cell? ⟨w.heap.size, 0, none⟩ = some (.pointer (some ⟨cb, 0, none⟩)) := by simp [World.cell?, HB0.out]
    have hlt0 := lt_of_block HB0.out
    have hlt1 := lt_of_block HB1.out
    clear hc1 hk1
    rcases hm : (m != 0) with _ | _
    · have hr := HR.out
      rw [hm] at hr
      simp only [Bool.false_eq_true, if_false] at hr
      rcases ht : (t == 2) with _ | _
      · rw [ht] at hr
        simp only [Bool.false_eq_true, if_false] at hr
        by_cases hb1 : 100000 < sc.length
        · rw [if_pos hb1] at hr; cases hr
        rw [if_neg hb1] at hr
        have HR2 : Hid (_) := hr
        clear hr
        go_wp2_with fail
        refine (scoped_any B cb X fv pl res sc d l 103 #[.pointer (some ⟨w.heap.size + 1, 0, none⟩), .pointer (some ⟨w.heap.size, 0, none⟩)] r _ HC1.out.chk HC1.out.bs (by omega) (callRg _) ?_).mono ?_
        · intro w2 X2 hk2 hc2
          exact rangeIn_any hB w2 X2 sc d l (w.heap.size + 1) w.heap.size s r _ _ _ _ _ _ _ _ (HC1.out.next hc2 hk2) (RowS.bel HRB1.out (HC1.out.bel hk2)) (blk_kx hk2 HNX.out.2 HB1.out) (blk_kx hk2 HNX.out.1 HB0.out) (notin_kx hk2 HNX.out.2 hlt1) (notin_kx hk2 HNX.out.1 hlt0) HR2.out
        · rintro e w3 ⟨rfl, X3, hc3, hk3⟩
          have HC3 : Hid (_) := hc3
          have HK3 : Hid (_) := hk3
          clear hc3 hk3
          go_wp2_with fail
          go_ret
          exact ⟨rfl, X3, HC3.out, HK1.out.trans HK3.out⟩
      · rw [ht] at hr
        cases hr
        go_wp2_with fail
        go_ret
        exact ⟨rfl, X, HC1.out.chk, HK1.out⟩
    · have hr := HR.out
      rw [hm] at hr
      cases hr
      go_wp2_with fail
      go_ret
      exact ⟨rfl, X, HC1.out.chk, HK1.out⟩

end Go.Proofs.YtbpnfoihonehgabGreatDoor
