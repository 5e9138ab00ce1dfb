/-
  Statements that choose: the walk.
-/
import Derived.Test.YtbpnfoihonehgabGreatDoorTyR
namespace Go.Proofs.YtbpnfoihonehgabGreatDoor
open Go.RowKit Go.Maps
set_option linter.unusedSimpArgs false
set_option linter.unusedVariables false

set_option maxHeartbeats 8000000 in
set_option maxRecDepth 20000 in
theorem choosing_any {B cb : Nat} {fv : Value} {fs : List Fn'} {pl : DataW Unit} {res : Int} {sc : List (DataW Unit)} {l : Nat} {E : Nat → Ex → Option (Int × Int)} {Bm : List (DataW Unit) → Nat → Nat → List St → Option Int} (hE : SaidX B cb fv fs pl res sc l E) (hB : SaidBk B cb fv fs pl res Bm)
    (w : World) (X : List Nat) (d : Nat) (v : Value) (s : St) (r : Int) (h : Ctx w B cb X fv fs pl res sc d l) (hs : AnS (fun g => g < B) w v s) (hr : chooseT E Bm sc d l s = some r) :
    Calls Tryz.prog 85 #[.pointer (some ⟨cb, 0, none⟩), v] w (PostT w B cb X fv pl res sc d l r) := by
  have hmm := @run_makeMap Tryz.prog
  obtain ⟨ae, ce, ab, cq, al, cl, ac, cc, rfl, hre, hrb, hrl, hrc⟩ := anS_parts hs
  have hkb : Below w.heap.size w (w.alloc (.cells #[.int .i64 s.kind, .string ⟨s.s.toArray⟩, .string ⟨s.t.toArray⟩, .slice ae s.exprs.length ce, .slice ab s.body.length cq, .slice al s.els.length cl, .slice ac s.cases.length cc] 63)) := (Below.refl _ _).alloc (Nat.le_refl _) _
  have HC : Hid (_) := h.add hkb
  have HK : Hid (KX X X w (w.alloc (.cells #[.int .i64 s.kind, .string ⟨s.s.toArray⟩, .string ⟨s.t.toArray⟩, .slice ae s.exprs.length ce, .slice ab s.body.length cq, .slice al s.els.length cl, .slice ac s.cases.length cc] 63))) := KX.of_below hkb
  have HB1 : Hid (Below B w (w.alloc (.cells #[.int .i64 s.kind, .string ⟨s.s.toArray⟩, .string ⟨s.t.toArray⟩, .slice ae s.exprs.length ce, .slice ab s.body.length cq, .slice al s.els.length cl, .slice ac s.cases.length cc] 63))) := h.bel (KX.of_below (X := X) hkb)
  have hNX : Hid (w.heap.size ∉ X) := fun hm => by have := (h.chk.low _ hm).2; omega
  have hblk := heap_alloc_new w (.cells #[.int .i64 s.kind, .string ⟨s.s.toArray⟩, .string ⟨s.t.toArray⟩, .slice ae s.exprs.length ce, .slice ab s.body.length cq, .slice al s.els.length cl, .slice ac s.cases.length cc] 63)
  have HBS : Hid (B ≤ w.heap.size) := h.bs
  have HCB : Hid (cb < w.heap.size) := h.chk.cblt
  unfold chooseT condT at hr
  rcases hx : s.exprs[0]? with _ | x
  · rw [hx] at hr; cases hr
  · rw [hx] at hr
    simp only at hr
    rcases hq : wantT (E d x) 1 with _ | m
    · rw [hq] at hr; cases hr
    · rw [hq] at hr
      simp only at hr
      obtain ⟨g, y0, y1, y2, y3, l3, c3, rfl, _, hAx, p0, p1, p2, p3, hgB⟩ := row_first hre 0 hx HB1.out
      simp only [Nat.zero_mul, Nat.zero_add] at p0 p1 p2 p3
      have hlen : 0 < s.exprs.length := (List.getElem?_eq_some_iff.1 hx).1
      have hlenI : (0 : Int) < (s.exprs.length : Int) := by omega
      have HAX : Hid (_) := hAx
      have HR : Hid (_) := hr
      have HBLK : Hid (_) := hblk
      have HRL : Hid (Row (fun g => g < B) w (AnS (fun g => g < B) w) (.slice al s.els.length cl) s.els) := hrl
      have HRC : Hid (Row (fun g => g < B) w (AnC (fun g => g < B) w) (.slice ac s.cases.length cc) s.cases) := hrc
      have hgl : g < w.heap.size := by have := h.bs; omega
      have HW0 : Hid (Ctx w B cb X fv fs pl res sc d l) := h
      clear hr hAx hre hrb hrl hrc hs hkb h hblk
      go_enter Tryz.func85, Tryz.ntmps85
      go_wp2_with fail
      refine (want_any hE _ _ _ _ _ _ _ HC.out HAX.out hq).mono ?_
      rintro e w1 ⟨rfl, hc1, hk1⟩
      have hb1 := blk_kx hk1 hNX.out HBLK.out
      have cs1 := cells7 hb1
      have hlt1 : w.heap.size < w1.heap.size := lt_of_block hb1
      have HC1 : Hid (_) := HC.out.next hc1 hk1
      have HK1 : Hid (KX X X w w1) := HK.out.trans hk1
      have HBL1 : Hid (_) := hb1
      clear hc1 hk1 hb1
      rcases hm : (m != 0) with _ | _
      · have hr := HR.out
        rw [hm] at hr
        simp only [Bool.false_eq_true, if_false] at hr
        by_cases hbig : 1000000 < s.cases.length
        · rw [if_pos hbig] at hr; cases hr
        rw [if_neg hbig] at hr
        have hka : Below w1.heap.size w1 (w1.alloc (.map #[] 0)) := (Below.refl _ _).alloc (Nat.le_refl _) _
        have HI : Hid (ChI w B cb X fv fs pl res sc d l (.cells #[.int .i64 s.kind, .string ⟨s.s.toArray⟩, .string ⟨s.t.toArray⟩, .slice (some ⟨g, 0, none⟩) s.exprs.length ce, .slice ab s.body.length cq, .slice al s.els.length cl, .slice ac s.cases.length cc] 63) w1.heap.size X (.map []) (w1.alloc (.map #[] 0))) :=
          ⟨HC1.out.add hka, HK1.out.trans (KX.of_below hka), (hka.block _ hlt1).trans HBL1.out, hNX.out, mapI_new w1, fun hm => by have := (HC1.out.chk.low _ hm).2; omega, hlt1, HCB.out, HBS.out⟩
        have HN0 : Hid (thenT (casesT Bm sc d l 0 (.map []) (s.cases.drop 0)) (Bm sc d l s.els) = some r) := hr
        have hbl : s.cases.length ≤ 1000000 := by omega
        clear hr hbig hka
        go_wp2_with fail
        clear cs1
        go_loopg [27] s.cases.length (fun g27 s27 wr => ∃ (i : Nat) (X' : List Nat) (C : DataW Unit), s27 = .int .i64 (i : Nat) ∧ i + g27 = s.cases.length ∧ Hid (ChI w B cb X fv fs pl res sc d l (.cells #[.int .i64 s.kind, .string ⟨s.s.toArray⟩, .string ⟨s.t.toArray⟩, .slice (some ⟨g, 0, none⟩) s.exprs.length ce, .slice ab s.body.length cq, .slice al s.els.length cl, .slice ac s.cases.length cc] 63) w1.heap.size X' C wr) ∧ Hid (thenT (casesT Bm sc d l i C (s.cases.drop i)) (Bm sc d l s.els) = some r))
        case atStart => exact ⟨0, X, .map [], rfl, by omega, HI, HN0⟩
        case round =>
          clear HI HN0
          obtain ⟨i, X', C, rfl, hig, HI, HN⟩ := hrel
          obtain ⟨wo, hwo⟩ : ∃ wo, wo = wr := ⟨wr, rfl⟩
          subst hwo
          have hI := HI.out
          have c0 := cells7 hI.b0
          have hsz := lt_of_block hI.b0
          cases gk with
          | zero =>
            have hil : i = s.cases.length := by omega
            have hlt : ¬ (i : Int) < (s.cases.length : Int) := by omega
            have hltb : decide ((i : Int) < (s.cases.length : Int)) = false := by simpa using hlt
            have hN := HN.out
            rw [hil, List.drop_length] at hN
            have HN2 : Hid (Bm sc d l s.els = some r) := hN
            have HRL2 : Hid (_) := RowS.bel HRL.out (HW0.out.bel hI.kx)
            clear hN
            go_wp2_with fail
            refine (hB _ _ _ _ _ _ _ _ hI.ctx HRL2.out HN2.out).mono ?_
            rintro e w2 ⟨rfl, X2, hc2, hk2⟩
            have HC2 : Hid (_) := hc2
            have HK2 : Hid (KX X X2 w w2) := hI.kx.trans hk2
            clear hc2 hk2 hI c0
            go_wp2_with fail
            go_ret
            exact ⟨rfl, X2, HC2.out, HK2.out⟩
          | succ gq =>
            have hlt : (i : Int) < (s.cases.length : Int) := by omega
            have hltb : decide ((i : Int) < (s.cases.length : Int)) = true := by simpa using hlt
            have hilt : i < s.cases.length := by omega
            have hget : s.cases[i]? = some s.cases[i] := List.getElem?_eq_getElem hilt
            have hN := HN.out
            rw [List.drop_eq_getElem_cons hilt] at hN
            simp only [casesT] at hN
            generalize s.cases[i] = cs at hN hget
            obtain ⟨ns, bs⟩ := cs
            simp only at hN
            obtain ⟨ga, ca, u, hva, hgB2, hu, hcell⟩ := Row.at HRC.out 2 anC_len i _ hget
            cases hva
            obtain ⟨uan, uay, rfl, hrn, hry⟩ := hu
            simp only at hrn hry
            obtain ⟨an, cn, rfl⟩ := hrn.slice
            obtain ⟨ay, cy, rfl⟩ := hry.slice
            have hbel : Below B w wo := HW0.out.bel hI.kx
            have q0 := hcell 0 (by decide)
            have q1 := hcell 1 (by decide)
            simp only [Value.cells, Nat.add_zero] at q0 q1
            simp at q0 q1
            rw [← hbel.cell (p := ⟨ga, i * 2, none⟩) hgB2] at q0
            rw [← hbel.cell (p := ⟨ga, i * 2 + 1, none⟩) hgB2] at q1
            have hka : Below wo.heap.size wo (wo.alloc (.cells #[.slice an ns.length cn, .slice ay bs.length cy] 66)) := (Below.refl _ _).alloc (Nat.le_refl _) _
            have HIA : Hid (ChI w B cb X fv fs pl res sc d l (.cells #[.int .i64 s.kind, .string ⟨s.s.toArray⟩, .string ⟨s.t.toArray⟩, .slice (some ⟨g, 0, none⟩) s.exprs.length ce, .slice ab s.body.length cq, .slice al s.els.length cl, .slice (some ⟨ga, 0, none⟩) s.cases.length cc] 63) w1.heap.size X' C (wo.alloc (.cells #[.slice an ns.length cn, .slice ay bs.length cy] 66))) := hI.add hka
            have HOB : Hid ((wo.alloc (.cells #[.slice an ns.length cn, .slice ay bs.length cy] 66)).heap[wo.heap.size]? = some (.cells #[.slice an ns.length cn, .slice ay bs.length cy] 66)) := heap_alloc_new wo _
            have HNX2 : Hid (wo.heap.size ∉ X' ∧ wo.heap.size ≠ w1.heap.size) := ⟨fun hm => by have := (hI.ctx.chk.low _ hm).2; omega, by have := hI.mp.lt; omega⟩
            have hgal : ga < wo.heap.size := World.block_lt_of_cell? wo ⟨ga, i * 2, none⟩ q0
            have HRN : Hid (Row (fun g => g < B) w (fun u n => u = .int .i64 n) (.slice an ns.length cn) ns) := hrn
            have HRY : Hid (Row (fun g => g < B) w (AnS (fun g => g < B) w) (.slice ay bs.length cy) bs) := hry
            clear hcell hka hbel hget hrn hry HI
            rcases hz : ((ns.length : Int) == 0) with _ | _
            · rw [hz] at hN
              simp only [Bool.false_eq_true, if_false] at hN
              by_cases hbg : 1000000 < ns.length
              · rw [if_pos hbg] at hN; cases hN
              rw [if_neg hbg] at hN
              obtain ⟨rn, hrn⟩ : ∃ rn, numsT i C ns = some rn := by
                rcases hqq : numsT i C ns with _ | rn
                · rw [hqq] at hN; cases hN
                · exact ⟨rn, rfl⟩
              rw [hrn] at hN
              have HN2 : Hid (_) := hN
              have HN3 : Hid (numsT i C (ns.drop 0) = some rn) := hrn
              have hnl : ns.length ≤ 1000000 := by omega
              clear hN hrn hbg
              go_wp2_with fail
              clear q0 q1 c0
              go_loopg [39] ns.length (fun g39 s39 wq => ∃ (j : Nat) (C2 : DataW Unit), s39 = .int .i64 (j : Nat) ∧ j + g39 = ns.length ∧ Hid (ChI w B cb X fv fs pl res sc d l (.cells #[.int .i64 s.kind, .string ⟨s.s.toArray⟩, .string ⟨s.t.toArray⟩, .slice (some ⟨g, 0, none⟩) s.exprs.length ce, .slice ab s.body.length cq, .slice al s.els.length cl, .slice (some ⟨ga, 0, none⟩) s.cases.length cc] 63) w1.heap.size X' C2 wq) ∧ Hid (wq.heap[wo.heap.size]? = some (.cells #[.slice an ns.length cn, .slice ay bs.length cy] 66)) ∧ Hid (numsT i C2 (ns.drop j) = some rn))
              case atStart => exact ⟨0, C, rfl, by omega, HIA, HOB, HN3⟩
              case round =>
                obtain ⟨j, C2, rfl, hjg, HI2, HO2, HN4⟩ := hrel
                have hI2 := HI2.out
                have co := cells2 HO2.out
                have hszo := lt_of_block HO2.out
                cases gk with
                | zero =>
                  have hjl : j = ns.length := by omega
                  have hlt2 : ¬ (j : Int) < (ns.length : Int) := by omega
                  have hltb2 : decide ((j : Int) < (ns.length : Int)) = false := by simpa using hlt2
                  have hN := HN4.out
                  rw [hjl, List.drop_length] at hN
                  simp only [numsT, Option.some.injEq] at hN
                  have hN5 := HN2.out
                  rw [← hN] at hN5
                  simp only at hN5
                  have HRY2 : Hid (_) := RowS.bel HRY.out (HW0.out.bel hI2.kx)
                  rcases hqb : Bm sc d l bs with _ | kb
                  · rw [hqb] at hN5; cases hN5
                  · rw [hqb] at hN5
                    have HN6 : Hid (_) := hN5
                    clear hN hN5
                    go_wp2_with fail
                    refine (hB _ _ _ _ _ _ _ _ hI2.ctx HRY2.out hqb).mono ?_
                    rintro e w5 ⟨rfl, X5, hc5, hk5⟩
                    have HI5 : Hid (_) := hI2.call hc5 hk5
                    clear hc5 hk5 hI2 co
                    rcases hkb : (kb != 0) with _ | _
                    · have hN := HN6.out
                      simp only [thenT, hkb, Bool.false_eq_true, if_false] at hN
                      have HN7 : Hid (_) := hN
                      clear hN
                      go_wp2_with fail
                      go_roundg gq
                      case measure => omega
                      case rel => exact ⟨i + 1, X5, C2, by go_num, by omega, HI5, HN7⟩
                    · have hN := HN6.out
                      simp only [thenT, hkb, if_true, Option.some.injEq] at hN
                      have HN7 : Hid (kb = r) := hN
                      clear hN
                      go_wp2_with fail
                      go_ret
                      exact ⟨by rw [HN7.out]; rfl, X5, HI5.out.ctx.chk, HI5.out.kx⟩
                | succ gj =>
                  have hlt2 : (j : Int) < (ns.length : Int) := by omega
                  have hltb2 : decide ((j : Int) < (ns.length : Int)) = true := by simpa using hlt2
                  have hjlt : j < ns.length := by omega
                  have hget : ns[j]? = some ns[j] := List.getElem?_eq_getElem hjlt
                  have hN := HN4.out
                  rw [List.drop_eq_getElem_cons hjlt] at hN
                  simp only [numsT] at hN
                  generalize ns[j] = n at hN hget
                  obtain ⟨gn, cn', u, hva, hgB3, hu, hcell⟩ := Row.at HRN.out 1 int_len j _ hget
                  cases hva
                  subst hu
                  have hbel : Below B w wr := HW0.out.bel hI2.kx
                  have z0 := hcell 0 (by decide)
                  simp [Value.cells] at z0
                  rw [← hbel.cell (p := ⟨gn, j, none⟩) hgB3] at z0
                  have HM : Hid (MapI wr w1.heap.size C2) := hI2.mp
                  by_cases hms : 1000000 < Maps.size C2
                  · rw [if_pos hms] at hN; cases hN
                  rw [if_neg hms] at hN
                  have hgnl : gn < wr.heap.size := World.block_lt_of_cell? wr ⟨gn, j, none⟩ z0
                  have hmsz : Maps.size C2 ≤ 1000000 := by omega
                  have HN5 : Hid (_) := hN
                  clear hN hget hcell hbel hms
                  go_wp2_with fail
                  refine (inBounds_any _ _).mono ?_
                  rintro e w2 ⟨rfl, hw2⟩
                  have hw2' := hw2.symm
                  subst hw2'
                  rcases hin : inB n with _ | _
                  · have hN := HN5.out
                    simp only [hin, Bool.false_eq_true, if_false, Option.some.injEq] at hN
                    have hN6 := HN2.out
                    rw [← hN] at hN6
                    cases hN6
                    clear hN
                    go_wp2_with fail
                    go_ret
                    exact ⟨rfl, X', HI2.out.ctx.chk, HI2.out.kx⟩
                  · have hN := HN5.out
                    simp only [hin, if_true] at hN
                    have hwf : (Lit.int .i64 n).wf = true := by
                      unfold inB at hin
                      simp at hin
                      exact WalkArith.wf_i64 (by omega)
                    have HKEY : Hid (_) := keyOf_int_mk (P := Tryz.prog) Tryz.underlying3 hwf
                    have HN6 : Hid (_) := hN
                    clear hN hwf hin
                    go_wp2_with (at_lookup; refine wpList_lookup_own_ok_int _ rfl _ _ 140 rfl 3 3 .i64 lawI Tryz.underlying140 Tryz.underlying3 (zeroI _) w1.heap.size _ C2 rfl HM.out _ _ rfl HKEY.out ?_)
                    intro c hc hwc
                    clear hc hwc
                    rcases hh : Maps.has C2 (.int .i64 n) with _ | _
                    · have hN := HN6.out
                      simp only [hh, Bool.false_eq_true, if_false] at hN
                      have HN7 : Hid (_) := hN
                      have hwf2 : (Lit.int .i64 (i : Int)).wf = true := WalkArith.wf_i64 (by omega)
                      have HWF : Hid (_) := plainElem_int (H := Unit) Tryz.underlying3 hwf2
                      clear hN hwf2
                      go_wp2_with (at_mapUpdate; refine wpList_mapUpdate_in _ rfl _ _ _ 140 rfl 3 3 lawI Tryz.underlying140 _ w1.heap.size _ C2 rfl HM.out (by unfold maxLen; omega) _ _ _ rfl rfl HKEY.out _ [] HWF.out ?_)
                      intro w4 hown4 hturn4
                      have HI4 : Hid (_) := HI2.out.put hturn4.grown (own_tight hown4)
                      have HO4 : Hid (w4.heap[wo.heap.size]? = some (.cells #[.slice (some ⟨gn, 0, none⟩) ns.length cn, .slice ay bs.length cy] 66)) := (hturn4.grown.block wo.heap.size hszo (fun e => HNX2.out.2 (by injection e))).trans HO2.out
                      clear hown4 hturn4
                      go_wp2_with fail
                      go_roundg gj
                      case measure => omega
                      case rel => exact ⟨j + 1, _, by go_num, by omega, HI4, HO4, HN7⟩
                    · have hN := HN6.out
                      simp only [hh, if_true, Option.some.injEq] at hN
                      have hN6 := HN2.out
                      rw [← hN] at hN6
                      cases hN6
                      clear hN
                      go_wp2_with fail
                      go_ret
                      exact ⟨rfl, X', HI2.out.ctx.chk, HI2.out.kx⟩
            · rw [hz] at hN
              cases hN
              go_wp2_with fail
              go_ret
              exact ⟨rfl, X', HIA.out.ctx.chk, HIA.out.kx⟩
      · have hr := HR.out
        rw [hm] at hr
        cases hr
        go_wp2_with fail
        go_ret
        exact ⟨rfl, X, HC1.out.chk, HK1.out⟩

end Go.Proofs.YtbpnfoihonehgabGreatDoor
