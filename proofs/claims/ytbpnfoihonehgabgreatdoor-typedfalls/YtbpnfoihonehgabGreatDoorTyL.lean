/-
  Expressions: the walk.
-/
import Derived.Test.YtbpnfoihonehgabGreatDoorTyK
namespace Go.Proofs.YtbpnfoihonehgabGreatDoor
open Go.RowKit Go.Maps
set_option linter.unusedSimpArgs false
set_option linter.unusedVariables false

theorem typeOf_any (w : World) (B cb : Nat) (X : List Nat) (fv : Value) (pl : DataW Unit) (res : Int) (sc : List (DataW Unit)) (d l : Nat) (fs : List Fn') (k n : Int) (s : List UInt8) (ae : Option Addr) (le ce : Nat) (v : Value) (ts : List Int) (r : Int × Int) (h : Chk w B cb X fv pl res sc d l) (hfs : FsAt w B fv fs) (hfl : fs.length ≤ 1000) (hv : IntsAt w v ts) (htl : ts.length ≤ 1000000)
    (hk1 : 1 ≤ k) (hk2 : k ≤ 12) (hlen : argC k = -1 ∨ ((ts.length : Nat) : Int) = argC k) (hr : typeOfT pl fs sc k n s ts = some r) :
    Calls Tryz.prog 106 #[.pointer (some ⟨cb, 0, none⟩), .agg #[.int .i64 k, .int .i64 n, .string ⟨s.toArray⟩, .slice ae le ce], v] w fun e w' => e = tyE r ∧ Below w.heap.size w w' := by
  have e5 : argC 5 = 2 := rfl
  have e6 : argC 6 = 1 := rfl
  have e8 : argC 8 = 1 := rfl
  have e9 : argC 9 = 2 := rfl
  have e10 : argC 10 = 2 := rfl
  have hk : k = 1 ∨ k = 2 ∨ k = 3 ∨ k = 4 ∨ k = 5 ∨ k = 6 ∨ k = 7 ∨ k = 8 ∨ k = 9 ∨ k = 10 ∨ k = 11 ∨ k = 12 := by omega
  rcases hk with rfl | rfl | rfl | rfl | rfl | rfl | rfl | rfl | rfl | rfl | rfl | rfl
  · exact typeOf_1 w B cb X fv pl res sc d l fs n s ae le ce v ts r h hfs hfl hv htl hr
  · exact typeOf_2 w B cb X fv pl res sc d l fs n s ae le ce v ts r h hfs hfl hv htl hr
  · exact typeOf_3 w B cb X fv pl res sc d l fs n s ae le ce v ts r h hfs hfl hv htl hr
  · exact typeOf_4 w B cb X fv pl res sc d l fs n s ae le ce v ts r h hfs hfl hv htl hr
  · exact typeOf_5 w B cb X fv pl res sc d l fs n s ae le ce v ts r h hfs hfl hv htl (by omega) hr
  · exact typeOf_6 w B cb X fv pl res sc d l fs n s ae le ce v ts r h hfs hfl hv htl (by omega) hr
  · exact typeOf_7 w B cb X fv pl res sc d l fs n s ae le ce v ts r h hfs hfl hv htl hr
  · exact typeOf_8 w B cb X fv pl res sc d l fs n s ae le ce v ts r h hfs hfl hv htl (by omega) hr
  · exact typeOf_9 w B cb X fv pl res sc d l fs n s ae le ce v ts r h hfs hfl hv htl (by omega) hr
  · exact typeOf_10 w B cb X fv pl res sc d l fs n s ae le ce v ts r h hfs hfl hv htl (by omega) hr
  · exact typeOf_11 w B cb X fv pl res sc d l fs n s ae le ce v ts r h hfs hfl hv htl hr
  · exact typeOf_12 w B cb X fv pl res sc d l fs n s ae le ce v ts r h hfs hfl hv htl hr

theorem ownsRow_kx {w w' : World} {X X' : List Nat} {base size n : Nat} {e : TypeId} {v : Value} {xs : List Value} (h : w.ownsRow base e size v n xs) (k : KX X X' w w') (hx : ∀ i ∈ X, i < base) : w'.ownsRow base e size v n xs := by
  refine ⟨h.1, ?_⟩
  rcases h.2 with h8 | ⟨g, cap, cc, hv, hg, hh, r⟩
  · exact Or.inl h8
  · exact Or.inr ⟨g, cap, cc, hv, hg, by rw [k.block g (lt_of_block hh) (fun hm => by have := hx g hm; omega)]; exact hh, r⟩

theorem intsAt_of_owns {w : World} {base : Nat} {v : Value} {ts : List Int} (h : w.ownsRow base 3 1 v ts.length (ts.map fun t => Value.int .i64 t)) : IntsAt w v ts := by
  obtain ⟨av, cv, rfl⟩ := ownsRow_slice h
  refine ⟨av, cv, rfl, fun i hi => ?_⟩
  rcases h.2 with ⟨_, h0⟩ | ⟨g, cap, cc, hv, hg, hh, hn, hc, hs, ht⟩
  · omega
  · cases hv
    refine ⟨g, rfl, ?_⟩
    have h11 : (cc.toList.take (ts.length * 1))[i]? = (ts.map fun t => Value.int .i64 t)[i]? := by rw [ht]
    rw [List.getElem?_take_of_lt (by omega), List.getElem?_map, List.getElem?_eq_getElem hi] at h11
    simp only [World.cell?, hh]
    rw [List.getD_eq_getElem?_getD, List.getElem?_eq_getElem hi]
    simpa using h11

/-- what holds ahead of each round over the Args: N: where the call's own blocks begin -/
structure ArgL (w : World) (B cb : Nat) (X : List Nat) (fv : Value) (fs : List Fn') (pl : DataW Unit) (res : Int) (sc : List (DataW Unit)) (d l : Nat) (bc be : Obj) (tv : Value) (ts : List Int) (wr : World) : Prop where
  ctx : Ctx wr B cb X fv fs pl res sc (d + 1) l
  kx : KX X X w wr
  b0 : wr.heap[w.heap.size]? = some bc
  b1 : wr.heap[w.heap.size + 1]? = some be
  sz : w.heap.size + 2 ≤ wr.heap.size
  own : wr.ownsRow (w.heap.size + 2) 3 1 tv ts.length (ts.map fun t => Value.int .i64 t)

theorem ArgL.kx' {w wr w' : World} {B cb : Nat} {X : List Nat} {fv : Value} {fs : List Fn'} {pl : DataW Unit} {res : Int} {sc : List (DataW Unit)} {d l : Nat} {bc be : Obj} {tv : Value} {ts : List Int} (hX : ∀ k ∈ X, k < w.heap.size) (h : ArgL w B cb X fv fs pl res sc d l bc be tv ts wr) (hc : Chk w' B cb X fv pl res sc (d + 1) l) (k : KX X X wr w') : ArgL w B cb X fv fs pl res sc d l bc be tv ts w' := by
  have hs := h.sz
  refine ⟨h.ctx.next hc k, h.kx.trans k, ?_, ?_, Nat.le_trans h.sz k.size, ownsRow_kx h.own k (fun i hi => by have := hX i hi; omega)⟩
  · rw [k.block _ (by omega) (fun hm => by have := hX _ hm; omega)]; exact h.b0
  · rw [k.block _ (by omega) (fun hm => by have := hX _ hm; omega)]; exact h.b1

set_option maxHeartbeats 8000000 in
set_option maxRecDepth 20000 in
theorem expr_any {B cb : Nat} {fv : Value} {fs : List Fn'} {pl : DataW Unit} {res : Int} {sc : List (DataW Unit)} {l f : Nat} (hE : SaidX B cb fv fs pl res sc l (exprT pl fs sc f)) : SaidX B cb fv fs pl res sc l (exprT pl fs sc (f + 1)) := by
  intro w X d v x r h hx hr
  obtain ⟨a, c, rfl, hrow⟩ := anE_parts hx
  have HXX : Hid (∀ k ∈ X, k < w.heap.size) := fun k hk => (h.chk.low k hk).2
  have hmf := mkf
  obtain ⟨i0, hi, hz0, hz1, hz2⟩ := info_parts infoInt
  have hb2 : Below w.heap.size w ((w.alloc (.cells #[.pointer (some ⟨cb, 0, none⟩)] 55)).alloc (.cells #[.int .i64 x.kind, .int .i64 x.n, .string ⟨x.s.toArray⟩, .slice a x.args.length c] 116)) := ((Below.refl _ _).alloc (Nat.le_refl _) _).alloc (by simp) _
  have h2 := h.add hb2
  have hal := heap_alloc2 w (.cells #[.pointer (some ⟨cb, 0, none⟩)] 55) (.cells #[.int .i64 x.kind, .int .i64 x.n, .string ⟨x.s.toArray⟩, .slice a x.args.length c] 116)
  have HROW : Hid (Row (fun g => g < B) w (AnE (fun g => g < B) w) (.slice a x.args.length c) x.args) := hrow
  have HK2 : Hid (KX X X w ((w.alloc (.cells #[.pointer (some ⟨cb, 0, none⟩)] 55)).alloc (.cells #[.int .i64 x.kind, .int .i64 x.n, .string ⟨x.s.toArray⟩, .slice a x.args.length c] 116))) := KX.of_below hb2
  have HC2 : Hid (_) := h2
  have HAL : Hid (_) := hal
  have HH : Hid (Ctx w B cb X fv fs pl res sc d l) := h
  simp only [exprT] at hr
  by_cases hk : x.kind < 1 ∨ 12 < x.kind
  · rw [if_pos hk] at hr
    cases hr
    rcases hk with hk | hk
    all_goals
      clear hx hrow hal h2 hb2 h HROW
      go_enter_defers Tryz.func86, Tryz.ntmps86
      go_wp2_with fail
      exact ⟨_, results_tmp2 Tryz.results86 _ _ _, rfl, HC2.out.chk, HK2.out⟩
  · rw [if_neg hk] at hr
    obtain ⟨kn, hkn⟩ : ∃ kn : Nat, x.kind = (kn : Int) := ⟨x.kind.toNat, by omega⟩
    have hk1 : 1 ≤ kn := by omega
    have hk2 : kn ≤ 12 := by omega
    have hac : argC x.kind = acL.getD kn 0 := by rw [argC, hkn]; simp
    have cac := h2.tab.ac kn (by omega)
    rw [← hac] at cac
    obtain ⟨m, hm⟩ : ∃ m, m = argC x.kind := ⟨_, rfl⟩
    rw [← hm] at hr cac
    have cac0 := HH.out.tab.ac kn (by omega)
    rw [← hac, ← hm] at cac0
    have hgl : 5 < w.heap.size := World.block_lt_of_cell? w ⟨5, kn, none⟩ cac0
    have HM : Hid (m = argC x.kind) := hm
    have HKN : Hid (x.kind = (kn : Int)) := hkn
    have hk1I : (1 : Int) ≤ (kn : Int) := by omega
    have hk2I : (kn : Int) ≤ 12 := by omega
    rw [hkn] at HC2 HAL HK2 cac
    rw [hkn]
    have HR : Hid (_) := hr
    clear hx hrow hal h2 hb2 h hr hk hac hm hkn
    have hb1 : ¬ ((kn : Int) < 1) := by omega
    have hb12 : ¬ (12 < (kn : Int)) := by omega
    rcases hm1 : (m != -1) with _ | _
    · skip
      have hr := HR.out
      rw [hm1] at hr
      simp only [Bool.false_and, Bool.and_false, Bool.true_and, Bool.false_eq_true, if_false] at hr
      have HR2 : Hid (_) := hr
      clear hr
      go_enter_defers Tryz.func86, Tryz.ntmps86
      go_wp2_with fail
      by_cases hd : 120 ≤ d
      · have hr := HR2.out
        rw [if_pos hd] at hr
        cases hr
        refine (enter_no_t _ B cb X fv pl res sc d l HC2.out.chk hd).mono ?_
        rintro e w1 ⟨rfl, hw1⟩
        have hw1' := hw1.symm
        subst hw1'
        clear hd
        go_wp2_with fail
        exact ⟨_, results_tmp2 Tryz.results86 _ _ _, rfl, HC2.out.chk, HK2.out⟩
      · have hr := HR2.out
        rw [if_neg hd] at hr
        by_cases hbig : 1000000 < x.args.length
        · rw [if_pos hbig] at hr; cases hr
        · rw [if_neg hbig] at hr
          obtain ⟨r1, hr1⟩ : ∃ r1, argsT (fun y => valT (exprT pl fs sc f (d + 1) y)) x.args [] = some r1 := by
            rcases hq : argsT (fun y => valT (exprT pl fs sc f (d + 1) y)) x.args [] with _ | r1
            · rw [hq] at hr; cases hr
            · exact ⟨r1, rfl⟩
          rw [hr1] at hr
          have HR3 : Hid (_) := hr
          refine (enter_yes_t _ B cb X fv pl res sc d l HC2.out.chk (by omega)).mono ?_
          rintro e w3 ⟨rfl, hc3, hk3⟩
          have hs3 := hk3.size
          simp at hs3
          have hb03 : w3.heap[w.heap.size]? = some (.cells #[.pointer (some ⟨cb, 0, none⟩)] 55) := (hk3.block w.heap.size (by simp; omega) (fun hm => by have := HXX.out _ hm; omega)).trans HAL.out.1
          have hb13 : w3.heap[w.heap.size + 1]? = some (.cells #[.int .i64 (kn : Int), .int .i64 x.n, .string ⟨x.s.toArray⟩, .slice a x.args.length c] 116) := (hk3.block (w.heap.size + 1) (by simp) (fun hm => by have := HXX.out _ hm; omega)).trans HAL.out.2
          have c03 : w3.cell? ⟨w.heap.size, 0, none⟩ = some (.pointer (some ⟨cb, 0, none⟩)) := by simp [World.cell?, hb03]
          have c13 := cells4 hb13
          obtain ⟨w4, hmk, hown4, hg4⟩ := run_make_own (P := Tryz.prog) w3 (w.heap.size + 2) 64 3 i0 _ 1 Tryz.underlying64 hi hz0 hz1 .i64 .i64 x.args.length (by rw [hz2]; omega) (by unfold maxLen; omega) (by omega)
          have hb4 : Below w3.heap.size w3 w4 := ⟨hg4.os, hg4.tape, hg4.output, hg4.size, fun i hi => hg4.block i hi (by simp)⟩
          have HI : Hid (ArgL w B cb X fv fs pl res sc d l (.cells #[.pointer (some ⟨cb, 0, none⟩)] 55) (.cells #[.int .i64 (kn : Int), .int .i64 x.n, .string ⟨x.s.toArray⟩, .slice a x.args.length c] 116) (.slice (some ⟨w3.heap.size, 0, none⟩) 0 x.args.length) [] w4) :=
            ⟨(HC2.out.next hc3 hk3).add hb4, (HK2.out.trans hk3).trans (KX.of_below hb4), (hb4.block _ (by omega)).trans hb03, (hb4.block _ (by omega)).trans hb13, by have := hb4.size; omega, hown4⟩
          have hb04 : w4.cell? ⟨w.heap.size, 0, none⟩ = some (.pointer (some ⟨cb, 0, none⟩)) := by simp [World.cell?, HI.out.b0]
          have hb14 := cells4 HI.out.b1
          have HR1 : Hid (_) := hr1
          have hbl : x.args.length ≤ 1000000 := by omega
          clear hr hr1 hc3 hk3 hown4 hg4 hb4 hb03 hb13 hd hbig HR HR2
          go_wp2_with fail
          clear hmk c03 c13 hs3
          go_loopg [7, 44] x.args.length (fun g s7 s44 wr => ∃ (i : Nat) (ts : List Int), s44 = .int .i64 (i : Nat) ∧ i + g = x.args.length ∧ Hid (ts.length = i) ∧ Hid (ArgL w B cb X fv fs pl res sc d l (.cells #[.pointer (some ⟨cb, 0, none⟩)] 55) (.cells #[.int .i64 (kn : Int), .int .i64 x.n, .string ⟨x.s.toArray⟩, .slice a x.args.length c] 116) s7 ts wr) ∧ Hid (argsT (fun y => valT (exprT pl fs sc f (d + 1) y)) (x.args.drop i) ts = some r1))
          case atStart => exact ⟨0, [], rfl, by omega, rfl, HI, HR1⟩
          case round =>
            clear HI HR1 hb04 hb14
            obtain ⟨i, ts, rfl, hig, HTL, HI, HN⟩ := hrel
            have hI := HI.out
            have c0 : wr.cell? ⟨w.heap.size, 0, none⟩ = some (.pointer (some ⟨cb, 0, none⟩)) := by simp [World.cell?, hI.b0]
            have c1 := cells4 hI.b1
            have hsz := hI.sz
            have hlt0 : w.heap.size < wr.heap.size := by omega
            have hlt1 : w.heap.size + 1 < wr.heap.size := by omega
            cases gk with
            | zero =>
              have hil : i = x.args.length := by omega
              have hlt : ¬ (i : Int) < (x.args.length : Int) := by omega
              have hltb : decide ((i : Int) < (x.args.length : Int)) = false := by simpa using hlt
              have hN := HN.out
              rw [hil, List.drop_length] at hN
              simp only [argsT, Option.some.injEq] at hN
              have HT : Hid (typeOfT pl fs sc (kn : Int) x.n x.s ts = some r) := by
                have := HR3.out
                rw [← hN, HKN.out] at this
                exact this
              have HAC : Hid (argC (kn : Int) = -1 ∨ ((ts.length : Nat) : Int) = argC (kn : Int)) := by
                unfold Hid
                rw [← HKN.out, ← HM.out, HTL.out, hil]
                left
                simpa [bne] using hm1
              clear hN
              go_wp2_with fail
              refine (typeOf_any _ B cb X fv pl res sc (d + 1) l fs (kn : Int) x.n x.s a x.args.length c _ ts r hI.ctx.chk hI.ctx.fsa hI.ctx.fl (intsAt_of_owns hI.own) (by have := HTL.out; omega) hk1I hk2I HAC.out HT.out).mono ?_
              rintro e w5 ⟨rfl, hb5⟩
              have hc5 := hI.ctx.chk.below hb5
              have c05 : w5.cell? ⟨w.heap.size, 0, none⟩ = some (.pointer (some ⟨cb, 0, none⟩)) := (hb5.cell (p := ⟨w.heap.size, 0, none⟩) (by show w.heap.size < _; omega)).trans c0
              have HC5 : Hid (_) := hc5
              have HK5 : Hid (KX X X w w5) := hI.kx.trans (KX.of_below hb5)
              clear hc5 hb5
              unfold tyE
              go_wp2_with fail
              refine leaves_cons (f := 105) (args := #[.pointer (some ⟨w.heap.size, 0, none⟩)]) (by simp) (by simp [go_sem]) ?_
              refine (leave_depth _ (.inl rfl) w5 B cb w.heap.size X fv pl res sc d l .returning HC5.out c05).mono ?_
              rintro e u' w6 ⟨rfl, rfl, hC6, hK6⟩
              exact ⟨_, results_tmp2 Tryz.results86 _ _ _, rfl, hC6, HK5.out.trans hK6⟩
            | succ g =>
              have hlt : (i : Int) < (x.args.length : Int) := by omega
              have hltb : decide ((i : Int) < (x.args.length : Int)) = true := by simpa using hlt
              have hilt : i < x.args.length := by omega
              have hget : x.args[i]? = some x.args[i] := List.getElem?_eq_getElem hilt
              have hN := HN.out
              rw [List.drop_eq_getElem_cons hilt] at hN
              simp only [argsT] at hN
              obtain ⟨ga, ca, u, hva, hgB, hu, hcell⟩ := Row.at HROW.out 4 anE_len i _ hget
              cases hva
              obtain ⟨y0, y1, y2, y3, l3, c3, rfl⟩ := hu.sh
              have hbel : Below B w wr := HH.out.bel hI.kx
              have p0 := hcell 0 (by decide)
              have p1 := hcell 1 (by decide)
              have p2 := hcell 2 (by decide)
              have p3 := hcell 3 (by decide)
              simp only [Value.cells, Nat.add_zero] at p0 p1 p2 p3
              simp at p0 p1 p2 p3
              rw [← hbel.cell (p := ⟨ga, i * 4, none⟩) hgB] at p0
              rw [← hbel.cell (p := ⟨ga, i * 4 + 1, none⟩) hgB] at p1
              rw [← hbel.cell (p := ⟨ga, i * 4 + 2, none⟩) hgB] at p2
              rw [← hbel.cell (p := ⟨ga, i * 4 + 3, none⟩) hgB] at p3
              have hka : Below wr.heap.size wr (wr.alloc (.cells #[.int .i64 y0, .int .i64 y1, .string y2, .slice y3 l3 c3] 116)) := (Below.refl _ _).alloc (Nat.le_refl _) _
              have hua := (hu.bel hbel).bel (hI.ctx.bel (KX.of_below (X := X) hka))
              have hIa := hI.kx' HXX.out (hI.ctx.chk.below hka) (KX.of_below hka)
              have HIA : Hid (_) := hIa
              have HUA : Hid (_) := hua
              have HN2 : Hid (_) := hN
              clear hcell hu hua hIa hka hbel hN hget
              go_wp2_with fail
              clear p0 p1 p2 p3
              generalize wr.alloc (.cells #[.int .i64 y0, .int .i64 y1, .string y2, .slice y3 l3 c3] 116) = wa at *
              rcases hq : valT (exprT pl fs sc f (d + 1) x.args[i]) with _ | ⟨t, m'⟩
              · have hN := HN2.out
                rw [hq] at hN; cases hN
              · have hN := HN2.out
                rw [hq] at hN
                simp only at hN
                refine (value_any hE _ _ _ _ _ _ HIA.out.ctx HUA.out hq).mono ?_
                rintro e w5 ⟨rfl, hc5, hk5⟩
                have hI5 := HIA.out.kx' HXX.out hc5 hk5
                have c05 : w5.cell? ⟨w.heap.size, 0, none⟩ = some (.pointer (some ⟨cb, 0, none⟩)) := by simp [World.cell?, hI5.b0]
                have c15 := cells4 hI5.b1
                have hsz5 := hI5.sz
                unfold tyE
                rcases hm0 : (m' != 0) with _ | _
                · rw [hm0] at hN
                  simp only [Bool.false_eq_true, if_false] at hN
                  have hown5 := hI5.own
                  obtain ⟨av, cv, rfl⟩ := ownsRow_slice hown5
                  have HO : Hid ((w5.alloc (.cells #[.int .i64 t] 3)).ownsRow (w.heap.size + 2) 3 1 (.slice av ts.length cv) ts.length (ts.map fun t => Value.int .i64 t)) := hown5.alloc _
                  have HNW : Hid (∀ j u, [Value.int .i64 t][j]? = some u → (w5.alloc (.cells #[.int .i64 t] 3)).cell? ((⟨w5.heap.size, 0, none⟩ : Addr).add j) = some u) :=
                    World.news_of_block (B := w5.heap.size) (cs := #[.int .i64 t]) (heap_alloc_new w5 _)
                  have HV5 : Hid (∀ k, (Value.slice av ts.length cv).ownBlock = some k → w.heap.size + 2 ≤ k ∧ k < w5.heap.size) := hown5.lt
                  have hm63 : ts.length + 1 ≤ maxLen := by have := HTL.out; unfold maxLen; omega
                  have hm8 : (ts.length + 1) * 8 ≤ 140737488355328 := by have := HTL.out; omega
                  have HI5 : Hid (_) := hI5
                  have HN3 : Hid (_) := hN
                  clear hown5 hI5 hN hc5 hk5
                  go_wp2_with (at_builtin; refine wpList_append_lies _ rfl _ _ 64 (by rfl) (w.heap.size + 2) 3 i0 _ 1 8 Tryz.underlying64 hi hz0 hz1 hz2 rfl (by decide) (.slice av ts.length cv) ts.length (ts.map fun t => Value.int .i64 t) (by rfl) HO.out ⟨w5.heap.size, 0, none⟩ 1 1 [.int .i64 t] (by rfl) rfl HNW.out (int_one _) (by decide) hm63 hm8 (by simp; omega) (w5.heap.size + 1) (by simp) ?_)
                  intro gg cp w8 hown8 hgrow8 hat8 hlt8
                  have hv5 := HV5.out
                  have hb8 : Below (w.heap.size + 2) w5 w8 := by
                    have hs8 := hgrow8.size
                    simp at hs8
                    refine ⟨hgrow8.os, hgrow8.tape, hgrow8.output, by omega, fun k hk => ?_⟩
                    rw [hgrow8.block k (by simp; omega) (fun e => by have := hv5 _ e.symm; omega)]
                    exact Below.heap_alloc _ _ _ (by omega)
                  have hc8 : Chk w8 B cb X fv pl res sc (d + 1) l := HI5.out.ctx.chk.belowN (fun k hk => by have := HXX.out k hk; omega) hb8
                  have hB5 : B ≤ w.heap.size + 2 := by have := HH.out.bs; omega
                  have hbB : Below B w5 w8 := ⟨hb8.os, hb8.tape, hb8.output, hb8.size, fun k hk => hb8.block k (by omega)⟩
                  have HI8 : Hid (ArgL w B cb X fv fs pl res sc d l (.cells #[.pointer (some ⟨cb, 0, none⟩)] 55) (.cells #[.int .i64 (kn : Int), .int .i64 x.n, .string ⟨x.s.toArray⟩, .slice (some ⟨ga, 0, none⟩) x.args.length c] 116) (.slice (some ⟨gg, 0, none⟩) (ts.length + 1) cp) (ts ++ [t]) w8) := by
                    refine ⟨⟨hc8, HI5.out.ctx.tab.below HI5.out.ctx.chk.far HI5.out.ctx.bs hbB, HI5.out.ctx.fsa.below hbB, HI5.out.ctx.fl, by have := hb8.size; have := HI5.out.ctx.bs; omega⟩, ?_, (hb8.block _ (by omega)).trans HI5.out.b0, (hb8.block _ (by omega)).trans HI5.out.b1, by have := hb8.size; omega, by simpa using hown8⟩
                    have k5 := HI5.out.kx
                    exact ⟨hb8.os.trans k5.os, hb8.tape.trans k5.tape, hb8.output.trans k5.output, Nat.le_trans k5.size hb8.size, fun _ h => .inl h, fun k hk hx => (hb8.block k (by omega)).trans (k5.block k hk hx)⟩
                  have c08 : w8.cell? ⟨w.heap.size, 0, none⟩ = some (.pointer (some ⟨cb, 0, none⟩)) := by simp [World.cell?, HI8.out.b0]
                  clear hown8 hgrow8 hat8 hv5 hb8 hc8 hbB hlt8 c05 c15
                  go_wp2_with fail
                  go_roundg g
                  case measure => omega
                  case rel => exact ⟨i + 1, ts ++ [t], by go_num, by omega, by have := HTL.out; unfold Hid; simp; omega, HI8, HN3⟩
                · rw [hm0] at hN
                  simp only [if_true, Option.some.injEq] at hN
                  have HR4 : Hid (r = (0, m')) := by
                    unfold Hid
                    have := HR3.out
                    rw [← hN] at this
                    simpa using this.symm
                  have HC5 : Hid (_) := hc5
                  have HK5 : Hid (KX X X w w5) := hI5.kx
                  clear hI5 hN hc5 hk5
                  go_wp2_with fail
                  refine leaves_cons (f := 105) (args := #[.pointer (some ⟨w.heap.size, 0, none⟩)]) (by simp) (by simp [go_sem]) ?_
                  refine (leave_depth _ (.inl rfl) w5 B cb w.heap.size X fv pl res sc d l .returning HC5.out c05).mono ?_
                  rintro e u' w6 ⟨rfl, rfl, hC6, hK6⟩
                  exact ⟨_, results_tmp2 Tryz.results86 _ _ _, by rw [HR4.out]; rfl, hC6, HK5.out.trans hK6⟩
    · rcases hm2 : (((x.args.length : Nat) : Int) != m) with _ | _
      · skip
        have hr := HR.out
        rw [hm1, hm2] at hr
        simp only [Bool.false_and, Bool.and_false, Bool.true_and, Bool.false_eq_true, if_false] at hr
        have HR2 : Hid (_) := hr
        clear hr
        go_enter_defers Tryz.func86, Tryz.ntmps86
        go_wp2_with fail
        by_cases hd : 120 ≤ d
        · have hr := HR2.out
          rw [if_pos hd] at hr
          cases hr
          refine (enter_no_t _ B cb X fv pl res sc d l HC2.out.chk hd).mono ?_
          rintro e w1 ⟨rfl, hw1⟩
          have hw1' := hw1.symm
          subst hw1'
          clear hd
          go_wp2_with fail
          exact ⟨_, results_tmp2 Tryz.results86 _ _ _, rfl, HC2.out.chk, HK2.out⟩
        · have hr := HR2.out
          rw [if_neg hd] at hr
          by_cases hbig : 1000000 < x.args.length
          · rw [if_pos hbig] at hr; cases hr
          · rw [if_neg hbig] at hr
            obtain ⟨r1, hr1⟩ : ∃ r1, argsT (fun y => valT (exprT pl fs sc f (d + 1) y)) x.args [] = some r1 := by
              rcases hq : argsT (fun y => valT (exprT pl fs sc f (d + 1) y)) x.args [] with _ | r1
              · rw [hq] at hr; cases hr
              · exact ⟨r1, rfl⟩
            rw [hr1] at hr
            have HR3 : Hid (_) := hr
            refine (enter_yes_t _ B cb X fv pl res sc d l HC2.out.chk (by omega)).mono ?_
            rintro e w3 ⟨rfl, hc3, hk3⟩
            have hs3 := hk3.size
            simp at hs3
            have hb03 : w3.heap[w.heap.size]? = some (.cells #[.pointer (some ⟨cb, 0, none⟩)] 55) := (hk3.block w.heap.size (by simp; omega) (fun hm => by have := HXX.out _ hm; omega)).trans HAL.out.1
            have hb13 : w3.heap[w.heap.size + 1]? = some (.cells #[.int .i64 (kn : Int), .int .i64 x.n, .string ⟨x.s.toArray⟩, .slice a x.args.length c] 116) := (hk3.block (w.heap.size + 1) (by simp) (fun hm => by have := HXX.out _ hm; omega)).trans HAL.out.2
            have c03 : w3.cell? ⟨w.heap.size, 0, none⟩ = some (.pointer (some ⟨cb, 0, none⟩)) := by simp [World.cell?, hb03]
            have c13 := cells4 hb13
            obtain ⟨w4, hmk, hown4, hg4⟩ := run_make_own (P := Tryz.prog) w3 (w.heap.size + 2) 64 3 i0 _ 1 Tryz.underlying64 hi hz0 hz1 .i64 .i64 x.args.length (by rw [hz2]; omega) (by unfold maxLen; omega) (by omega)
            have hb4 : Below w3.heap.size w3 w4 := ⟨hg4.os, hg4.tape, hg4.output, hg4.size, fun i hi => hg4.block i hi (by simp)⟩
            have HI : Hid (ArgL w B cb X fv fs pl res sc d l (.cells #[.pointer (some ⟨cb, 0, none⟩)] 55) (.cells #[.int .i64 (kn : Int), .int .i64 x.n, .string ⟨x.s.toArray⟩, .slice a x.args.length c] 116) (.slice (some ⟨w3.heap.size, 0, none⟩) 0 x.args.length) [] w4) :=
              ⟨(HC2.out.next hc3 hk3).add hb4, (HK2.out.trans hk3).trans (KX.of_below hb4), (hb4.block _ (by omega)).trans hb03, (hb4.block _ (by omega)).trans hb13, by have := hb4.size; omega, hown4⟩
            have hb04 : w4.cell? ⟨w.heap.size, 0, none⟩ = some (.pointer (some ⟨cb, 0, none⟩)) := by simp [World.cell?, HI.out.b0]
            have hb14 := cells4 HI.out.b1
            have HR1 : Hid (_) := hr1
            have hbl : x.args.length ≤ 1000000 := by omega
            clear hr hr1 hc3 hk3 hown4 hg4 hb4 hb03 hb13 hd hbig HR HR2
            go_wp2_with fail
            clear hmk c03 c13 hs3
            go_loopg [7, 44] x.args.length (fun g s7 s44 wr => ∃ (i : Nat) (ts : List Int), s44 = .int .i64 (i : Nat) ∧ i + g = x.args.length ∧ Hid (ts.length = i) ∧ Hid (ArgL w B cb X fv fs pl res sc d l (.cells #[.pointer (some ⟨cb, 0, none⟩)] 55) (.cells #[.int .i64 (kn : Int), .int .i64 x.n, .string ⟨x.s.toArray⟩, .slice a x.args.length c] 116) s7 ts wr) ∧ Hid (argsT (fun y => valT (exprT pl fs sc f (d + 1) y)) (x.args.drop i) ts = some r1))
            case atStart => exact ⟨0, [], rfl, by omega, rfl, HI, HR1⟩
            case round =>
              clear HI HR1 hb04 hb14
              obtain ⟨i, ts, rfl, hig, HTL, HI, HN⟩ := hrel
              have hI := HI.out
              have c0 : wr.cell? ⟨w.heap.size, 0, none⟩ = some (.pointer (some ⟨cb, 0, none⟩)) := by simp [World.cell?, hI.b0]
              have c1 := cells4 hI.b1
              have hsz := hI.sz
              have hlt0 : w.heap.size < wr.heap.size := by omega
              have hlt1 : w.heap.size + 1 < wr.heap.size := by omega
              cases gk with
              | zero =>
                have hil : i = x.args.length := by omega
                have hlt : ¬ (i : Int) < (x.args.length : Int) := by omega
                have hltb : decide ((i : Int) < (x.args.length : Int)) = false := by simpa using hlt
                have hN := HN.out
                rw [hil, List.drop_length] at hN
                simp only [argsT, Option.some.injEq] at hN
                have HT : Hid (typeOfT pl fs sc (kn : Int) x.n x.s ts = some r) := by
                  have := HR3.out
                  rw [← hN, HKN.out] at this
                  exact this
                have HAC : Hid (argC (kn : Int) = -1 ∨ ((ts.length : Nat) : Int) = argC (kn : Int)) := by
                  unfold Hid
                  rw [← HKN.out, ← HM.out, HTL.out, hil]
                  right
                  simpa [bne] using hm2
                clear hN
                go_wp2_with fail
                refine (typeOf_any _ B cb X fv pl res sc (d + 1) l fs (kn : Int) x.n x.s a x.args.length c _ ts r hI.ctx.chk hI.ctx.fsa hI.ctx.fl (intsAt_of_owns hI.own) (by have := HTL.out; omega) hk1I hk2I HAC.out HT.out).mono ?_
                rintro e w5 ⟨rfl, hb5⟩
                have hc5 := hI.ctx.chk.below hb5
                have c05 : w5.cell? ⟨w.heap.size, 0, none⟩ = some (.pointer (some ⟨cb, 0, none⟩)) := (hb5.cell (p := ⟨w.heap.size, 0, none⟩) (by show w.heap.size < _; omega)).trans c0
                have HC5 : Hid (_) := hc5
                have HK5 : Hid (KX X X w w5) := hI.kx.trans (KX.of_below hb5)
                clear hc5 hb5
                unfold tyE
                go_wp2_with fail
                refine leaves_cons (f := 105) (args := #[.pointer (some ⟨w.heap.size, 0, none⟩)]) (by simp) (by simp [go_sem]) ?_
                refine (leave_depth _ (.inl rfl) w5 B cb w.heap.size X fv pl res sc d l .returning HC5.out c05).mono ?_
                rintro e u' w6 ⟨rfl, rfl, hC6, hK6⟩
                exact ⟨_, results_tmp2 Tryz.results86 _ _ _, rfl, hC6, HK5.out.trans hK6⟩
              | succ g =>
                have hlt : (i : Int) < (x.args.length : Int) := by omega
                have hltb : decide ((i : Int) < (x.args.length : Int)) = true := by simpa using hlt
                have hilt : i < x.args.length := by omega
                have hget : x.args[i]? = some x.args[i] := List.getElem?_eq_getElem hilt
                have hN := HN.out
                rw [List.drop_eq_getElem_cons hilt] at hN
                simp only [argsT] at hN
                obtain ⟨ga, ca, u, hva, hgB, hu, hcell⟩ := Row.at HROW.out 4 anE_len i _ hget
                cases hva
                obtain ⟨y0, y1, y2, y3, l3, c3, rfl⟩ := hu.sh
                have hbel : Below B w wr := HH.out.bel hI.kx
                have p0 := hcell 0 (by decide)
                have p1 := hcell 1 (by decide)
                have p2 := hcell 2 (by decide)
                have p3 := hcell 3 (by decide)
                simp only [Value.cells, Nat.add_zero] at p0 p1 p2 p3
                simp at p0 p1 p2 p3
                rw [← hbel.cell (p := ⟨ga, i * 4, none⟩) hgB] at p0
                rw [← hbel.cell (p := ⟨ga, i * 4 + 1, none⟩) hgB] at p1
                rw [← hbel.cell (p := ⟨ga, i * 4 + 2, none⟩) hgB] at p2
                rw [← hbel.cell (p := ⟨ga, i * 4 + 3, none⟩) hgB] at p3
                have hka : Below wr.heap.size wr (wr.alloc (.cells #[.int .i64 y0, .int .i64 y1, .string y2, .slice y3 l3 c3] 116)) := (Below.refl _ _).alloc (Nat.le_refl _) _
                have hua := (hu.bel hbel).bel (hI.ctx.bel (KX.of_below (X := X) hka))
                have hIa := hI.kx' HXX.out (hI.ctx.chk.below hka) (KX.of_below hka)
                have HIA : Hid (_) := hIa
                have HUA : Hid (_) := hua
                have HN2 : Hid (_) := hN
                clear hcell hu hua hIa hka hbel hN hget
                go_wp2_with fail
                clear p0 p1 p2 p3
                generalize wr.alloc (.cells #[.int .i64 y0, .int .i64 y1, .string y2, .slice y3 l3 c3] 116) = wa at *
                rcases hq : valT (exprT pl fs sc f (d + 1) x.args[i]) with _ | ⟨t, m'⟩
                · have hN := HN2.out
                  rw [hq] at hN; cases hN
                · have hN := HN2.out
                  rw [hq] at hN
                  simp only at hN
                  refine (value_any hE _ _ _ _ _ _ HIA.out.ctx HUA.out hq).mono ?_
                  rintro e w5 ⟨rfl, hc5, hk5⟩
                  have hI5 := HIA.out.kx' HXX.out hc5 hk5
                  have c05 : w5.cell? ⟨w.heap.size, 0, none⟩ = some (.pointer (some ⟨cb, 0, none⟩)) := by simp [World.cell?, hI5.b0]
                  have c15 := cells4 hI5.b1
                  have hsz5 := hI5.sz
                  unfold tyE
                  rcases hm0 : (m' != 0) with _ | _
                  · rw [hm0] at hN
                    simp only [Bool.false_eq_true, if_false] at hN
                    have hown5 := hI5.own
                    obtain ⟨av, cv, rfl⟩ := ownsRow_slice hown5
                    have HO : Hid ((w5.alloc (.cells #[.int .i64 t] 3)).ownsRow (w.heap.size + 2) 3 1 (.slice av ts.length cv) ts.length (ts.map fun t => Value.int .i64 t)) := hown5.alloc _
                    have HNW : Hid (∀ j u, [Value.int .i64 t][j]? = some u → (w5.alloc (.cells #[.int .i64 t] 3)).cell? ((⟨w5.heap.size, 0, none⟩ : Addr).add j) = some u) :=
                      World.news_of_block (B := w5.heap.size) (cs := #[.int .i64 t]) (heap_alloc_new w5 _)
                    have HV5 : Hid (∀ k, (Value.slice av ts.length cv).ownBlock = some k → w.heap.size + 2 ≤ k ∧ k < w5.heap.size) := hown5.lt
                    have hm63 : ts.length + 1 ≤ maxLen := by have := HTL.out; unfold maxLen; omega
                    have hm8 : (ts.length + 1) * 8 ≤ 140737488355328 := by have := HTL.out; omega
                    have HI5 : Hid (_) := hI5
                    have HN3 : Hid (_) := hN
                    clear hown5 hI5 hN hc5 hk5
                    go_wp2_with (at_builtin; refine wpList_append_lies _ rfl _ _ 64 (by rfl) (w.heap.size + 2) 3 i0 _ 1 8 Tryz.underlying64 hi hz0 hz1 hz2 rfl (by decide) (.slice av ts.length cv) ts.length (ts.map fun t => Value.int .i64 t) (by rfl) HO.out ⟨w5.heap.size, 0, none⟩ 1 1 [.int .i64 t] (by rfl) rfl HNW.out (int_one _) (by decide) hm63 hm8 (by simp; omega) (w5.heap.size + 1) (by simp) ?_)
                    intro gg cp w8 hown8 hgrow8 hat8 hlt8
                    have hv5 := HV5.out
                    have hb8 : Below (w.heap.size + 2) w5 w8 := by
                      have hs8 := hgrow8.size
                      simp at hs8
                      refine ⟨hgrow8.os, hgrow8.tape, hgrow8.output, by omega, fun k hk => ?_⟩
                      rw [hgrow8.block k (by simp; omega) (fun e => by have := hv5 _ e.symm; omega)]
                      exact Below.heap_alloc _ _ _ (by omega)
                    have hc8 : Chk w8 B cb X fv pl res sc (d + 1) l := HI5.out.ctx.chk.belowN (fun k hk => by have := HXX.out k hk; omega) hb8
                    have hB5 : B ≤ w.heap.size + 2 := by have := HH.out.bs; omega
                    have hbB : Below B w5 w8 := ⟨hb8.os, hb8.tape, hb8.output, hb8.size, fun k hk => hb8.block k (by omega)⟩
                    have HI8 : Hid (ArgL w B cb X fv fs pl res sc d l (.cells #[.pointer (some ⟨cb, 0, none⟩)] 55) (.cells #[.int .i64 (kn : Int), .int .i64 x.n, .string ⟨x.s.toArray⟩, .slice (some ⟨ga, 0, none⟩) x.args.length c] 116) (.slice (some ⟨gg, 0, none⟩) (ts.length + 1) cp) (ts ++ [t]) w8) := by
                      refine ⟨⟨hc8, HI5.out.ctx.tab.below HI5.out.ctx.chk.far HI5.out.ctx.bs hbB, HI5.out.ctx.fsa.below hbB, HI5.out.ctx.fl, by have := hb8.size; have := HI5.out.ctx.bs; omega⟩, ?_, (hb8.block _ (by omega)).trans HI5.out.b0, (hb8.block _ (by omega)).trans HI5.out.b1, by have := hb8.size; omega, by simpa using hown8⟩
                      have k5 := HI5.out.kx
                      exact ⟨hb8.os.trans k5.os, hb8.tape.trans k5.tape, hb8.output.trans k5.output, Nat.le_trans k5.size hb8.size, fun _ h => .inl h, fun k hk hx => (hb8.block k (by omega)).trans (k5.block k hk hx)⟩
                    have c08 : w8.cell? ⟨w.heap.size, 0, none⟩ = some (.pointer (some ⟨cb, 0, none⟩)) := by simp [World.cell?, HI8.out.b0]
                    clear hown8 hgrow8 hat8 hv5 hb8 hc8 hbB hlt8 c05 c15
                    go_wp2_with fail
                    go_roundg g
                    case measure => omega
                    case rel => exact ⟨i + 1, ts ++ [t], by go_num, by omega, by have := HTL.out; unfold Hid; simp; omega, HI8, HN3⟩
                  · rw [hm0] at hN
                    simp only [if_true, Option.some.injEq] at hN
                    have HR4 : Hid (r = (0, m')) := by
                      unfold Hid
                      have := HR3.out
                      rw [← hN] at this
                      simpa using this.symm
                    have HC5 : Hid (_) := hc5
                    have HK5 : Hid (KX X X w w5) := hI5.kx
                    clear hI5 hN hc5 hk5
                    go_wp2_with fail
                    refine leaves_cons (f := 105) (args := #[.pointer (some ⟨w.heap.size, 0, none⟩)]) (by simp) (by simp [go_sem]) ?_
                    refine (leave_depth _ (.inl rfl) w5 B cb w.heap.size X fv pl res sc d l .returning HC5.out c05).mono ?_
                    rintro e u' w6 ⟨rfl, rfl, hC6, hK6⟩
                    exact ⟨_, results_tmp2 Tryz.results86 _ _ _, by rw [HR4.out]; rfl, hC6, HK5.out.trans hK6⟩
      · have hr := HR.out
        rw [hm1, hm2] at hr
        cases hr
        go_enter_defers Tryz.func86, Tryz.ntmps86
        go_wp2_with fail
        exact ⟨_, results_tmp2 Tryz.results86 _ _ _, rfl, HC2.out.chk, HK2.out⟩

end Go.Proofs.YtbpnfoihonehgabGreatDoor
