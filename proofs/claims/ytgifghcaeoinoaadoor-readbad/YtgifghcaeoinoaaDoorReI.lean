/-
  A function.
-/
import Derived.Test.YtgifghcaeoinoaaDoorReH
namespace Go.Proofs.YtgifghcaeoinoaaDoor
open Go.RowKit
set_option linter.unusedSimpArgs false
set_option linter.unusedVariables false

def IsFn (S : Nat → Prop) (w : World) (v : Value) (x : Fn') : Prop :=
  ∃ ap ab, v = .agg #[.string ⟨x.name.toArray⟩, ap, .int .i64 x.result, ab] ∧ Row S w (IsP S w) ap x.params ∧ Row S w (AnS S w) ab x.body

theorem moves_IsFn : Moves IsFn := by
  rintro S S' w w' v x ⟨ap, ab, hv, h1, h2⟩ k
  exact ⟨ap, ab, hv, h1.move k (fun _ _ h => h), h2.move k (fun _ _ h => h.move k)⟩

def ShF (v : Value) : Prop := ∃ s a l c i a' l' c', v = .agg #[.string s, .slice a l c, .int .i64 i, .slice a' l' c']

theorem IsFn.sh {S : Nat → Prop} {w : World} {v : Value} {x : Fn'} (h : IsFn S w v x) : ShF v := by
  obtain ⟨ap, ab, rfl, h1, h2⟩ := h
  obtain ⟨a, c, rfl⟩ := h1.slice
  obtain ⟨a', c', rfl⟩ := h2.slice
  exact ⟨_, _, _, _, _, _, _, _, rfl⟩

/-- what a call that reads a function leaves -/
def PostF (b bp cap T : Nat) (ps : List Tok) (q : RS) (w : World) (r : Sum (Int × Int) (Fn' × Nat)) (e : Ending) (w' : World) : Prop :=
  Kept b w w' ∧ match r with
  | .inl k => ∃ v n', ShF v ∧ e = .returned (.tuple #[v, .bool false]) ∧ Rdr w' b bp cap T ps ⟨n', q.depth, k.1, k.2⟩
  | .inr x => ∃ v, e = .returned (.tuple #[v, .bool true]) ∧ IsFn (fun g => w.heap.size ≤ g) w' v x.1 ∧ Rdr w' b bp cap T ps { q with next := x.2 }

def functionM (ps : List Tok) (B : Nat → Nat → R (List St)) (f d n : Nat) : R Fn' :=
  bindR (needM ps 2 [102, 117, 110, 99] n) fun _ n1 => bindR (nameM ps n1) fun s n2 => bindR (listM ps (paramM ps) f n2) fun l n3 =>
    if (l.length : Int) > 4 then badR ((cur ps n).at_, 10) else bindR (B d (typeP (cur ps n3) n3).2) fun body n5 => okR ⟨s, l, ((typeP (cur ps n3) n3).1 : Int), body⟩ n5

theorem fin_func {fn : Func} {Q : Ending → World → Prop} {a : Act} {w : World} {rt st x : Nat} {v0 v1 v2 v3 : Value} {ok : Bool} {T : TypeId} {f : Nat × Nat}
    (hres : fn.results = #[.cell rt 42, .tmp st]) (hp : a.tmps.getD rt undef = .pointer (some ⟨x, 0, none⟩)) (ho : a.tmps.getD st undef = .bool ok) (hd : a.defers = [])
    (hblk : w.heap[x]? = some (.cells #[v0, v1, v2, v3] T f)) (hQ : Q (.returned (.tuple #[.agg #[v0, v1, v2, v3], .bool ok])) w) : bodyPost Tryd.prog fn Q Exit.ret a w := by
  refine bodyPost_ret ?_ hd hQ
  obtain ⟨q0, q1, q2, q3⟩ := cells4 hblk
  simp only [Array.getD_eq_getD_getElem?] at hp ho
  simp [results, hres, hp, ho, go_sem, q0, q1, q2, q3]

theorem postF_bad {b bp cap T : Nat} {ps : List Tok} {q : RS} {w w2 W : World} {k : Int × Int} {n' x : Nat} {v0 : ByteArray} {v2 : Int} {a1 a3 : Option Addr} {l1 c1 l3 c3 : Nat} (h : Rdr w b bp cap T ps q)
    (kw : Kept b w w2) (kx : Kept x w2 W) (hx : w.heap.size ≤ x) (hR : Rdr w2 b bp cap T ps ⟨n', q.depth, k.1, k.2⟩) :
    PostF b bp cap T ps q w (.inl k) (.returned (.tuple #[.agg #[.string v0, .slice a1 l1 c1, .int .i64 v2, .slice a3 l3 c3], .bool false])) W := by
  have h1 := h.bsize; have h2 := h.lt; have h3 := h.far
  exact ⟨kw.own kx hx, _, n', ⟨_, _, _, _, _, _, _, _, rfl⟩, rfl, hR.own kx (by omega) (by omega) (by omega)⟩

set_option maxHeartbeats 3000000 in
theorem function_any {ps : List Tok} {B : Nat → Nat → R (List St)} (hB : SaidB ps B) (w : World) (b bp cap T f : Nat) (hf : f ≤ 1000000) (q : RS) (r : Sum (Int × Int) (Fn' × Nat)) (h : Rdr w b bp cap T ps q)
    (hr : functionM ps B f q.depth q.next = some r) :
    Calls Tryd.prog 29 #[.pointer (some ⟨b, 0, none⟩)] w (PostF b bp cap T ps q w r) := by
  have hbs := h.bsize
  have hps := h.lt
  have hfar := h.far
  have h0 := h.below (((Below.refl w.heap.size w).alloc (Nat.le_refl _) (.cells #[.string ⟨#[]⟩, .slice none 0 0, .int .i64 0, .slice none 0 0] 42)).alloc (by simp) (.cells #[.string ⟨#[]⟩, .slice none 0 0, .int .i64 0, .slice none 0 0] 42))
  have hx0 := (heap_alloc2 w (.cells #[.string ⟨#[]⟩, .slice none 0 0, .int .i64 0, .slice none 0 0] 42) (.cells #[.string ⟨#[]⟩, .slice none 0 0, .int .i64 0, .slice none 0 0] 42)).1
  have hy0 := (heap_alloc2 w (.cells #[.string ⟨#[]⟩, .slice none 0 0, .int .i64 0, .slice none 0 0] 42) (.cells #[.string ⟨#[]⟩, .slice none 0 0, .int .i64 0, .slice none 0 0] 42)).2
  unfold functionM at hr
  go_enter Tryd.func29, Tryd.ntmps29
  go_wp2_with fail
  refine (peek_any _ _ _ _ _ _ _ h0).mono ?_
  rintro e w1 ⟨rfl, hb1⟩
  unfold Tok.val
  have h1 := h0.below hb1
  have hs1 := hb1.size
  simp at hs1
  have hx1 := (hb1.block w.heap.size (by simp; omega)).trans hx0
  have hy1 := (hb1.block (w.heap.size + 1) (by simp)).trans hy0
  have kw1 : Kept b w w1 := (((Kept.refl b w).alloc (.cells #[.string ⟨#[]⟩, .slice none 0 0, .int .i64 0, .slice none 0 0] 42)).alloc (.cells #[.string ⟨#[]⟩, .slice none 0 0, .int .i64 0, .slice none 0 0] 42)).trans (Kept.of_below hb1)
  clear h0 hx0 hy0 hb1
  go_wp2_with fail
  rcases bindR_some hr with ⟨k, g1, rfl⟩ | ⟨u, n1, g1, g2⟩
  · rcases needM_some g1 with ⟨hT, h3⟩ | ⟨hT, h3⟩
    · cases h3
    · cases h3
      refine (keyword_no _ _ _ _ _ _ _ _ h1 hT).mono ?_
      rintro e w2 ⟨rfl, hR, k2⟩
      have hblk := (k2.block w.heap.size (by omega) (by omega)).trans hx1
      have hc := cells4 hblk
      have hz := thaw4 hblk
      go_wp2_with fail
      exact fin_func Tryd.results29 rfl rfl rfl (store4 hblk _ _ _ _) (postF_bad h (kw1.trans k2) (kept4 _ _ _ _ _ _) (Nat.le_refl _) hR)
  · rcases needM_some g1 with ⟨hT, h3⟩ | ⟨hT, h3⟩
    · cases h3
      refine (keyword_yes _ _ _ _ _ _ _ _ h1 hT).mono ?_
      rintro e w2 ⟨rfl, hR2, k2⟩
      have hs2 := k2.size
      have hx2 := (k2.block w.heap.size (by omega) (by omega)).trans hx1
      have hy2 := (k2.block (w.heap.size + 1) (by omega) (by omega)).trans hy1
      have kw2 := kw1.trans k2
      clear h1 hx1 hy1
      go_wp2_with fail
      rcases bindR_some g2 with ⟨k, g3, rfl⟩ | ⟨nm, n2, g3, g4⟩
      · rcases nameM_some g3 with ⟨hN, h6⟩ | ⟨hN, h6⟩
        · cases h6
        · cases h6
          refine (name_no _ _ _ _ _ _ _ hR2 hN).mono ?_
          rintro e w3 ⟨rfl, hR3, k3⟩
          have hs3 := k3.size
          have hx3 := (k3.block w.heap.size (by omega) (by omega)).trans hx2
          have hy3 := (k3.block (w.heap.size + 1) (by omega) (by omega)).trans hy2
          have hcx := cells4 hx3
          have hzx := thaw4 hx3
          have hcy := cells4 hy3
          have hzy := thaw4 hy3
          have kZ : Kept (w.heap.size + 1) w3 (w3.setCell ⟨w.heap.size + 1, 0, none⟩ (.string ⟨#[]⟩)) := (Kept.refl _ _).setCell _ _
          go_wp2_with fail
          exact fin_func Tryd.results29 rfl rfl rfl (store4 ((kZ.block _ (by omega) (by omega)).trans hx3) _ _ _ _) (postF_bad h ((kw2.trans k3).own kZ (by omega)) (kept4 _ _ _ _ _ _) (Nat.le_refl _) (hR3.own kZ (by omega) (by omega) (by omega)))
      · rcases nameM_some g3 with ⟨hN, h6⟩ | ⟨hN, h6⟩
        · cases h6
          refine (name_yes _ _ _ _ _ _ _ hR2 hN).mono ?_
          rintro e w3 ⟨rfl, hR3, k3⟩
          have hs3 := k3.size
          have hx3 := (k3.block w.heap.size (by omega) (by omega)).trans hx2
          have hy3 := (k3.block (w.heap.size + 1) (by omega) (by omega)).trans hy2
          have hcy := cells4 hy3
          have hzy := thaw4 hy3
          have kZ : Kept (w.heap.size + 1) w3 (w3.setCell ⟨w.heap.size + 1, 0, none⟩ (.string ⟨(cur ps (q.next + 1)).s.toArray⟩)) := (Kept.refl _ _).setCell _ _
          have hx4 := (kZ.block _ (by omega) (by omega)).trans hx3
          have hy4 := heap_setCell_same (o := 0) hy3 (.string ⟨(cur ps (q.next + 1)).s.toArray⟩)
          have kw4 := (kw2.trans k3).own kZ (by omega)
          have hR4 := hR3.own kZ (by omega) (by omega) (by omega)
          have hs4 := kZ.size
          go_wp2_with fail
          generalize w3.setCell ⟨w.heap.size + 1, 0, none⟩ (.string ⟨(cur ps (q.next + 1)).s.toArray⟩) = w4 at *
          simp at hy4
          clear hcy hzy hy3 hx3 hx2 hy2 hR2 hR3
          rcases bindR_some g4 with ⟨k, g5, rfl⟩ | ⟨l, n3, g5, g6⟩
          · refine (params_any _ b bp cap T f hf _ _ hR4 g5).mono ?_
            rintro e w5 ⟨k5, a, l, c, n', rfl, hR5⟩
            have hs5 := k5.size
            have hx5 := (k5.block w.heap.size (by omega) (by omega)).trans hx4
            have hy5 := (k5.block (w.heap.size + 1) (by omega) (by omega)).trans hy4
            have hcx := cells4 hx5
            have hzx := thaw4 hx5
            have hcy := cells4 hy5
            have hzy := thaw4 hy5
            have kY : Kept (w.heap.size + 1) w5 (w5.setCell ⟨w.heap.size + 1, 1, none⟩ (.slice a l c)) := (Kept.refl _ _).setCell _ _
            go_wp2_with fail
            exact fin_func Tryd.results29 rfl rfl rfl (store4 ((kY.block _ (by omega) (by omega)).trans hx5) _ _ _ _) (postF_bad h ((kw4.trans k5).own kY (by omega)) (kept4 _ _ _ _ _ _) (Nat.le_refl _) (hR5.own kY (by omega) (by omega) (by omega)))
          · refine (params_any _ b bp cap T f hf _ _ hR4 g5).mono ?_
            rintro e w5 ⟨k5, a, c, rfl, hrow, hR5⟩
            have hs5 := k5.size
            have hx5 := (k5.block w.heap.size (by omega) (by omega)).trans hx4
            have hy5 := (k5.block (w.heap.size + 1) (by omega) (by omega)).trans hy4
            have hcy := cells4 hy5
            have hzy := thaw4 hy5
            have kY : Kept (w.heap.size + 1) w5 (w5.setCell ⟨w.heap.size + 1, 1, none⟩ (.slice a l.length c)) := (Kept.refl _ _).setCell _ _
            have hx6 := (kY.block _ (by omega) (by omega)).trans hx5
            have hy6 := heap_setCell_same (o := 1) hy5 (.slice a l.length c)
            have kw6 := (kw4.trans k5).own kY (by omega)
            have hR6 := hR5.own kY (by omega) (by omega) (by omega)
            have hs6 := kY.size
            have HR6 : Hid (Row (fun g => w4.heap.size ≤ g) (w5.setCell ⟨w.heap.size + 1, 1, none⟩ (.slice a l.length c)) (IsP (fun g => w4.heap.size ≤ g) w5) (.slice a l.length c) l) := hrow.own kY (fun g hg => ⟨by omega, hg⟩) (fun _ _ h => h)
            clear hrow
            by_cases hlen : (l.length : Int) > 4
            · rw [if_pos hlen] at g6
              cases g6
              have hlb : decide ((4 : Int) < (l.length : Int)) = true := by simpa using hlen
              go_wp2_with fail
              refine (fail_any _ _ _ _ _ _ _ _ _ hR6).mono ?_
              rintro e w7 ⟨rfl, hR7, k7⟩
              have hs7 := k7.size
              have hx7 := (k7.block w.heap.size (by omega) (by omega)).trans hx6
              have hcx := cells4 hx7
              have hzx := thaw4 hx7
              go_wp2_with fail
              exact fin_func Tryd.results29 rfl rfl rfl (store4 hx7 _ _ _ _) (postF_bad h (kw6.trans k7) (kept4 _ _ _ _ _ _) (Nat.le_refl _) hR7)
            · rw [if_neg hlen] at g6
              have hlb : decide ((4 : Int) < (l.length : Int)) = false := by simpa using hlen
              have hlb2 : (l.length : Int) ≤ 4 := by omega
              clear hlen
              go_wp2_with fail
              generalize w5.setCell ⟨w.heap.size + 1, 1, none⟩ (.slice a l.length c) = w6 at *
              simp at hy6
              clear hcy hzy hy5 hx5 hR5 hx4 hy4 hR4
              refine (skipType_any _ _ _ _ _ _ _ hR6).mono ?_
              generalize hty : typeP (cur ps n3) n3 = ty at g6 ⊢
              obtain ⟨t, n4⟩ := ty
              rintro e w7 ⟨rfl, hR7, k7⟩
              simp only at g6 hR7 ⊢
              have hs7 := k7.size
              have hx7 := (k7.block w.heap.size (by omega) (by omega)).trans hx6
              have hy7 := (k7.block (w.heap.size + 1) (by omega) (by omega)).trans hy6
              have hcy := cells4 hy7
              have hzy := thaw4 hy7
              have kX : Kept (w.heap.size + 1) w7 (w7.setCell ⟨w.heap.size + 1, 2, none⟩ (.int .i64 t)) := (Kept.refl _ _).setCell _ _
              have hx8 := (kX.block _ (by omega) (by omega)).trans hx7
              have hy8 := heap_setCell_same (o := 2) hy7 (.int .i64 t)
              have kw8 := (kw6.trans k7).own kX (by omega)
              have hR8 := hR7.own kX (by omega) (by omega) (by omega)
              have hs8 := kX.size
              have HR8 : Hid (Row (fun g => w4.heap.size ≤ g) (w7.setCell ⟨w.heap.size + 1, 2, none⟩ (.int .i64 t)) (IsP (fun g => w4.heap.size ≤ g) w5) (.slice a l.length c) l) := (HR6.out.own (Q := IsP (fun g => w4.heap.size ≤ g) w5) k7 (fun g hg => ⟨by omega, hg⟩) (fun _ _ h => h)).own kX (fun g hg => ⟨by omega, hg⟩) (fun _ _ h => h)
              go_wp2_with fail
              generalize w7.setCell ⟨w.heap.size + 1, 2, none⟩ (.int .i64 t) = w8 at *
              simp at hy8
              clear hcy hzy hy7 hx7 hR7 hx6 hy6 hR6
              rcases bindR_some g6 with ⟨k, g7, rfl⟩ | ⟨body, n5, g7, g8⟩
              · refine (hB _ _ _ _ _ _ _ hR8 g7).mono ?_
                rintro e w9 ⟨k9, a', l', c', n', rfl, hR9⟩
                have hs9 := k9.size
                have hx9 := (k9.block w.heap.size (by omega) (by omega)).trans hx8
                have hy9 := (k9.block (w.heap.size + 1) (by omega) (by omega)).trans hy8
                have hcx := cells4 hx9
                have hzx := thaw4 hx9
                have hcy := cells4 hy9
                have hzy := thaw4 hy9
                have kV : Kept (w.heap.size + 1) w9 (w9.setCell ⟨w.heap.size + 1, 3, none⟩ (.slice a' l' c')) := (Kept.refl _ _).setCell _ _
                go_wp2_with fail
                exact fin_func Tryd.results29 rfl rfl rfl (store4 ((kV.block _ (by omega) (by omega)).trans hx9) _ _ _ _) (postF_bad h ((kw8.trans k9).own kV (by omega)) (kept4 _ _ _ _ _ _) (Nat.le_refl _) (hR9.own kV (by omega) (by omega) (by omega)))
              · cases g8
                refine (hB _ _ _ _ _ _ _ hR8 g7).mono ?_
                rintro e w9 ⟨k9, a', c', rfl, hrb, hR9⟩
                have hs9 := k9.size
                have hx9 := (k9.block w.heap.size (by omega) (by omega)).trans hx8
                have hy9 := (k9.block (w.heap.size + 1) (by omega) (by omega)).trans hy8
                have hcx := cells4 hx9
                have hzx := thaw4 hx9
                have hcy := cells4 hy9
                have hzy := thaw4 hy9
                have kV : Kept (w.heap.size + 1) w9 (w9.setCell ⟨w.heap.size + 1, 3, none⟩ (.slice a' body.length c')) := (Kept.refl _ _).setCell _ _
                have HB9 : Hid (Row (fun g => w8.heap.size ≤ g) w9 (AnS (fun g => w8.heap.size ≤ g) w9) (.slice a' body.length c') body) := hrb
                have HP9 : Hid (Row (fun g => w4.heap.size ≤ g) w9 (IsP (fun g => w4.heap.size ≤ g) w5) (.slice a l.length c) l) := HR8.out.own k9 (fun g hg => ⟨by omega, hg⟩) (fun _ _ h => h)
                clear hrb
                go_wp2_with fail
                have kS := kept4 w.heap.size (w9.setCell ⟨w.heap.size + 1, 3, none⟩ (.slice a' body.length c')) (.string ⟨(cur ps (q.next + 1)).s.toArray⟩) (.slice a l.length c) (.int .i64 t) (.slice a' body.length c')
                refine fin_func Tryd.results29 rfl rfl rfl (store4 ((kV.block _ (by omega) (by omega)).trans hx9) _ _ _ _) ⟨((kw8.trans k9).own kV (by omega)).own kS (Nat.le_refl _), _, rfl, ⟨_, _, rfl, ?_, ?_⟩, (hR9.own kV (by omega) (by omega) (by omega)).own kS (by omega) (by omega) (by omega)⟩
                · exact (HP9.out.own (S' := fun g => w4.heap.size ≤ g) (Q := IsP (fun g => w4.heap.size ≤ g) w5) kV (fun g hg => ⟨by omega, hg⟩) (fun _ _ h => h)).own kS (fun g hg => ⟨by omega, by omega⟩) (fun _ _ h => h)
                · exact (HB9.out.own (S' := fun g => w8.heap.size ≤ g) kV (fun g hg => ⟨by omega, hg⟩) (fun _ _ h => h.own kV (fun g hg => ⟨by omega, hg⟩))).own kS (fun g hg => ⟨by omega, by omega⟩) (fun _ _ h => h.own kS (fun g hg => ⟨by omega, by omega⟩))
        · cases h6
    · cases h3

end Go.Proofs.YtgifghcaeoinoaaDoor
