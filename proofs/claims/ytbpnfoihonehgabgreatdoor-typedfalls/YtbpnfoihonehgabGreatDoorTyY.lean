/-
  Statements.
-/
import Derived.Test.YtbpnfoihonehgabGreatDoorTyV
namespace Go.Proofs.YtbpnfoihonehgabGreatDoor
open Go.RowKit Go.Maps
set_option linter.unusedSimpArgs false
set_option linter.unusedVariables false

set_option maxHeartbeats 2000000 in
set_option maxRecDepth 20000 in
theorem stmt_13 {B cb : Nat} {fv : Value} {fs : List Fn'} {pl : DataW Unit} {res : Int} (w : World) (X : List Nat) (sc : List (DataW Unit)) (D : DataW Unit) (d l : Nat) (v : Value) (s : St) (K : Option (Int × DataW Unit)) (r : Int × DataW Unit) (h : Ctx w B cb X fv fs pl res (sc ++ [D]) d l) (hs : AnS (fun g => g < B) w v s) (hk : s.kind = 13)
    (hr : stmtK 1 1 s d D K = some r) (hin : ∀ r, K = some r → ∃ x, s.exprs[0]? = some x ∧ ∀ w3 v, Ctx w3 B cb X fv fs pl res (sc ++ [D]) (d + 1) l → AnE (fun g => g < B) w3 v x → Calls Tryz.prog 70 #[.pointer (some ⟨cb, 0, none⟩), v] w3 (PostT w3 B cb X fv pl res (sc ++ [r.2]) (d + 1) l r.1)) :
    Calls Tryz.prog 50 #[.pointer (some ⟨cb, 0, none⟩), v] w (PostT w B cb X fv pl res (sc ++ [r.2]) d l r.1) := by
  have hmf := mkf
  have e0 := h.tab.ec 26 (by decide)
  have e1 := h.tab.ec 27 (by decide)
  have hgl : 3 < w.heap.size := World.block_lt_of_cell? w ⟨3, 26, none⟩ e0
  simp only [ecL] at e0 e1
  simp at e0 e1
  have HS : Hid (AnS (fun g => g < B) w v s) := hs
  have HH : Hid (Ctx w B cb X fv fs pl res (sc ++ [D]) d l) := h
  obtain ⟨ae, ce, ab, cq, al, cl, ac, cc, rfl, hre, hrb, hrl, hrc⟩ := anS_parts hs
  rw [hk]
  have hkb : Below w.heap.size w (((w.alloc (.cells #[.pointer (some ⟨cb, 0, none⟩)] 55)).alloc (.cells #[.int .i64 13, .string ⟨s.s.toArray⟩, .string ⟨s.t.toArray⟩, .slice ae s.exprs.length ce, .slice ab s.body.length cq, .slice al s.els.length cl, .slice ac s.cases.length cc] 63)).alloc (.cells #[.int .i64 1, .int .i64 1] 112)) := (((Below.refl _ _).alloc (Nat.le_refl _) _).alloc (by simp) _).alloc (by simp; omega) _
  have HC3 : Hid (_) := h.add hkb
  have HK3 : Hid (KX X X w (((w.alloc (.cells #[.pointer (some ⟨cb, 0, none⟩)] 55)).alloc (.cells #[.int .i64 13, .string ⟨s.s.toArray⟩, .string ⟨s.t.toArray⟩, .slice ae s.exprs.length ce, .slice ab s.body.length cq, .slice al s.els.length cl, .slice ac s.cases.length cc] 63)).alloc (.cells #[.int .i64 1, .int .i64 1] 112))) := KX.of_below hkb
  have HAL : Hid (_) := heap_alloc3t w (.cells #[.pointer (some ⟨cb, 0, none⟩)] 55) (.cells #[.int .i64 13, .string ⟨s.s.toArray⟩, .string ⟨s.t.toArray⟩, .slice ae s.exprs.length ce, .slice ab s.body.length cq, .slice al s.els.length cl, .slice ac s.cases.length cc] 63) (.cells #[.int .i64 1, .int .i64 1] 112)
  have HNX : Hid (w.heap.size ∉ X) := fun hm => by have := (h.chk.low _ hm).2; omega
  have HNX1 : Hid (w.heap.size + 1 ∉ X) := fun hm => by have := (h.chk.low _ hm).2; omega
  have HSZ : Hid (w.heap.size + 1 < (((w.alloc (.cells #[.pointer (some ⟨cb, 0, none⟩)] 55)).alloc (.cells #[.int .i64 13, .string ⟨s.s.toArray⟩, .string ⟨s.t.toArray⟩, .slice ae s.exprs.length ce, .slice ab s.body.length cq, .slice al s.els.length cl, .slice ac s.cases.length cc] 63)).alloc (.cells #[.int .i64 1, .int .i64 1] 112)).heap.size) := by unfold Hid; simp
  have HRE : Hid (Row (fun g => g < B) w (AnE (fun g => g < B) w) (.slice ae s.exprs.length ce) s.exprs) := hre
  clear hre hrb hrl hrc hs hkb h
  unfold stmtK at hr
  by_cases hlo : s.exprs.length < 1
  · rw [if_pos hlo] at hr
    cases hr
    have hloI : ((s.exprs.length : Nat) : Int) < 1 := by omega
    clear hlo
    go_enter_defers Tryz.func50, Tryz.ntmps50
    go_wp2_with fail
    exact ⟨_, results_tmp1 Tryz.results50, rfl, X, HC3.out.chk, HK3.out⟩
  rw [if_neg hlo] at hr
  by_cases hhi : 1 < s.exprs.length
  · rw [if_pos hhi] at hr
    cases hr
    have hhiI : 1 < ((s.exprs.length : Nat) : Int) := by omega
    have hloI : 1 ≤ ((s.exprs.length : Nat) : Int) := by omega
    clear hhi
    go_enter_defers Tryz.func50, Tryz.ntmps50
    go_wp2_with fail
    exact ⟨_, results_tmp1 Tryz.results50, rfl, X, HC3.out.chk, HK3.out⟩
  rw [if_neg hhi] at hr
  by_cases hd : 120 ≤ d
  · rw [if_pos hd] at hr
    cases hr
    have hhiI : ((s.exprs.length : Nat) : Int) ≤ 1 := by omega
    have hloI : 1 ≤ ((s.exprs.length : Nat) : Int) := by omega
    go_enter_defers Tryz.func50, Tryz.ntmps50
    go_wp2_with fail
    refine (enter_no_t _ B cb X fv pl res (sc ++ [D]) d l HC3.out.chk hd).mono ?_
    rintro e w1 ⟨rfl, hw1⟩
    have hw1' := hw1.symm
    subst hw1'
    clear hd
    go_wp2_with fail
    exact ⟨_, results_tmp1 Tryz.results50, rfl, X, HC3.out.chk, HK3.out⟩
  · rw [if_neg hd] at hr
    have hhiI : ((s.exprs.length : Nat) : Int) ≤ 1 := by omega
    have hloI : 1 ≤ ((s.exprs.length : Nat) : Int) := by omega
    have hds : d < 120 := by omega
    obtain ⟨x, hx, hin⟩ := hin r hr
    have HX : Hid (s.exprs[0]? = some x) := hx
    have HIN : Hid (_) := hin
    have hlenI : (0 : Int) < (s.exprs.length : Int) := by omega
    clear hin hx
    clear hr hhi hd hlo
    go_enter_defers Tryz.func50, Tryz.ntmps50
    go_wp2_with fail
    refine (enter_yes_t _ B cb X fv pl res (sc ++ [D]) d l HC3.out.chk hds).mono ?_
    · rintro e w4 ⟨rfl, hc4, hk4⟩
      have HC4 : Hid (Ctx w4 B cb X fv fs pl res (sc ++ [D]) (d + 1) l) := HC3.out.next hc4 hk4
      have HK4 : Hid (KX X X w w4) := HK3.out.trans hk4
      have HB0 : Hid (w4.heap[w.heap.size]? = some (.cells #[.pointer (some ⟨cb, 0, none⟩)] 55)) := blk_kx hk4 HNX.out HAL.out.1
      have HB1 : Hid (w4.heap[w.heap.size + 1]? = some (.cells #[.int .i64 13, .string ⟨s.s.toArray⟩, .string ⟨s.t.toArray⟩, .slice ae s.exprs.length ce, .slice ab s.body.length cq, .slice al s.els.length cl, .slice ac s.cases.length cc] 63)) := blk_kx hk4 HNX1.out HAL.out.2
      have HS4 : Hid (AnS (fun g => g < B) w4 _ s) := AnS.bel HS.out (HH.out.bel HK4.out)
      rw [hk] at HS4
      have c04 : w4.cell? ⟨w.heap.size, 0, none⟩ = some (.pointer (some ⟨cb, 0, none⟩)) := by simp [World.cell?, HB0.out]
      have c14 := cells7 HB1.out
      have hlt0 := lt_of_block HB0.out
      have hlt1 := lt_of_block HB1.out
      clear hc4 hk4 e0 e1 hgl
      obtain ⟨g, y0, y1, y2, y3, l3, c3, rfl, _, hAx, p0, p1, p2, p3, hgB⟩ := row_first HRE.out 0 HX.out ((HH.out.bel HK4.out).trans (Below.refl _ _).drew)
      simp only [Nat.zero_mul, Nat.zero_add] at p0 p1 p2 p3
      have HAX : Hid (_) := hAx
      have HCd : Hid (_) := HC4.out.add (Below.refl _ _).drew
      have hgl4 : g < w4.heap.size := World.block_lt_of_cell? w4.drew ⟨g, 0, none⟩ p0
      clear hAx
      go_wp2_with fail
      refine wp_region_noPanic ?_
      go_region_with (go_at_call 70; refine (HIN.out _ _ HCd.out HAX.out).mono ?_; rintro e w5 ⟨rfl, X5, hc5, hk5⟩)
      all_goals
        have HK5 : Hid (KX X X5 w w5) := (HK4.out.drew).trans hk5
        have hb5 := blk_kx hk5 HNX.out (blk_drew HB0.out)
        have c05 : w5.cell? ⟨w.heap.size, 0, none⟩ = some (.pointer (some ⟨cb, 0, none⟩)) := by simp [World.cell?, hb5]
        have hlt5 := lt_of_block hb5
        have HC5 : Hid (_) := hc5
        clear hc5 hk5 hb5
        refine NoPanic.normal ?_
        go_wp2_with fail
        refine leaves_cons (f := 67) (args := #[.pointer (some ⟨w.heap.size, 0, none⟩)]) (by simp) (by simp [go_sem]) ?_
        refine (leave_depth _ (.inr rfl) _ B cb w.heap.size X5 fv pl res (sc ++ [r.2]) d l .returning HC5.out c05).mono ?_
        rintro e u' w6 ⟨rfl, rfl, hC6, hK6⟩
        exact ⟨_, results_tmp1 Tryz.results50, rfl, X5, hC6, HK5.out.trans hK6⟩

end Go.Proofs.YtbpnfoihonehgabGreatDoor
