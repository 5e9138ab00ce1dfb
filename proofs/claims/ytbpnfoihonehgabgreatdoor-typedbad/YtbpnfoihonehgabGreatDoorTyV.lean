/-
  Statements.
-/
import Derived.Test.YtbpnfoihonehgabGreatDoorTyU
namespace Go.Proofs.YtbpnfoihonehgabGreatDoor
open Go.RowKit Go.Maps
set_option linter.unusedSimpArgs false
set_option linter.unusedVariables false

def stmtK (lo hi : Nat) (s : St) (d : Nat) (D : DataW Unit) (K : Option (Int × DataW Unit)) : Option (Int × DataW Unit) :=
  if s.exprs.length < lo then some (10, D) else if hi < s.exprs.length then some (10, D) else if 120 ≤ d then some (8, D) else K

theorem heap_alloc3t (w : World) (a b c : Obj) : (((w.alloc a).alloc b).alloc c).heap[w.heap.size]? = some a ∧ (((w.alloc a).alloc b).alloc c).heap[w.heap.size + 1]? = some b := by
  have h := heap_alloc2 w a b
  exact ⟨blk_alloc h.1 _, blk_alloc h.2 _⟩

set_option maxHeartbeats 2000000 in
set_option maxRecDepth 20000 in
theorem stmt_8 {B cb : Nat} {fv : Value} {fs : List Fn'} {pl : DataW Unit} {res : Int} (w : World) (X : List Nat) (sc : List (DataW Unit)) (D : DataW Unit) (d l : Nat) (v : Value) (s : St) (K : Option (Int × DataW Unit)) (r : Int × DataW Unit) (h : Ctx w B cb X fv fs pl res (sc ++ [D]) d l) (hs : AnS (fun g => g < B) w v s) (hk : s.kind = 8)
    (hr : stmtK 0 2 s d D K = some r) (hin : ∀ r, K = some r → ∀ w3, Ctx w3 B cb X fv fs pl res (sc ++ [D]) (d + 1) l → AnS (fun g => g < B) w3 v s → Calls Tryz.prog 69 #[.pointer (some ⟨cb, 0, none⟩), v] w3 (PostT w3 B cb X fv pl res (sc ++ [r.2]) (d + 1) l r.1)) :
    Calls Tryz.prog 50 #[.pointer (some ⟨cb, 0, none⟩), v] w (PostT w B cb X fv pl res (sc ++ [r.2]) d l r.1) := by
  have hmf := mkf
  have e0 := h.tab.ec 16 (by decide)
  have e1 := h.tab.ec 17 (by decide)
  have hgl : 3 < w.heap.size := World.block_lt_of_cell? w ⟨3, 16, none⟩ e0
  simp only [ecL] at e0 e1
  simp at e0 e1
  have HS : Hid (AnS (fun g => g < B) w v s) := hs
  have HH : Hid (Ctx w B cb X fv fs pl res (sc ++ [D]) d l) := h
  obtain ⟨ae, ce, ab, cq, al, cl, ac, cc, rfl, hre, hrb, hrl, hrc⟩ := anS_parts hs
  rw [hk]
  have hkb : Below w.heap.size w (((w.alloc (.cells #[.pointer (some ⟨cb, 0, none⟩)] 55)).alloc (.cells #[.int .i64 8, .string ⟨s.s.toArray⟩, .string ⟨s.t.toArray⟩, .slice ae s.exprs.length ce, .slice ab s.body.length cq, .slice al s.els.length cl, .slice ac s.cases.length cc] 63)).alloc (.cells #[.int .i64 0, .int .i64 2] 112)) := (((Below.refl _ _).alloc (Nat.le_refl _) _).alloc (by simp) _).alloc (by simp; omega) _
  have HC3 : Hid (_) := h.add hkb
  have HK3 : Hid (KX X X w (((w.alloc (.cells #[.pointer (some ⟨cb, 0, none⟩)] 55)).alloc (.cells #[.int .i64 8, .string ⟨s.s.toArray⟩, .string ⟨s.t.toArray⟩, .slice ae s.exprs.length ce, .slice ab s.body.length cq, .slice al s.els.length cl, .slice ac s.cases.length cc] 63)).alloc (.cells #[.int .i64 0, .int .i64 2] 112))) := KX.of_below hkb
  have HAL : Hid (_) := heap_alloc3t w (.cells #[.pointer (some ⟨cb, 0, none⟩)] 55) (.cells #[.int .i64 8, .string ⟨s.s.toArray⟩, .string ⟨s.t.toArray⟩, .slice ae s.exprs.length ce, .slice ab s.body.length cq, .slice al s.els.length cl, .slice ac s.cases.length cc] 63) (.cells #[.int .i64 0, .int .i64 2] 112)
  have HNX : Hid (w.heap.size ∉ X) := fun hm => by have := (h.chk.low _ hm).2; omega
  have HNX1 : Hid (w.heap.size + 1 ∉ X) := fun hm => by have := (h.chk.low _ hm).2; omega
  have HSZ : Hid (w.heap.size + 1 < (((w.alloc (.cells #[.pointer (some ⟨cb, 0, none⟩)] 55)).alloc (.cells #[.int .i64 8, .string ⟨s.s.toArray⟩, .string ⟨s.t.toArray⟩, .slice ae s.exprs.length ce, .slice ab s.body.length cq, .slice al s.els.length cl, .slice ac s.cases.length cc] 63)).alloc (.cells #[.int .i64 0, .int .i64 2] 112)).heap.size) := by unfold Hid; simp
  clear hre hrb hrl hrc hs hkb h
  unfold stmtK at hr
  rw [if_neg (by omega)] at hr
  by_cases hhi : 2 < s.exprs.length
  · rw [if_pos hhi] at hr
    cases hr
    have hhiI : 2 < ((s.exprs.length : Nat) : Int) := by omega
    have hloI : 0 ≤ ((s.exprs.length : Nat) : Int) := by omega
    clear hhi
    go_enter_defers Tryz.func50, Tryz.ntmps50
    go_wp2_with fail
    exact ⟨_, results_tmp1 Tryz.results50, rfl, X, HC3.out.chk, HK3.out⟩
  rw [if_neg hhi] at hr
  by_cases hd : 120 ≤ d
  · rw [if_pos hd] at hr
    cases hr
    have hhiI : ((s.exprs.length : Nat) : Int) ≤ 2 := by omega
    have hloI : 0 ≤ ((s.exprs.length : Nat) : Int) := by omega
    go_enter_defers Tryz.func50, Tryz.ntmps50
    go_wp2_with fail
    refine (enter_no_t _ B cb X fv pl res (sc ++ [D]) d l HC3.out.chk hd).mono ?_
    rintro e w1 ⟨rfl, hw1⟩
    have hw1' := hw1.symm
    subst hw1'
    clear hd
    go_wp2_with fail
    exact ⟨_, results_tmp1 Tryz.results50, rfl, X, HC3.out.chk, HK3.out⟩
  · rw [if_neg hd] at hr
    have hhiI : ((s.exprs.length : Nat) : Int) ≤ 2 := by omega
    have hloI : 0 ≤ ((s.exprs.length : Nat) : Int) := by omega
    have hds : d < 120 := by omega
    have HIN : Hid (_) := hin r hr
    rw [hk] at HIN
    clear hin
    clear hr hhi hd
    go_enter_defers Tryz.func50, Tryz.ntmps50
    go_wp2_with fail
    refine (enter_yes_t _ B cb X fv pl res (sc ++ [D]) d l HC3.out.chk hds).mono ?_
    · rintro e w4 ⟨rfl, hc4, hk4⟩
      have HC4 : Hid (Ctx w4 B cb X fv fs pl res (sc ++ [D]) (d + 1) l) := HC3.out.next hc4 hk4
      have HK4 : Hid (KX X X w w4) := HK3.out.trans hk4
      have HB0 : Hid (w4.heap[w.heap.size]? = some (.cells #[.pointer (some ⟨cb, 0, none⟩)] 55)) := blk_kx hk4 HNX.out HAL.out.1
      have HB1 : Hid (w4.heap[w.heap.size + 1]? = some (.cells #[.int .i64 8, .string ⟨s.s.toArray⟩, .string ⟨s.t.toArray⟩, .slice ae s.exprs.length ce, .slice ab s.body.length cq, .slice al s.els.length cl, .slice ac s.cases.length cc] 63)) := blk_kx hk4 HNX1.out HAL.out.2
      have HS4 : Hid (AnS (fun g => g < B) w4 _ s) := AnS.bel HS.out (HH.out.bel HK4.out)
      rw [hk] at HS4
      have c04 : w4.cell? ⟨w.heap.size, 0, none⟩ = some (.pointer (some ⟨cb, 0, none⟩)) := by simp [World.cell?, HB0.out]
      have c14 := cells7 HB1.out
      have hlt0 := lt_of_block HB0.out
      have hlt1 := lt_of_block HB1.out
      clear hc4 hk4 e0 e1 hgl
      go_wp2_with fail
      refine (HIN.out w4 HC4.out HS4.out).mono ?_
      rintro e w5 ⟨rfl, X5, hc5, hk5⟩
      have HC5 : Hid (_) := hc5
      have HK5 : Hid (KX X X5 w w5) := HK4.out.trans hk5
      have hb5 := blk_kx hk5 HNX.out HB0.out
      have c05 : w5.cell? ⟨w.heap.size, 0, none⟩ = some (.pointer (some ⟨cb, 0, none⟩)) := by simp [World.cell?, hb5]
      clear hc5 hk5 hb5
      go_wp2_with fail
      refine leaves_cons (f := 67) (args := #[.pointer (some ⟨w.heap.size, 0, none⟩)]) (by simp) (by simp [go_sem]) ?_
      refine (leave_depth _ (.inr rfl) _ B cb w.heap.size X5 fv pl res (sc ++ [r.2]) d l .returning HC5.out c05).mono ?_
      rintro e u' w6 ⟨rfl, rfl, hC6, hK6⟩
      exact ⟨_, results_tmp1 Tryz.results50, rfl, X5, hC6, HK5.out.trans hK6⟩

set_option maxHeartbeats 2000000 in
set_option maxRecDepth 20000 in
theorem stmt_10 {B cb : Nat} {fv : Value} {fs : List Fn'} {pl : DataW Unit} {res : Int} (w : World) (X : List Nat) (sc : List (DataW Unit)) (D : DataW Unit) (d l : Nat) (v : Value) (s : St) (K : Option (Int × DataW Unit)) (r : Int × DataW Unit) (h : Ctx w B cb X fv fs pl res (sc ++ [D]) d l) (hs : AnS (fun g => g < B) w v s) (hk : s.kind = 10)
    (hr : stmtK 0 0 s d D K = some r) (hK : K = some (if (l : Int) == 0 then (12, D) else (0, D))) :
    Calls Tryz.prog 50 #[.pointer (some ⟨cb, 0, none⟩), v] w (PostT w B cb X fv pl res (sc ++ [r.2]) d l r.1) := by
  have hmf := mkf
  have e0 := h.tab.ec 20 (by decide)
  have e1 := h.tab.ec 21 (by decide)
  have hgl : 3 < w.heap.size := World.block_lt_of_cell? w ⟨3, 20, none⟩ e0
  simp only [ecL] at e0 e1
  simp at e0 e1
  have HS : Hid (AnS (fun g => g < B) w v s) := hs
  have HH : Hid (Ctx w B cb X fv fs pl res (sc ++ [D]) d l) := h
  obtain ⟨ae, ce, ab, cq, al, cl, ac, cc, rfl, hre, hrb, hrl, hrc⟩ := anS_parts hs
  rw [hk]
  have hkb : Below w.heap.size w (((w.alloc (.cells #[.pointer (some ⟨cb, 0, none⟩)] 55)).alloc (.cells #[.int .i64 10, .string ⟨s.s.toArray⟩, .string ⟨s.t.toArray⟩, .slice ae s.exprs.length ce, .slice ab s.body.length cq, .slice al s.els.length cl, .slice ac s.cases.length cc] 63)).alloc (.cells #[.int .i64 0, .int .i64 0] 112)) := (((Below.refl _ _).alloc (Nat.le_refl _) _).alloc (by simp) _).alloc (by simp; omega) _
  have HC3 : Hid (_) := h.add hkb
  have HK3 : Hid (KX X X w (((w.alloc (.cells #[.pointer (some ⟨cb, 0, none⟩)] 55)).alloc (.cells #[.int .i64 10, .string ⟨s.s.toArray⟩, .string ⟨s.t.toArray⟩, .slice ae s.exprs.length ce, .slice ab s.body.length cq, .slice al s.els.length cl, .slice ac s.cases.length cc] 63)).alloc (.cells #[.int .i64 0, .int .i64 0] 112))) := KX.of_below hkb
  have HAL : Hid (_) := heap_alloc3t w (.cells #[.pointer (some ⟨cb, 0, none⟩)] 55) (.cells #[.int .i64 10, .string ⟨s.s.toArray⟩, .string ⟨s.t.toArray⟩, .slice ae s.exprs.length ce, .slice ab s.body.length cq, .slice al s.els.length cl, .slice ac s.cases.length cc] 63) (.cells #[.int .i64 0, .int .i64 0] 112)
  have HNX : Hid (w.heap.size ∉ X) := fun hm => by have := (h.chk.low _ hm).2; omega
  have HNX1 : Hid (w.heap.size + 1 ∉ X) := fun hm => by have := (h.chk.low _ hm).2; omega
  have HSZ : Hid (w.heap.size + 1 < (((w.alloc (.cells #[.pointer (some ⟨cb, 0, none⟩)] 55)).alloc (.cells #[.int .i64 10, .string ⟨s.s.toArray⟩, .string ⟨s.t.toArray⟩, .slice ae s.exprs.length ce, .slice ab s.body.length cq, .slice al s.els.length cl, .slice ac s.cases.length cc] 63)).alloc (.cells #[.int .i64 0, .int .i64 0] 112)).heap.size) := by unfold Hid; simp
  clear hre hrb hrl hrc hs hkb h
  unfold stmtK at hr
  rw [if_neg (by omega)] at hr
  by_cases hhi : 0 < s.exprs.length
  · rw [if_pos hhi] at hr
    cases hr
    have hhiI : 0 < ((s.exprs.length : Nat) : Int) := by omega
    have hloI : 0 ≤ ((s.exprs.length : Nat) : Int) := by omega
    clear hhi
    go_enter_defers Tryz.func50, Tryz.ntmps50
    go_wp2_with fail
    exact ⟨_, results_tmp1 Tryz.results50, rfl, X, HC3.out.chk, HK3.out⟩
  rw [if_neg hhi] at hr
  by_cases hd : 120 ≤ d
  · rw [if_pos hd] at hr
    cases hr
    have hhiI : ((s.exprs.length : Nat) : Int) ≤ 0 := by omega
    have hloI : 0 ≤ ((s.exprs.length : Nat) : Int) := by omega
    go_enter_defers Tryz.func50, Tryz.ntmps50
    go_wp2_with fail
    refine (enter_no_t _ B cb X fv pl res (sc ++ [D]) d l HC3.out.chk hd).mono ?_
    rintro e w1 ⟨rfl, hw1⟩
    have hw1' := hw1.symm
    subst hw1'
    clear hd
    go_wp2_with fail
    exact ⟨_, results_tmp1 Tryz.results50, rfl, X, HC3.out.chk, HK3.out⟩
  · rw [if_neg hd] at hr
    have hhiI : ((s.exprs.length : Nat) : Int) ≤ 0 := by omega
    have hloI : 0 ≤ ((s.exprs.length : Nat) : Int) := by omega
    have hds : d < 120 := by omega
    have HKK : Hid (r = if (l : Int) == 0 then (12, D) else (0, D)) := by
      unfold Hid
      rw [hK] at hr
      exact (Option.some.inj hr).symm
    clear hK
    clear hr hhi hd
    go_enter_defers Tryz.func50, Tryz.ntmps50
    go_wp2_with fail
    refine (enter_yes_t _ B cb X fv pl res (sc ++ [D]) d l HC3.out.chk hds).mono ?_
    · rintro e w4 ⟨rfl, hc4, hk4⟩
      have HC4 : Hid (Ctx w4 B cb X fv fs pl res (sc ++ [D]) (d + 1) l) := HC3.out.next hc4 hk4
      have HK4 : Hid (KX X X w w4) := HK3.out.trans hk4
      have HB0 : Hid (w4.heap[w.heap.size]? = some (.cells #[.pointer (some ⟨cb, 0, none⟩)] 55)) := blk_kx hk4 HNX.out HAL.out.1
      have HB1 : Hid (w4.heap[w.heap.size + 1]? = some (.cells #[.int .i64 10, .string ⟨s.s.toArray⟩, .string ⟨s.t.toArray⟩, .slice ae s.exprs.length ce, .slice ab s.body.length cq, .slice al s.els.length cl, .slice ac s.cases.length cc] 63)) := blk_kx hk4 HNX1.out HAL.out.2
      have HS4 : Hid (AnS (fun g => g < B) w4 _ s) := AnS.bel HS.out (HH.out.bel HK4.out)
      rw [hk] at HS4
      have c04 : w4.cell? ⟨w.heap.size, 0, none⟩ = some (.pointer (some ⟨cb, 0, none⟩)) := by simp [World.cell?, HB0.out]
      have c14 := cells7 HB1.out
      have hlt0 := lt_of_block HB0.out
      have hlt1 := lt_of_block HB1.out
      clear hc4 hk4 e0 e1 hgl
      obtain ⟨q0, q2, q4, q5, qz⟩ := HC4.out.chk.cells
      have hcb4 := HC4.out.chk.cblt
      clear q0 q2 q4 qz
      rcases hl0 : ((l : Int) == 0) with _ | _
      · have HKR : Hid (r = (0, D)) := by unfold Hid; rw [HKK.out, hl0]; rfl
        go_wp2_with fail
        have hr5 := HKR.out
        subst hr5
        refine leaves_cons (f := 67) (args := #[.pointer (some ⟨w.heap.size, 0, none⟩)]) (by simp) (by simp [go_sem]) ?_
        refine (leave_depth _ (.inr rfl) _ B cb w.heap.size X fv pl res (sc ++ [D]) d l .returning HC4.out.chk c04).mono ?_
        rintro e u' w6 ⟨rfl, rfl, hC6, hK6⟩
        exact ⟨_, results_tmp1 Tryz.results50, rfl, X, hC6, HK4.out.trans hK6⟩
      · have HKR : Hid (r = (12, D)) := by unfold Hid; rw [HKK.out, hl0]; rfl
        go_wp2_with fail
        have hr5 := HKR.out
        subst hr5
        refine leaves_cons (f := 67) (args := #[.pointer (some ⟨w.heap.size, 0, none⟩)]) (by simp) (by simp [go_sem]) ?_
        refine (leave_depth _ (.inr rfl) _ B cb w.heap.size X fv pl res (sc ++ [D]) d l .returning HC4.out.chk c04).mono ?_
        rintro e u' w6 ⟨rfl, rfl, hC6, hK6⟩
        exact ⟨_, results_tmp1 Tryz.results50, rfl, X, hC6, HK4.out.trans hK6⟩

set_option maxHeartbeats 2000000 in
set_option maxRecDepth 20000 in
theorem stmt_11 {B cb : Nat} {fv : Value} {fs : List Fn'} {pl : DataW Unit} {res : Int} (w : World) (X : List Nat) (sc : List (DataW Unit)) (D : DataW Unit) (d l : Nat) (v : Value) (s : St) (K : Option (Int × DataW Unit)) (r : Int × DataW Unit) (h : Ctx w B cb X fv fs pl res (sc ++ [D]) d l) (hs : AnS (fun g => g < B) w v s) (hk : s.kind = 11)
    (hr : stmtK 0 0 s d D K = some r) (hK : K = some (if (l : Int) == 0 then (12, D) else (0, D))) :
    Calls Tryz.prog 50 #[.pointer (some ⟨cb, 0, none⟩), v] w (PostT w B cb X fv pl res (sc ++ [r.2]) d l r.1) := by
  have hmf := mkf
  have e0 := h.tab.ec 22 (by decide)
  have e1 := h.tab.ec 23 (by decide)
  have hgl : 3 < w.heap.size := World.block_lt_of_cell? w ⟨3, 22, none⟩ e0
  simp only [ecL] at e0 e1
  simp at e0 e1
  have HS : Hid (AnS (fun g => g < B) w v s) := hs
  have HH : Hid (Ctx w B cb X fv fs pl res (sc ++ [D]) d l) := h
  obtain ⟨ae, ce, ab, cq, al, cl, ac, cc, rfl, hre, hrb, hrl, hrc⟩ := anS_parts hs
  rw [hk]
  have hkb : Below w.heap.size w (((w.alloc (.cells #[.pointer (some ⟨cb, 0, none⟩)] 55)).alloc (.cells #[.int .i64 11, .string ⟨s.s.toArray⟩, .string ⟨s.t.toArray⟩, .slice ae s.exprs.length ce, .slice ab s.body.length cq, .slice al s.els.length cl, .slice ac s.cases.length cc] 63)).alloc (.cells #[.int .i64 0, .int .i64 0] 112)) := (((Below.refl _ _).alloc (Nat.le_refl _) _).alloc (by simp) _).alloc (by simp; omega) _
  have HC3 : Hid (_) := h.add hkb
  have HK3 : Hid (KX X X w (((w.alloc (.cells #[.pointer (some ⟨cb, 0, none⟩)] 55)).alloc (.cells #[.int .i64 11, .string ⟨s.s.toArray⟩, .string ⟨s.t.toArray⟩, .slice ae s.exprs.length ce, .slice ab s.body.length cq, .slice al s.els.length cl, .slice ac s.cases.length cc] 63)).alloc (.cells #[.int .i64 0, .int .i64 0] 112))) := KX.of_below hkb
  have HAL : Hid (_) := heap_alloc3t w (.cells #[.pointer (some ⟨cb, 0, none⟩)] 55) (.cells #[.int .i64 11, .string ⟨s.s.toArray⟩, .string ⟨s.t.toArray⟩, .slice ae s.exprs.length ce, .slice ab s.body.length cq, .slice al s.els.length cl, .slice ac s.cases.length cc] 63) (.cells #[.int .i64 0, .int .i64 0] 112)
  have HNX : Hid (w.heap.size ∉ X) := fun hm => by have := (h.chk.low _ hm).2; omega
  have HNX1 : Hid (w.heap.size + 1 ∉ X) := fun hm => by have := (h.chk.low _ hm).2; omega
  have HSZ : Hid (w.heap.size + 1 < (((w.alloc (.cells #[.pointer (some ⟨cb, 0, none⟩)] 55)).alloc (.cells #[.int .i64 11, .string ⟨s.s.toArray⟩, .string ⟨s.t.toArray⟩, .slice ae s.exprs.length ce, .slice ab s.body.length cq, .slice al s.els.length cl, .slice ac s.cases.length cc] 63)).alloc (.cells #[.int .i64 0, .int .i64 0] 112)).heap.size) := by unfold Hid; simp
  clear hre hrb hrl hrc hs hkb h
  unfold stmtK at hr
  rw [if_neg (by omega)] at hr
  by_cases hhi : 0 < s.exprs.length
  · rw [if_pos hhi] at hr
    cases hr
    have hhiI : 0 < ((s.exprs.length : Nat) : Int) := by omega
    have hloI : 0 ≤ ((s.exprs.length : Nat) : Int) := by omega
    clear hhi
    go_enter_defers Tryz.func50, Tryz.ntmps50
    go_wp2_with fail
    exact ⟨_, results_tmp1 Tryz.results50, rfl, X, HC3.out.chk, HK3.out⟩
  rw [if_neg hhi] at hr
  by_cases hd : 120 ≤ d
  · rw [if_pos hd] at hr
    cases hr
    have hhiI : ((s.exprs.length : Nat) : Int) ≤ 0 := by omega
    have hloI : 0 ≤ ((s.exprs.length : Nat) : Int) := by omega
    go_enter_defers Tryz.func50, Tryz.ntmps50
    go_wp2_with fail
    refine (enter_no_t _ B cb X fv pl res (sc ++ [D]) d l HC3.out.chk hd).mono ?_
    rintro e w1 ⟨rfl, hw1⟩
    have hw1' := hw1.symm
    subst hw1'
    clear hd
    go_wp2_with fail
    exact ⟨_, results_tmp1 Tryz.results50, rfl, X, HC3.out.chk, HK3.out⟩
  · rw [if_neg hd] at hr
    have hhiI : ((s.exprs.length : Nat) : Int) ≤ 0 := by omega
    have hloI : 0 ≤ ((s.exprs.length : Nat) : Int) := by omega
    have hds : d < 120 := by omega
    have HKK : Hid (r = if (l : Int) == 0 then (12, D) else (0, D)) := by
      unfold Hid
      rw [hK] at hr
      exact (Option.some.inj hr).symm
    clear hK
    clear hr hhi hd
    go_enter_defers Tryz.func50, Tryz.ntmps50
    go_wp2_with fail
    refine (enter_yes_t _ B cb X fv pl res (sc ++ [D]) d l HC3.out.chk hds).mono ?_
    · rintro e w4 ⟨rfl, hc4, hk4⟩
      have HC4 : Hid (Ctx w4 B cb X fv fs pl res (sc ++ [D]) (d + 1) l) := HC3.out.next hc4 hk4
      have HK4 : Hid (KX X X w w4) := HK3.out.trans hk4
      have HB0 : Hid (w4.heap[w.heap.size]? = some (.cells #[.pointer (some ⟨cb, 0, none⟩)] 55)) := blk_kx hk4 HNX.out HAL.out.1
      have HB1 : Hid (w4.heap[w.heap.size + 1]? = some (.cells #[.int .i64 11, .string ⟨s.s.toArray⟩, .string ⟨s.t.toArray⟩, .slice ae s.exprs.length ce, .slice ab s.body.length cq, .slice al s.els.length cl, .slice ac s.cases.length cc] 63)) := blk_kx hk4 HNX1.out HAL.out.2
      have HS4 : Hid (AnS (fun g => g < B) w4 _ s) := AnS.bel HS.out (HH.out.bel HK4.out)
      rw [hk] at HS4
      have c04 : w4.cell? ⟨w.heap.size, 0, none⟩ = some (.pointer (some ⟨cb, 0, none⟩)) := by simp [World.cell?, HB0.out]
      have c14 := cells7 HB1.out
      have hlt0 := lt_of_block HB0.out
      have hlt1 := lt_of_block HB1.out
      clear hc4 hk4 e0 e1 hgl
      obtain ⟨q0, q2, q4, q5, qz⟩ := HC4.out.chk.cells
      have hcb4 := HC4.out.chk.cblt
      clear q0 q2 q4 qz
      rcases hl0 : ((l : Int) == 0) with _ | _
      · have HKR : Hid (r = (0, D)) := by unfold Hid; rw [HKK.out, hl0]; rfl
        go_wp2_with fail
        have hr5 := HKR.out
        subst hr5
        refine leaves_cons (f := 67) (args := #[.pointer (some ⟨w.heap.size, 0, none⟩)]) (by simp) (by simp [go_sem]) ?_
        refine (leave_depth _ (.inr rfl) _ B cb w.heap.size X fv pl res (sc ++ [D]) d l .returning HC4.out.chk c04).mono ?_
        rintro e u' w6 ⟨rfl, rfl, hC6, hK6⟩
        exact ⟨_, results_tmp1 Tryz.results50, rfl, X, hC6, HK4.out.trans hK6⟩
      · have HKR : Hid (r = (12, D)) := by unfold Hid; rw [HKK.out, hl0]; rfl
        go_wp2_with fail
        have hr5 := HKR.out
        subst hr5
        refine leaves_cons (f := 67) (args := #[.pointer (some ⟨w.heap.size, 0, none⟩)]) (by simp) (by simp [go_sem]) ?_
        refine (leave_depth _ (.inr rfl) _ B cb w.heap.size X fv pl res (sc ++ [D]) d l .returning HC4.out.chk c04).mono ?_
        rintro e u' w6 ⟨rfl, rfl, hC6, hK6⟩
        exact ⟨_, results_tmp1 Tryz.results50, rfl, X, hC6, HK4.out.trans hK6⟩

end Go.Proofs.YtbpnfoihonehgabGreatDoor
