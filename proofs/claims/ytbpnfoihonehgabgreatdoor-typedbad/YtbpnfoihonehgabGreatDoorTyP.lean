/-
  Loops.
-/
import Derived.Test.YtbpnfoihonehgabGreatDoorTyO
namespace Go.Proofs.YtbpnfoihonehgabGreatDoor
open Go.RowKit Go.Maps
set_option linter.unusedSimpArgs false
set_option linter.unusedVariables false

theorem leave_loop (w : World) (B cb bx : Nat) (X : List Nat) (fv : Value) (pl : DataW Unit) (res : Int) (sc : List (DataW Unit)) (d l : Nat) (u : FrameMode) (h : Chk w B cb X fv pl res sc d (l + 1)) (hx : w.cell? ⟨bx, 0, none⟩ = some (.pointer (some ⟨cb, 0, none⟩))) :
    CallsD Tryz.prog 102 #[.pointer (some ⟨bx, 0, none⟩)] u w fun e u' w' => u' = u ∧ (e = .returned (.tuple #[]) ∧ Chk w' B cb X fv pl res sc d l ∧ KX X X w w') := by
  obtain ⟨q0, q2, q4, q5, qz⟩ := h.cells
  have qz5 := qz 5
  have hdp := h.lp
  obtain ⟨dI, hdd⟩ : ∃ y : Int, y = ((l + 1 : Nat) : Int) := ⟨_, rfl⟩
  have hd1 : (1 : Int) ≤ dI := by omega
  have hd2 : dI ≤ 1000 := by omega
  have HX : Hid (Chk (w.setCell ⟨cb, 5, none⟩ (.int .i64 (dI - 1))) B cb X fv pl res sc d l ∧ KX X X w (w.setCell ⟨cb, 5, none⟩ (.int .i64 (dI - 1)))) := h.setInt 5 d l _ (.inr ⟨rfl, by rw [hdd]; congr 1; omega, rfl⟩) h.dp (by omega)
  rw [← hdd] at q5
  clear h q0 q2 q4 qz hdd hdp
  go_enter_d Tryz.func102, Tryz.ntmps102
  go_wp2_with fail
  go_end0
  exact ⟨rfl, HX.out⟩

def loopT (Bm : List (DataW Unit) → Nat → Nat → List St → Option Int) (scs : List (DataW Unit)) (d l : Nat) (ss : List St) : Option Int := if 1000 ≤ l then none else Bm scs d (l + 1) ss

set_option maxHeartbeats 2000000 in
set_option maxRecDepth 20000 in
theorem loop_any_t {B cb : Nat} {fv : Value} {fs : List Fn'} {pl : DataW Unit} {res : Int} {Bm : List (DataW Unit) → Nat → Nat → List St → Option Int} (hB : SaidBk B cb fv fs pl res Bm)
    (w : World) (X : List Nat) (scs : List (DataW Unit)) (d l : Nat) (v : Value) (ss : List St) (k : Int) (h : Ctx w B cb X fv fs pl res scs d l) (hrow : Row (fun g => g < B) w (AnS (fun g => g < B) w) v ss) (hr : loopT Bm scs d l ss = some k) :
    Calls Tryz.prog 83 #[.pointer (some ⟨cb, 0, none⟩), v] w (PostT w B cb X fv pl res scs d l k) := by
  have hmf := mkf
  obtain ⟨a, c, rfl⟩ := hrow.slice
  unfold loopT at hr
  by_cases hl : 1000 ≤ l
  · rw [if_pos hl] at hr; cases hr
  rw [if_neg hl] at hr
  obtain ⟨q0, q2, q4, q5, qz⟩ := h.chk.cells
  have qz5 := qz 5
  obtain ⟨lI, hlI⟩ : ∃ y : Int, y = (l : Int) := ⟨_, rfl⟩
  have hl0 : (0 : Int) ≤ lI := by omega
  have hl9 : lI < 1000 := by omega
  have hst := h.chk.setInt 5 d (l + 1) (.int .i64 (lI + 1)) (.inr ⟨rfl, by rw [hlI]; go_num, rfl⟩) h.chk.dp (by omega)
  have hkb : Below (w.setCell ⟨cb, 5, none⟩ (.int .i64 (lI + 1))).heap.size (w.setCell ⟨cb, 5, none⟩ (.int .i64 (lI + 1))) ((w.setCell ⟨cb, 5, none⟩ (.int .i64 (lI + 1))).alloc (.cells #[.pointer (some ⟨cb, 0, none⟩)] 55)) := (Below.refl _ _).alloc (Nat.le_refl _) _
  have hk2 : KX X X w ((w.setCell ⟨cb, 5, none⟩ (.int .i64 (lI + 1))).alloc (.cells #[.pointer (some ⟨cb, 0, none⟩)] 55)) := hst.2.trans (KX.of_below hkb)
  have HC : Hid (_) := (h.next hst.1 hst.2).add hkb
  have HK : Hid (KX X X w ((w.setCell ⟨cb, 5, none⟩ (.int .i64 (lI + 1))).alloc (.cells #[.pointer (some ⟨cb, 0, none⟩)] 55))) := hk2
  have HROW : Hid (_) := RowS.bel hrow (h.bel hk2)
  have hN0 : w.heap.size ∉ X := fun hm => by have := (h.chk.low _ hm).2; omega
  have hbx : ((w.setCell ⟨cb, 5, none⟩ (.int .i64 (lI + 1))).alloc (.cells #[.pointer (some ⟨cb, 0, none⟩)] 55)).heap[w.heap.size]? = some (.cells #[.pointer (some ⟨cb, 0, none⟩)] 55) := by
    have := heap_alloc_new (w.setCell ⟨cb, 5, none⟩ (.int .i64 (lI + 1))) (.cells #[.pointer (some ⟨cb, 0, none⟩)] 55)
    rwa [size_set] at this
  have HBX : Hid (_) := hbx
  have HN0 : Hid (w.heap.size ∉ X) := hN0
  have HR : Hid (_) := hr
  have hcb := h.chk.cblt
  rw [← hlI] at q5
  clear h hrow hkb q0 q2 q4 qz hst hk2 hN0 hbx hlI hr hl
  go_enter_defers Tryz.func83, Tryz.ntmps83
  go_wp2_with fail
  refine (hB _ _ _ _ _ _ _ _ HC.out HROW.out HR.out).mono ?_
  rintro e w5 ⟨rfl, X5, hc5, hk5⟩
  have hb5 := blk_kx hk5 HN0.out HBX.out
  have c05 : w5.cell? ⟨w.heap.size, 0, none⟩ = some (.pointer (some ⟨cb, 0, none⟩)) := by simp [World.cell?, hb5]
  have HC5 : Hid (_) := hc5
  have HK5 : Hid (KX X X5 w w5) := HK.out.trans hk5
  clear hc5 hk5 hb5
  go_wp2_with fail
  refine leaves_cons (f := 102) (args := #[.pointer (some ⟨w.heap.size, 0, none⟩)]) (by simp) (by simp [go_sem]) ?_
  refine (leave_loop w5 B cb w.heap.size X5 fv pl res scs d l .returning HC5.out c05).mono ?_
  rintro e u' w6 ⟨rfl, rfl, hC6, hK6⟩
  exact ⟨_, results_tmp1 Tryz.results83, rfl, X5, hC6, HK5.out.trans hK6⟩

end Go.Proofs.YtbpnfoihonehgabGreatDoor
