/-
  Functions, as they are called.
-/
import Derived.Test.YtbpnfoihonehgabGreatDoorTzD
namespace Go.Proofs.YtbpnfoihonehgabGreatDoor
open Go.RowKit Go.Maps
set_option linter.unusedSimpArgs false
set_option linter.unusedVariables false

theorem callFn (caps : Array Value) (w : World) : (callFunc 31 caps).run Tryz.prog w = .ok (.enter 31 caps) w := by kernel_rfl

def funcT (Bm : List (DataW Unit) → Nat → Nat → List St → Option Int) (sc : List (DataW Unit)) (d l fe : Nat) (f : Fn') : Option Int :=
  if f.result != 0 && !(typeB f.result) then some 3 else if 4 < f.params.length then some 10 else if 100000 < sc.length then none else funcInT Bm sc d l fe f (paramsT (.map []) f.params)

set_option maxHeartbeats 4000000 in
set_option maxRecDepth 20000 in
theorem function_any_t {B cb : Nat} {fv : Value} {fs : List Fn'} {pl : DataW Unit} {res : Int} {Bm : List (DataW Unit) → Nat → Nat → List St → Option Int} (hB : SaidBk B cb fv fs pl res Bm)
    (w : World) (X : List Nat) (sc : List (DataW Unit)) (d l fe : Nat) (v : Value) (f : Fn') (r : Int) (h : Ctx w B cb X fv fs pl res sc d l) (hf : IsFn (fun g => g < B) w v f) (hr : funcT Bm sc d l fe f = some r) :
    Calls Tryz.prog 15 #[.pointer (some ⟨cb, 0, none⟩), v] w (PostT w B cb X fv pl res sc d l r) := by
  have hmf := mkf
  obtain ⟨ap, ab, rfl, hrp, hrb⟩ := hf
  obtain ⟨ap, cp, rfl⟩ := hrp.slice
  obtain ⟨ab, cq, rfl⟩ := hrb.slice
  have hkb : Below w.heap.size w ((w.alloc (.cells #[.pointer (some ⟨cb, 0, none⟩)] 55)).alloc (.cells #[.string ⟨f.name.toArray⟩, .slice ap f.params.length cp, .int .i64 f.result, .slice ab f.body.length cq] 33)) := ((Below.refl _ _).alloc (Nat.le_refl _) _).alloc (by simp) _
  have hbd := h.bel (KX.of_below (X := X) hkb)
  have HC : Hid (Ctx ((w.alloc (.cells #[.pointer (some ⟨cb, 0, none⟩)] 55)).alloc (.cells #[.string ⟨f.name.toArray⟩, .slice ap f.params.length cp, .int .i64 f.result, .slice ab f.body.length cq] 33)) B cb X fv fs pl res sc d l) := h.add hkb
  have HK : Hid (KX X X w ((w.alloc (.cells #[.pointer (some ⟨cb, 0, none⟩)] 55)).alloc (.cells #[.string ⟨f.name.toArray⟩, .slice ap f.params.length cp, .int .i64 f.result, .slice ab f.body.length cq] 33))) := KX.of_below hkb
  have HAL : Hid (_) := heap_alloc2 w (.cells #[.pointer (some ⟨cb, 0, none⟩)] 55) (.cells #[.string ⟨f.name.toArray⟩, .slice ap f.params.length cp, .int .i64 f.result, .slice ab f.body.length cq] 33)
  have HNX : Hid (w.heap.size ∉ X ∧ w.heap.size + 1 ∉ X) := ⟨fun hm => by have := (h.chk.low _ hm).2; omega, fun hm => by have := (h.chk.low _ hm).2; omega⟩
  have HRB : Hid (Row (fun g => g < B) ((w.alloc (.cells #[.pointer (some ⟨cb, 0, none⟩)] 55)).alloc (.cells #[.string ⟨f.name.toArray⟩, .slice ap f.params.length cp, .int .i64 f.result, .slice ab f.body.length cq] 33)) (AnS (fun g => g < B) ((w.alloc (.cells #[.pointer (some ⟨cb, 0, none⟩)] 55)).alloc (.cells #[.string ⟨f.name.toArray⟩, .slice ap f.params.length cp, .int .i64 f.result, .slice ab f.body.length cq] 33))) (.slice ab f.body.length cq) f.body) := RowS.bel hrb hbd
  have HRP : Hid (Row (fun g => g < B) ((w.alloc (.cells #[.pointer (some ⟨cb, 0, none⟩)] 55)).alloc (.cells #[.string ⟨f.name.toArray⟩, .slice ap f.params.length cp, .int .i64 f.result, .slice ab f.body.length cq] 33)) (IsP (fun g => g < B) ((w.alloc (.cells #[.pointer (some ⟨cb, 0, none⟩)] 55)).alloc (.cells #[.string ⟨f.name.toArray⟩, .slice ap f.params.length cp, .int .i64 f.result, .slice ab f.body.length cq] 33))) (.slice ap f.params.length cp) f.params) := hrp.move (fun g hg _ => ⟨hg, hbd.block g hg⟩) fun _ _ h => h
  clear hkb h hbd hrp hrb
  unfold funcT at hr
  -- what follows the first look
  have tail : (if 4 < f.params.length then some 10 else if 100000 < sc.length then none else funcInT Bm sc d l fe f (paramsT (.map []) f.params)) = some r → ((f.result != 0) = false ∨ ((f.result != 0) = true ∧ typeB f.result = true)) →
      Calls Tryz.prog 15 #[.pointer (some ⟨cb, 0, none⟩), .agg #[.string ⟨f.name.toArray⟩, .slice ap f.params.length cp, .int .i64 f.result, .slice ab f.body.length cq]] w (PostT w B cb X fv pl res sc d l r) := by
    intro hr2 hres
    by_cases hp : 4 < f.params.length
    · rw [if_pos hp] at hr2
      cases hr2
      have hpI : (4 : Int) < (f.params.length : Int) := by omega
      clear hp hr
      rcases hres with hz | ⟨hz, hty⟩
      · go_enter Tryz.func15, Tryz.ntmps15
        go_wp2_with fail
        go_ret
        exact ⟨rfl, X, HC.out.chk, HK.out⟩
      · go_enter Tryz.func15, Tryz.ntmps15
        go_wp2_with fail
        refine (isType_any _ _).mono ?_
        rintro e w1 ⟨rfl, hw1⟩
        have hw1' := hw1.symm
        subst hw1'
        rw [hty]
        go_wp2_with fail
        go_ret
        exact ⟨rfl, X, HC.out.chk, HK.out⟩
    · rw [if_neg hp] at hr2
      by_cases hb1 : 100000 < sc.length
      · rw [if_pos hb1] at hr2; cases hr2
      rw [if_neg hb1] at hr2
      have hpI : ¬ ((4 : Int) < (f.params.length : Int)) := by omega
      have HR2 : Hid (_) := hr2
      have HPL : Hid (f.params.length ≤ 1000000) := by unfold Hid; omega
      clear hr2 hr hp
      have fin : Calls Tryz.prog 30 #[.pointer (some ⟨cb, 0, none⟩), .func (.func 31) #[] #[.pointer (some ⟨w.heap.size + 1, 0, none⟩), .pointer (some ⟨w.heap.size, 0, none⟩)]] ((w.alloc (.cells #[.pointer (some ⟨cb, 0, none⟩)] 55)).alloc (.cells #[.string ⟨f.name.toArray⟩, .slice ap f.params.length cp, .int .i64 f.result, .slice ab f.body.length cq] 33)) (fun e w' => e = .returned (.int .i64 r) ∧ ∃ X', Chk w' B cb X' fv pl res sc d l ∧ KX X X' ((w.alloc (.cells #[.pointer (some ⟨cb, 0, none⟩)] 55)).alloc (.cells #[.string ⟨f.name.toArray⟩, .slice ap f.params.length cp, .int .i64 f.result, .slice ab f.body.length cq] 33)) w') := by
        refine scoped_any B cb X fv pl res sc d l 31 #[.pointer (some ⟨w.heap.size + 1, 0, none⟩), .pointer (some ⟨w.heap.size, 0, none⟩)] r _ HC.out.chk HC.out.bs (by omega) (callFn _) ?_
        intro w2 X2 hk2 hc2
        have hb2 := HC.out.bel hk2
        exact functionIn_any hB w2 X2 sc d l (w.heap.size + 1) w.heap.size fe f r _ _ _ _ (HC.out.next hc2 hk2) (HRP.out.move (fun g hg _ => ⟨hg, hb2.block g hg⟩) fun _ _ h => h) (RowS.bel HRB.out hb2) (blk_kx hk2 HNX.out.2 HAL.out.2) (blk_kx hk2 HNX.out.1 HAL.out.1) (notin_kx hk2 HNX.out.2 (lt_of_block HAL.out.2)) (notin_kx hk2 HNX.out.1 (lt_of_block HAL.out.1)) HPL.out HR2.out
      have FIN : Hid (_) := fin
      clear fin
      rcases hres with hz | ⟨hz, hty⟩
      · go_enter Tryz.func15, Tryz.ntmps15
        go_wp2_with fail
        refine Calls.mono FIN.out ?_
        rintro e w3 ⟨rfl, X3, hc3, hk3⟩
        have HC3 : Hid (_) := hc3
        have HK3 : Hid (_) := hk3
        clear hc3 hk3
        go_wp2_with fail
        go_ret
        exact ⟨rfl, X3, HC3.out, HK.out.trans HK3.out⟩
      · go_enter Tryz.func15, Tryz.ntmps15
        go_wp2_with fail
        refine (isType_any _ _).mono ?_
        rintro e w1 ⟨rfl, hw1⟩
        have hw1' := hw1.symm
        subst hw1'
        rw [hty]
        go_wp2_with fail
        refine Calls.mono FIN.out ?_
        rintro e w3 ⟨rfl, X3, hc3, hk3⟩
        have HC3 : Hid (_) := hc3
        have HK3 : Hid (_) := hk3
        clear hc3 hk3
        go_wp2_with fail
        go_ret
        exact ⟨rfl, X3, HC3.out, HK.out.trans HK3.out⟩
  rcases hz : (f.result != 0) with _ | _
  · exact tail (by rw [hz] at hr; simpa using hr) (.inl hz)
  · rcases hty : typeB f.result with _ | _
    · rw [hty, hz] at hr
      simp only [Bool.not_false, Bool.and_true, if_true, Option.some.injEq] at hr
      have HR3 : Hid ((3 : Int) = r) := hr
      clear hr tail
      go_enter Tryz.func15, Tryz.ntmps15
      go_wp2_with fail
      refine (isType_any _ _).mono ?_
      rintro e w1 ⟨rfl, hw1⟩
      have hw1' := hw1.symm
      subst hw1'
      rw [hty]
      go_wp2_with fail
      go_ret
      exact ⟨by rw [← HR3.out]; rfl, X, HC.out.chk, HK.out⟩
    · exact tail (by rw [hty, hz] at hr; simpa using hr) (.inr ⟨hz, hty⟩)

end Go.Proofs.YtbpnfoihonehgabGreatDoor
