/-
  Values: the type of an expression that must have one.
-/
import Derived.Test.YtbpnfoihonehgabGreatDoorTyI
namespace Go.Proofs.YtbpnfoihonehgabGreatDoor
open Go.RowKit Go.Maps
set_option linter.unusedSimpArgs false
set_option linter.unusedVariables false

/-- all that a checker's calls stand on -/
structure Ctx (w : World) (B cb : Nat) (X : List Nat) (fv : Value) (fs : List Fn') (pl : DataW Unit) (res : Int) (sc : List (DataW Unit)) (d l : Nat) : Prop where
  chk : Chk w B cb X fv pl res sc d l
  tab : TabT w
  fsa : FsAt w B fv fs
  fl : fs.length ≤ 1000
  bs : B ≤ w.heap.size

theorem Ctx.next {w w' : World} {B cb : Nat} {X X' : List Nat} {fv : Value} {fs : List Fn'} {pl : DataW Unit} {res : Int} {sc sc' : List (DataW Unit)} {d d' l l' : Nat} (h : Ctx w B cb X fv fs pl res sc d l) (hC : Chk w' B cb X' fv pl res sc' d' l') (k : KX X X' w w') : Ctx w' B cb X' fv fs pl res sc' d' l' := by
  have hb := k.below h.bs fun i hi => (h.chk.low i hi).1
  exact ⟨hC, h.tab.below h.chk.far h.bs hb, h.fsa.below hb, h.fl, Nat.le_trans h.bs k.size⟩

theorem Ctx.bel {w w' : World} {B cb : Nat} {X X' : List Nat} {fv : Value} {fs : List Fn'} {pl : DataW Unit} {res : Int} {sc : List (DataW Unit)} {d l : Nat} (h : Ctx w B cb X fv fs pl res sc d l) (k : KX X X' w w') : Below B w w' := k.below h.bs fun i hi => (h.chk.low i hi).1

theorem Ctx.add {w w' : World} {B cb : Nat} {X : List Nat} {fv : Value} {fs : List Fn'} {pl : DataW Unit} {res : Int} {sc : List (DataW Unit)} {d l : Nat} (h : Ctx w B cb X fv fs pl res sc d l) (k : Below w.heap.size w w') : Ctx w' B cb X fv fs pl res sc d l := h.next (h.chk.below k) (KX.of_below k)

theorem AnE.bel {w w' : World} {B : Nat} {v : Value} {x : Ex} (h : AnE (fun g => g < B) w v x) (k : Below B w w') : AnE (fun g => g < B) w' v x := h.move fun g hg _ => ⟨hg, k.block g hg⟩

def SaidX (B cb : Nat) (fv : Value) (fs : List Fn') (pl : DataW Unit) (res : Int) (sc : List (DataW Unit)) (l : Nat) (E : Nat → Ex → Option (Int × Int)) : Prop :=
  ∀ (w : World) (X : List Nat) (d : Nat) (v : Value) (x : Ex) (r : Int × Int), Ctx w B cb X fv fs pl res sc d l → AnE (fun g => g < B) w v x → E d x = some r →
    Calls Tryz.prog 86 #[.pointer (some ⟨cb, 0, none⟩), v] w fun e w' => e = tyE r ∧ Chk w' B cb X fv pl res sc d l ∧ KX X X w w'

def valT (x : Option (Int × Int)) : Option (Int × Int) := x.map fun p => if p.2 == 0 && p.1 == 0 then (p.1, 9) else p

set_option maxHeartbeats 1000000 in
theorem value_any {B cb : Nat} {fv : Value} {fs : List Fn'} {pl : DataW Unit} {res : Int} {sc : List (DataW Unit)} {l : Nat} {E : Nat → Ex → Option (Int × Int)} (hE : SaidX B cb fv fs pl res sc l E)
    (w : World) (X : List Nat) (d : Nat) (v : Value) (x : Ex) (r : Int × Int) (h : Ctx w B cb X fv fs pl res sc d l) (hx : AnE (fun g => g < B) w v x) (hr : valT (E d x) = some r) :
    Calls Tryz.prog 71 #[.pointer (some ⟨cb, 0, none⟩), v] w fun e w' => e = tyE r ∧ Chk w' B cb X fv pl res sc d l ∧ KX X X w w' := by
  obtain ⟨k, n, s, a, le, ce, rfl⟩ := hx.sh
  have hkb : Below w.heap.size w (w.alloc (.cells #[.int .i64 k, .int .i64 n, .string s, .slice a le ce] 116)) := (Below.refl _ _).alloc (Nat.le_refl _) _
  have HC : Hid (_) := h.add hkb
  have HX : Hid (_) := hx.bel (h.bel (KX.of_below (X := X) hkb))
  have HK : Hid (_) := KX.of_below (X := X) hkb
  rcases hq : E d x with _ | ⟨t, m⟩
  · rw [hq] at hr; cases hr
  · rw [hq] at hr
    simp only [valT, Option.map_some, Option.some.injEq] at hr
    have HR : Hid (_) := hr
    clear hx h hkb hr
    go_enter Tryz.func71, Tryz.ntmps71
    go_wp2_with fail
    refine (hE _ _ _ _ _ _ HC.out HX.out hq).mono ?_
    rintro e w1 ⟨rfl, hc1, hk1⟩
    have HC1 : Hid (_) := hc1
    have HK1 : Hid (_) := hk1
    clear hc1 hk1
    unfold tyE
    rcases h0 : (m == 0) with _ | _
    · have HR2 : Hid (r = (t, m)) := by unfold Hid; rw [← HR.out, h0]; rfl
      go_wp2_with fail
      go_ret2
      exact ⟨by rw [HR2.out]; rfl, HC1.out, HK.out.trans HK1.out⟩
    · rcases h1 : (t == 0) with _ | _
      · have HR2 : Hid (r = (t, m)) := by unfold Hid; rw [← HR.out, h0, h1]; rfl
        go_wp2_with fail
        go_ret2
        exact ⟨by rw [HR2.out]; rfl, HC1.out, HK.out.trans HK1.out⟩
      · have HR2 : Hid (r = (t, 9)) := by unfold Hid; rw [← HR.out, h0, h1]; rfl
        go_wp2_with fail
        go_ret2
        exact ⟨by rw [HR2.out]; rfl, HC1.out, HK.out.trans HK1.out⟩

/-- a value of a type is wanted -/
def wantT (x : Option (Int × Int)) (t : Int) : Option Int := (valT x).map fun p => if p.2 == 0 && p.1 != t then 9 else p.2

set_option maxHeartbeats 1000000 in
theorem want_any {B cb : Nat} {fv : Value} {fs : List Fn'} {pl : DataW Unit} {res : Int} {sc : List (DataW Unit)} {l : Nat} {E : Nat → Ex → Option (Int × Int)} (hE : SaidX B cb fv fs pl res sc l E)
    (w : World) (X : List Nat) (d : Nat) (v : Value) (x : Ex) (t r : Int) (h : Ctx w B cb X fv fs pl res sc d l) (hx : AnE (fun g => g < B) w v x) (hr : wantT (E d x) t = some r) :
    Calls Tryz.prog 82 #[.pointer (some ⟨cb, 0, none⟩), v, .int .i64 t] w fun e w' => e = .returned (.int .i64 r) ∧ Chk w' B cb X fv pl res sc d l ∧ KX X X w w' := by
  obtain ⟨k, n, s, a, le, ce, rfl⟩ := hx.sh
  have hkb : Below w.heap.size w (w.alloc (.cells #[.int .i64 k, .int .i64 n, .string s, .slice a le ce] 116)) := (Below.refl _ _).alloc (Nat.le_refl _) _
  have HC : Hid (_) := h.add hkb
  have HX : Hid (_) := hx.bel (h.bel (KX.of_below (X := X) hkb))
  have HK : Hid (_) := KX.of_below (X := X) hkb
  rcases hq : valT (E d x) with _ | ⟨t', m⟩
  · rw [wantT, hq] at hr; cases hr
  · rw [wantT, hq] at hr
    simp only [Option.map_some, Option.some.injEq] at hr
    have HR : Hid (_) := hr
    clear hx h hkb hr
    go_enter Tryz.func82, Tryz.ntmps82
    go_wp2_with fail
    refine (value_any hE _ _ _ _ _ _ HC.out HX.out hq).mono ?_
    rintro e w1 ⟨rfl, hc1, hk1⟩
    have HC1 : Hid (_) := hc1
    have HK1 : Hid (_) := hk1
    clear hc1 hk1
    unfold tyE
    rcases h0 : (m == 0) with _ | _
    · have HR2 : Hid (r = m) := by unfold Hid; rw [← HR.out, h0]; rfl
      go_wp2_with fail
      go_ret
      exact ⟨by rw [HR2.out]; rfl, HC1.out, HK.out.trans HK1.out⟩
    · rcases h1 : (t' != t) with _ | _
      · have HR2 : Hid (r = m) := by unfold Hid; rw [← HR.out, h0, h1]; rfl
        go_wp2_with fail
        go_ret
        exact ⟨by rw [HR2.out]; rfl, HC1.out, HK.out.trans HK1.out⟩
      · have HR2 : Hid (r = 9) := by unfold Hid; rw [← HR.out, h0, h1]; rfl
        go_wp2_with fail
        go_ret
        exact ⟨by rw [HR2.out]; rfl, HC1.out, HK.out.trans HK1.out⟩

end Go.Proofs.YtbpnfoihonehgabGreatDoor
