/-
  Blocks of statements.
-/
import Derived.Test.YtbpnfoihonehgabGreatDoorTyN
namespace Go.Proofs.YtbpnfoihonehgabGreatDoor
open Go.RowKit Go.Maps
set_option linter.unusedSimpArgs false
set_option linter.unusedVariables false

def SaidSm (B cb : Nat) (fv : Value) (fs : List Fn') (pl : DataW Unit) (res : Int) (M : List (DataW Unit) → DataW Unit → Nat → Nat → St → Option (Int × DataW Unit)) : Prop :=
  ∀ (w : World) (X : List Nat) (sc : List (DataW Unit)) (D : DataW Unit) (d l : Nat) (v : Value) (s : St) (r : Int × DataW Unit), Ctx w B cb X fv fs pl res (sc ++ [D]) d l → AnS (fun g => g < B) w v s → M sc D d l s = some r →
    Calls Tryz.prog 50 #[.pointer (some ⟨cb, 0, none⟩), v] w (PostT w B cb X fv pl res (sc ++ [r.2]) d l r.1)

def SaidBk (B cb : Nat) (fv : Value) (fs : List Fn') (pl : DataW Unit) (res : Int) (Bm : List (DataW Unit) → Nat → Nat → List St → Option Int) : Prop :=
  ∀ (w : World) (X : List Nat) (scs : List (DataW Unit)) (d l : Nat) (v : Value) (ss : List St) (k : Int), Ctx w B cb X fv fs pl res scs d l → Row (fun g => g < B) w (AnS (fun g => g < B) w) v ss → Bm scs d l ss = some k →
    Calls Tryz.prog 33 #[.pointer (some ⟨cb, 0, none⟩), v] w (PostT w B cb X fv pl res scs d l k)

def stmtsT (M : List (DataW Unit) → DataW Unit → Nat → Nat → St → Option (Int × DataW Unit)) (sc : List (DataW Unit)) (d l : Nat) : DataW Unit → List St → Option (Int × DataW Unit)
  | D, [] => some (0, D)
  | D, s :: ss => match M sc D d l s with
    | none => none
    | some r => if r.1 != 0 then some r else stmtsT M sc d l r.2 ss

def blockT (M : List (DataW Unit) → DataW Unit → Nat → Nat → St → Option (Int × DataW Unit)) (scs : List (DataW Unit)) (d l : Nat) (ss : List St) : Option Int :=
  if 100000 < scs.length then none else if 1000000 < ss.length then none else (stmtsT M scs d l (.map []) ss).map (·.1)

theorem anS_len {S : Nat → Prop} {w : World} (u : Value) (x : St) (h : AnS S w u x) : u.cells.toList.length = 7 := by
  obtain ⟨k, s, t, a1, l1, c1, a2, l2, c2, a3, l3, c3, a4, l4, c4, rfl⟩ := h.sh
  simp [Value.cells]

theorem AnS.bel {w w' : World} {B : Nat} {v : Value} {x : St} (h : AnS (fun g => g < B) w v x) (k : Below B w w') : AnS (fun g => g < B) w' v x := h.move fun g hg _ => ⟨hg, k.block g hg⟩

theorem RowS.bel {w w' : World} {B : Nat} {v : Value} {xs : List St} (h : Row (fun g => g < B) w (AnS (fun g => g < B) w) v xs) (k : Below B w w') : Row (fun g => g < B) w' (AnS (fun g => g < B) w') v xs := h.move (fun g hg _ => ⟨hg, k.block g hg⟩) fun _ _ h => h.bel k

theorem Ctx.of_kx {w w' : World} {B cb : Nat} {X X' : List Nat} {fv : Value} {fs : List Fn'} {pl : DataW Unit} {res : Int} {sc sc' : List (DataW Unit)} {d d' l l' : Nat} (h : Ctx w B cb X fv fs pl res sc d l) (hC : Chk w' B cb X' fv pl res sc' d' l') (k : KX X X' w w') : Ctx w' B cb X' fv fs pl res sc' d' l' := h.next hC k

theorem notin_kx {X X' : List Nat} {w w' : World} {b : Nat} (k : KX X X' w w') (hb : b ∉ X) (hl : b < w.heap.size) : b ∉ X' := fun hm => by
  rcases k.sub b hm with h | h
  · exact hb h
  · omega

set_option maxHeartbeats 4000000 in
set_option maxRecDepth 20000 in
theorem blockIn_any {B cb : Nat} {fv : Value} {fs : List Fn'} {pl : DataW Unit} {res : Int} {M : List (DataW Unit) → DataW Unit → Nat → Nat → St → Option (Int × DataW Unit)} (hM : SaidSm B cb fv fs pl res M)
    (w : World) (X : List Nat) (sc : List (DataW Unit)) (D : DataW Unit) (d l lb cx : Nat) (a : Option Addr) (c : Nat) (ss : List St) (r : Int × DataW Unit) (h : Ctx w B cb X fv fs pl res (sc ++ [D]) d l) (hrow : Row (fun g => g < B) w (AnS (fun g => g < B) w) (.slice a ss.length c) ss)
    (hlb : w.cell? ⟨lb, 0, none⟩ = some (.slice a ss.length c)) (hcx : w.cell? ⟨cx, 0, none⟩ = some (.pointer (some ⟨cb, 0, none⟩))) (hX1 : lb ∉ X) (hX2 : cx ∉ X) (hsl : ss.length ≤ 1000000) (hr : stmtsT M sc d l D ss = some r) :
    Calls Tryz.prog 49 #[.pointer (some ⟨lb, 0, none⟩), .pointer (some ⟨cx, 0, none⟩)] w fun e w' => e = .returned (.int .i64 r.1) ∧ ∃ X' D', Chk w' B cb X' fv pl res (sc ++ [D']) d l ∧ KX X X' w w' := by
  have HROW : Hid (_) := hrow
  have HX2 : Hid (cx ∉ X) := hX2
  have HCX : Hid (_) := hcx
  have HH : Hid (Ctx w B cb X fv fs pl res (sc ++ [D]) d l) := h
  have HR : Hid (stmtsT M sc d l D (ss.drop 0) = some r) := hr
  clear hrow hX1 hX2 h hr
  go_enter Tryz.func49, Tryz.ntmps49
  go_wp2_with fail
  go_loopg [8] ss.length (fun g s8 wr => ∃ (i : Nat) (X' : List Nat) (D' : DataW Unit), s8 = .int .i64 (i : Nat) ∧ i + g = ss.length ∧ Hid (Ctx wr B cb X' fv fs pl res (sc ++ [D']) d l) ∧ Hid (KX X X' w wr) ∧ Hid (stmtsT M sc d l D' (ss.drop i) = some r))
  case atStart => exact ⟨0, X, D, rfl, by omega, HH, KX.refl _ _, HR⟩
  case round =>
    clear hlb hcx HR
    obtain ⟨i, X', D', rfl, hig, HC, HK, HN⟩ := hrel
    have hcx := cell_kx HK.out HX2.out HCX.out
    cases gk with
    | zero =>
      have hil : i = ss.length := by omega
      have hlt : ¬ (i : Int) < (ss.length : Int) := by omega
      have hltb : decide ((i : Int) < (ss.length : Int)) = false := by simpa using hlt
      have hN := HN.out
      rw [hil, List.drop_length] at hN
      have HR2 : Hid (r = (0, D')) := by
        simp only [stmtsT, Option.some.injEq] at hN
        exact hN.symm
      clear hN
      go_wp2_with fail
      go_ret
      exact ⟨by rw [HR2.out]; rfl, X', ⟨D', HC.out.chk⟩, HK.out⟩
    | succ g =>
      have hlt : (i : Int) < (ss.length : Int) := by omega
      have hltb : decide ((i : Int) < (ss.length : Int)) = true := by simpa using hlt
      have hilt : i < ss.length := by omega
      have hget : ss[i]? = some ss[i] := List.getElem?_eq_getElem hilt
      have hN := HN.out
      rw [List.drop_eq_getElem_cons hilt] at hN
      simp only [stmtsT] at hN
      obtain ⟨ga, ca, u, hva, hgB, hu, hcell⟩ := Row.at HROW.out 7 anS_len i _ hget
      cases hva
      obtain ⟨k0, s0, t0, a1, l1, c1, a2, l2, c2, a3, l3, c3, a4, l4, c4, rfl⟩ := hu.sh
      have hbel : Below B w wr := HH.out.bel HK.out
      have p0 := hcell 0 (by decide)
      have p1 := hcell 1 (by decide)
      have p2 := hcell 2 (by decide)
      have p3 := hcell 3 (by decide)
      have p4 := hcell 4 (by decide)
      have p5 := hcell 5 (by decide)
      have p6 := hcell 6 (by decide)
      simp only [Value.cells, Nat.add_zero] at p0 p1 p2 p3 p4 p5 p6
      simp at p0 p1 p2 p3 p4 p5 p6
      rw [← hbel.cell (p := ⟨ga, i * 7, none⟩) hgB] at p0
      rw [← hbel.cell (p := ⟨ga, i * 7 + 1, none⟩) hgB] at p1
      rw [← hbel.cell (p := ⟨ga, i * 7 + 2, none⟩) hgB] at p2
      rw [← hbel.cell (p := ⟨ga, i * 7 + 3, none⟩) hgB] at p3
      rw [← hbel.cell (p := ⟨ga, i * 7 + 4, none⟩) hgB] at p4
      rw [← hbel.cell (p := ⟨ga, i * 7 + 5, none⟩) hgB] at p5
      rw [← hbel.cell (p := ⟨ga, i * 7 + 6, none⟩) hgB] at p6
      have hka : Below wr.heap.size wr (wr.alloc (.cells #[.int .i64 k0, .string s0, .string t0, .slice a1 l1 c1, .slice a2 l2 c2, .slice a3 l3 c3, .slice a4 l4 c4] 63)) := (Below.refl _ _).alloc (Nat.le_refl _) _
      have hua := (hu.bel hbel).bel (HC.out.bel (KX.of_below (X := X') hka))
      have HCA : Hid (_) := HC.out.add hka
      have HKA : Hid (KX X X' w (wr.alloc (.cells #[.int .i64 k0, .string s0, .string t0, .slice a1 l1 c1, .slice a2 l2 c2, .slice a3 l3 c3, .slice a4 l4 c4] 63))) := HK.out.trans (KX.of_below hka)
      have HUA : Hid (_) := hua
      have hcxl : cx < wr.heap.size := World.block_lt_of_cell? wr ⟨cx, 0, none⟩ hcx
      have hgal : ga < wr.heap.size := World.block_lt_of_cell? wr ⟨ga, i * 7, none⟩ p0
      clear hcell hu hua hka hbel hget
      go_wp2_with fail
      clear p0 p1 p2 p3 p4 p5 p6
      rcases hq : M sc D' d l ss[i] with _ | r2
      · rw [hq] at hN; cases hN
      · rw [hq] at hN
        simp only at hN
        have HN2 : Hid (_) := hN
        clear hN
        refine (hM _ _ _ _ _ _ _ _ _ HCA.out HUA.out hq).mono ?_
        rintro e w5 ⟨rfl, X5, hc5, hk5⟩
        have HC5 : Hid (_) := HCA.out.next hc5 hk5
        have HK5 : Hid (KX X X5 w w5) := HKA.out.trans hk5
        clear hc5 hk5
        rcases hm : (r2.1 != 0) with _ | _
        · have hN := HN2.out
          rw [hm] at hN
          simp only [Bool.false_eq_true, if_false] at hN
          have HN3 : Hid (_) := hN
          clear hN
          go_wp2_with fail
          go_roundg g
          case measure => omega
          case rel => exact ⟨i + 1, X5, r2.2, by go_num, by omega, HC5, HK5, HN3⟩
        · have hN := HN2.out
          rw [hm] at hN
          cases hN
          go_wp2_with fail
          go_ret
          exact ⟨rfl, X5, _, HC5.out.chk, HK5.out⟩

theorem callBk (caps : Array Value) (w : World) : (callFunc 49 caps).run Tryz.prog w = .ok (.enter 49 caps) w := by kernel_rfl

set_option maxHeartbeats 2000000 in
set_option maxRecDepth 20000 in
theorem block_any_t {B cb : Nat} {fv : Value} {fs : List Fn'} {pl : DataW Unit} {res : Int} {M : List (DataW Unit) → DataW Unit → Nat → Nat → St → Option (Int × DataW Unit)} (hM : SaidSm B cb fv fs pl res M) : SaidBk B cb fv fs pl res (blockT M) := by
  intro w X scs d l v ss k h hrow hr
  have hmf := mkf
  obtain ⟨a, c, rfl⟩ := hrow.slice
  unfold blockT at hr
  by_cases hb1 : 100000 < scs.length
  · rw [if_pos hb1] at hr; cases hr
  rw [if_neg hb1] at hr
  by_cases hb2 : 1000000 < ss.length
  · rw [if_pos hb2] at hr; cases hr
  rw [if_neg hb2] at hr
  rcases hq : stmtsT M scs d l (.map []) ss with _ | r
  · rw [hq] at hr; cases hr
  · rw [hq] at hr
    simp only [Option.map_some, Option.some.injEq] at hr
    subst hr
    have hkb : Below w.heap.size w ((w.alloc (.cells #[.pointer (some ⟨cb, 0, none⟩)] 55)).alloc (.cells #[.slice a ss.length c] 31)) := ((Below.refl _ _).alloc (Nat.le_refl _) _).alloc (by simp) _
    have hal := heap_alloc2 w (.cells #[.pointer (some ⟨cb, 0, none⟩)] 55) (.cells #[.slice a ss.length c] 31)
    have HC : Hid (_) := h.add hkb
    have HK : Hid (KX X X w ((w.alloc (.cells #[.pointer (some ⟨cb, 0, none⟩)] 55)).alloc (.cells #[.slice a ss.length c] 31))) := KX.of_below hkb
    have HROW : Hid (_) := RowS.bel hrow (h.bel (KX.of_below (X := X) hkb))
    have HN0 : Hid (w.heap.size ∉ X ∧ w.heap.size + 1 ∉ X) := ⟨fun hm => by have := (h.chk.low _ hm).2; omega, fun hm => by have := (h.chk.low _ hm).2; omega⟩
    have HAL : Hid (_) := hal
    clear h hrow hkb hal
    go_enter Tryz.func33, Tryz.ntmps33
    go_wp2_with fail
    refine (scoped_any B cb X fv pl res scs d l 49 #[.pointer (some ⟨w.heap.size + 1, 0, none⟩), .pointer (some ⟨w.heap.size, 0, none⟩)] r.1 _ HC.out.chk HC.out.bs (by omega) (callBk _) ?_).mono ?_
    · intro w1 X1 hk1 hc1
      have hctx := HC.out.next hc1 hk1
      have hx1 := blk_kx hk1 HN0.out.2 HAL.out.2
      have hx0 := blk_kx hk1 HN0.out.1 HAL.out.1
      exact blockIn_any hM w1 X1 scs (.map []) d l (w.heap.size + 1) w.heap.size a c ss r hctx (RowS.bel HROW.out (HC.out.bel hk1)) (by simp [World.cell?, hx1]) (by simp [World.cell?, hx0]) (notin_kx hk1 HN0.out.2 (by simp)) (notin_kx hk1 HN0.out.1 (by simp; omega)) (by omega) hq
    · rintro e w2 ⟨rfl, X2, hc2, hk2⟩
      have HC2 : Hid (_) := hc2
      have HK2 : Hid (_) := hk2
      clear hc2 hk2
      go_wp2_with fail
      go_ret
      exact ⟨rfl, X2, HC2.out, HK.out.trans HK2.out⟩

end Go.Proofs.YtbpnfoihonehgabGreatDoor
