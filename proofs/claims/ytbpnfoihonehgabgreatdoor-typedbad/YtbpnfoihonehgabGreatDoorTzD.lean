/-
  Functions.
-/
import Derived.Test.YtbpnfoihonehgabGreatDoorTzC
namespace Go.Proofs.YtbpnfoihonehgabGreatDoor
open Go.RowKit Go.Maps
set_option linter.unusedSimpArgs false
set_option linter.unusedVariables false

def paramsT : DataW Unit → List (List UInt8 × Int) → Option (Sum Int (DataW Unit))
  | D, [] => some (.inr D)
  | D, p :: ps => if 1000000 < p.1.length then none else if 1000000 < Maps.size D then none else if declT D p.1 p.2 != 0 then some (.inl (declT D p.1 p.2)) else paramsT (declD D p.1 p.2) ps

def fallT (fe : Nat) (f : Fn') : Option Int := if f.result == 0 then some 0 else match endsM fe f.body with
  | none => none
  | some b => some (if b then 0 else 11)

def funcInT (Bm : List (DataW Unit) → Nat → Nat → List St → Option Int) (sc : List (DataW Unit)) (d l fe : Nat) (f : Fn') (x : Option (Sum Int (DataW Unit))) : Option Int :=
  match x with
  | none => none
  | some (.inl k) => some k
  | some (.inr D) => thenT (Bm (sc ++ [D]) d l f.body) (fallT fe f)

set_option maxHeartbeats 4000000 in
set_option maxRecDepth 20000 in
theorem functionIn_any {B cb : Nat} {fv : Value} {fs : List Fn'} {pl : DataW Unit} {res : Int} {Bm : List (DataW Unit) → Nat → Nat → List St → Option Int} (hB : SaidBk B cb fv fs pl res Bm)
    (w : World) (X : List Nat) (sc : List (DataW Unit)) (d l lb cx fe : Nat) (f : Fn') (r : Int) (ap : Option Addr) (cp : Nat) (ab : Option Addr) (cq : Nat) (h : Ctx w B cb X fv fs pl res (sc ++ [.map []]) d l)
    (hrp : Row (fun g => g < B) w (IsP (fun g => g < B) w) (.slice ap f.params.length cp) f.params) (hrow : Row (fun g => g < B) w (AnS (fun g => g < B) w) (.slice ab f.body.length cq) f.body)
    (hlb : w.heap[lb]? = some (.cells #[.string ⟨f.name.toArray⟩, .slice ap f.params.length cp, .int .i64 f.result, .slice ab f.body.length cq] 33)) (hcx : w.heap[cx]? = some (.cells #[.pointer (some ⟨cb, 0, none⟩)] 55)) (hX1 : lb ∉ X) (hX2 : cx ∉ X) (hpl : f.params.length ≤ 1000000) (hr : funcInT Bm sc d l fe f (paramsT (.map []) f.params) = some r) :
    Calls Tryz.prog 31 #[.pointer (some ⟨lb, 0, none⟩), .pointer (some ⟨cx, 0, none⟩)] w fun e w' => e = .returned (.int .i64 r) ∧ ∃ X' D', Chk w' B cb X' fv pl res (sc ++ [D']) d l ∧ KX X X' w w' := by
  have c1 := cells4 hlb
  have c2 : w.cell? ⟨cx, 0, none⟩ = some (.pointer (some ⟨cb, 0, none⟩)) := by simp [World.cell?, hcx]
  have HROW : Hid (_) := hrow
  have HRP : Hid (_) := hrp
  have HLB : Hid (_) := hlb
  have HCX : Hid (_) := hcx
  have HX1 : Hid (lb ∉ X) := hX1
  have HX2 : Hid (cx ∉ X) := hX2
  have HH : Hid (Ctx w B cb X fv fs pl res (sc ++ [.map []]) d l) := h
  have HR : Hid (funcInT Bm sc d l fe f (paramsT (.map []) (f.params.drop 0)) = some r) := hr
  have hl1 := lt_of_block hlb
  have hl2 := lt_of_block hcx
  clear hrow hrp hlb hcx hX1 hX2 h hr
  go_enter Tryz.func31, Tryz.ntmps31
  go_wp2_with fail
  go_loopg [10] f.params.length (fun g s10 wr => ∃ (i : Nat) (D : DataW Unit), s10 = .int .i64 (i : Nat) ∧ i + g = f.params.length ∧ Hid (Ctx wr B cb X fv fs pl res (sc ++ [D]) d l) ∧ Hid (KX X X w wr) ∧ Hid (funcInT Bm sc d l fe f (paramsT D (f.params.drop i)) = some r))
  case atStart => exact ⟨0, .map [], rfl, by omega, HH, KX.refl _ _, HR⟩
  case round =>
    clear HR c1 c2
    obtain ⟨i, D, rfl, hig, HC, HK, HN⟩ := hrel
    have hb1 := blk_kx HK.out HX1.out HLB.out
    have hb2 := blk_kx HK.out HX2.out HCX.out
    have c1 := cells4 hb1
    have c2 : wr.cell? ⟨cx, 0, none⟩ = some (.pointer (some ⟨cb, 0, none⟩)) := by simp [World.cell?, hb2]
    have hl3 := lt_of_block hb1
    have hl4 := lt_of_block hb2
    have hN := HN.out
    clear HN hb1 hb2
    cases gk with
    | zero =>
      have hil : i = f.params.length := by omega
      have hlt : ¬ (i : Int) < (f.params.length : Int) := by omega
      have hltb : decide ((i : Int) < (f.params.length : Int)) = false := by simpa using hlt
      rw [hil, List.drop_length] at hN
      simp only [paramsT, funcInT] at hN
      have HRB : Hid (_) := RowS.bel HROW.out (HH.out.bel HK.out)
      rcases hq : Bm (sc ++ [D]) d l f.body with _ | k
      · rw [hq] at hN; cases hN
      rw [hq] at hN
      have HN2 : Hid (_) := hN
      clear hN
      go_wp2_with fail
      refine (hB _ _ _ _ _ _ _ _ HC.out HRB.out hq).mono ?_
      rintro e w5 ⟨rfl, X5, hc5, hk5⟩
      have HC5 : Hid (Ctx w5 B cb X5 fv fs pl res (sc ++ [D]) d l) := HC.out.next hc5 hk5
      have HK5 : Hid (KX X X5 w w5) := HK.out.trans hk5
      have HRB5 : Hid (Row (fun g => g < B) w5 (AnS (fun g => g < B) w5) (.slice ab f.body.length cq) f.body) := RowS.bel HRB.out (HC.out.bel hk5)
      have hb5 := blk_kx HK5.out HX1.out HLB.out
      have c5 := cells4 hb5
      have hl5 := lt_of_block hb5
      clear hc5 hk5 hb5 c1 c2
      rcases hk : (k != 0) with _ | _
      · have hN := HN2.out
        simp only [thenT, hk, Bool.false_eq_true, if_false, fallT] at hN
        rcases hz : (f.result == 0) with _ | _
        · rw [hz] at hN
          simp only [Bool.false_eq_true, if_false] at hN
          rcases he : endsM fe f.body with _ | b
          · rw [he] at hN; cases hN
          rw [he] at hN
          simp only [Option.some.injEq] at hN
          have HEV : Hid (EndsV fe w5 (.slice ab f.body.length cq) b) := ends_of fe f.body b _ he HRB5.out
          have HN3 : Hid ((if b = true then 0 else 11) = r) := hN
          have hzz : f.result ≠ 0 := by simpa using hz
          clear hN
          go_wp2_with fail
          refine (ends_any fe _ b _ HEV.out).mono ?_
          rintro e w6 ⟨rfl, hb6⟩
          have HC6 : Hid (_) := HC5.out.chk.below hb6
          have HK6 : Hid (KX X X5 w w6) := HK5.out.trans (KX.of_below hb6)
          clear hb6
          rcases b with _ | _
          · have HN4 : Hid ((11 : Int) = r) := HN3.out
            go_wp2_with fail
            go_ret
            exact ⟨by rw [← HN4.out]; rfl, X5, D, HC6.out, HK6.out⟩
          · have HN4 : Hid ((0 : Int) = r) := HN3.out
            go_wp2_with fail
            go_ret
            exact ⟨by rw [← HN4.out]; rfl, X5, D, HC6.out, HK6.out⟩
        · rw [hz] at hN
          simp only [if_true, Option.some.injEq] at hN
          have HN4 : Hid ((0 : Int) = r) := hN
          have hzz : f.result = 0 := by simpa using hz
          clear hN
          go_wp2_with fail
          go_ret
          exact ⟨by rw [← HN4.out]; rfl, X5, D, HC5.out.chk, HK5.out⟩
      · have hN := HN2.out
        simp only [thenT, hk, if_true, Option.some.injEq] at hN
        have HN3 : Hid (k = r) := hN
        clear hN
        go_wp2_with fail
        go_ret
        exact ⟨by rw [HN3.out]; rfl, X5, D, HC5.out.chk, HK5.out⟩
    | succ g =>
      have hlt : (i : Int) < (f.params.length : Int) := by omega
      have hltb : decide ((i : Int) < (f.params.length : Int)) = true := by simpa using hlt
      have hilt : i < f.params.length := by omega
      have hget : f.params[i]? = some f.params[i] := List.getElem?_eq_getElem hilt
      rw [List.drop_eq_getElem_cons hilt] at hN
      simp only [paramsT] at hN
      generalize f.params[i] = p at hN hget
      obtain ⟨pn, pt⟩ := p
      simp only at hN
      by_cases hl5 : 1000000 < pn.length
      · rw [if_pos hl5] at hN; cases hN
      rw [if_neg hl5] at hN
      by_cases hl6 : 1000000 < Maps.size D
      · rw [if_pos hl6] at hN; cases hN
      rw [if_neg hl6] at hN
      obtain ⟨ga, ca, u, hva, hgB, hu, hcell⟩ := Row.at HRP.out 2 isP_len i _ hget
      cases hva
      have hu2 : u = .agg #[.string ⟨pn.toArray⟩, .int .i64 pt] := hu
      subst hu2
      have hbel : Below B w wr := HH.out.bel HK.out
      have q0 := hcell 0 (by decide)
      have q1 := hcell 1 (by decide)
      simp only [Value.cells, Nat.add_zero] at q0 q1
      simp at q0 q1
      rw [← hbel.cell (p := ⟨ga, i * 2, none⟩) hgB] at q0
      rw [← hbel.cell (p := ⟨ga, i * 2 + 1, none⟩) hgB] at q1
      have hgal : ga < wr.heap.size := World.block_lt_of_cell? wr ⟨ga, i * 2, none⟩ q0
      have hka : Below wr.heap.size wr (wr.alloc (.cells #[.string ⟨pn.toArray⟩, .int .i64 pt] 84)) := (Below.refl _ _).alloc (Nat.le_refl _) _
      have HCA : Hid (_) := HC.out.add hka
      have HKA : Hid (KX X X w (wr.alloc (.cells #[.string ⟨pn.toArray⟩, .int .i64 pt] 84))) := HK.out.trans (KX.of_below hka)
      have HN2 : Hid (_) := hN
      clear hN hget hcell hu hbel hka
      go_wp2_with fail
      refine (declare_any _ B cb X fv pl res sc D d l pn pt HCA.out.chk HCA.out.tab (by omega) (by omega)).mono ?_
      rintro e w2 ⟨rfl, hc2, hk2⟩
      have HC2 : Hid (_) := HCA.out.next hc2 hk2
      have HK2 : Hid (KX X X w w2) := HKA.out.trans hk2
      clear hc2 hk2
      rcases hm : (declT D pn pt != 0) with _ | _
      · have hN := HN2.out
        rw [hm] at hN
        simp only [Bool.false_eq_true, if_false] at hN
        have HN3 : Hid (_) := hN
        clear hN
        go_wp2_with fail
        go_roundg g
        case measure => omega
        case rel => exact ⟨i + 1, _, by go_num, by omega, HC2, HK2, HN3⟩
      · have hN := HN2.out
        rw [hm] at hN
        simp only [if_true, funcInT, Option.some.injEq] at hN
        have HN3 : Hid (_ = r) := hN
        clear hN
        go_wp2_with fail
        go_ret
        exact ⟨by rw [← HN3.out]; rfl, X, _, HC2.out.chk, HK2.out⟩

end Go.Proofs.YtbpnfoihonehgabGreatDoor
