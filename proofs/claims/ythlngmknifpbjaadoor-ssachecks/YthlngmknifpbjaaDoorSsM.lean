/-
  Package posternref: the two closures of OnceFault: is a block above another; is a variable known ahead of a place?
-/
import Derived.Test.YthlngmknifpbjaaDoorSsM0
import Derived.Test.YthlngmknifpbjaaDoorIbA
namespace Go.Proofs.YthlngmknifpbjaaDoor
open Go.RowKit
set_option linter.unusedSimpArgs false
set_option linter.unusedVariables false

set_option maxHeartbeats 1000000 in
theorem isAboveR_any (AB : List (List Int)) (va : Value) (B ab b : Nat) (a : Int) (w : World) (hc : w.cell? ⟨ab, 0, none⟩ = some va) (hA : Rws B w va AB) (hb : b < AB.length) :
    Calls Tryd.prog 12 #[.int .i64 a, .int .i64 (b : Nat), .pointer (some ⟨ab, 0, none⟩)] w fun e w' => e = .returned (.bool ((AB.getD b []).any fun x => x == a)) ∧ w' = w := by
  obtain ⟨aA, kA, rfl⟩ := Lies.slice hA
  have hAl := hA.len
  unfold maxLen at hAl
  have hget : AB[b]? = some AB[b] := List.getElem?_eq_getElem hb
  generalize AB[b] = l at hget
  obtain ⟨gA, oA, cs, rfl, _, _, ⟨vl, rfl, hvl⟩, hcl⟩ := Lies.at hA hget
  obtain ⟨al, kl, rfl⟩ := Lies.slice hvl
  have q0 := hcl 0 (by decide)
  simp at q0
  have hlm := hvl.len
  unfold maxLen at hlm
  have HL : Hid (Nums B w (.slice al l.length kl) l) := hvl
  obtain ⟨r, hr⟩ : ∃ r, r = (AB.getD b []).any fun x => x == a := ⟨_, rfl⟩
  rw [← hr]
  have HR : Hid (r = l.any fun x => x == a) := by unfold Hid; rw [hr, List.getD_eq_getElem?_getD, hget]; rfl
  have hbI : (b : Int) < (AB.length : Int) := by omega
  clear hA hcl hget hvl hr hb
  go_enter Tryd.func12, Tryd.ntmps12
  go_wp2_with fail
  go_loopg [6] l.length (fun g s6 wr => ∃ i : Nat, s6 = .int .i64 (i : Nat) ∧ i + g = l.length ∧ wr = w ∧ Hid (∀ j x, j < i → l[j]? = some x → (x == a) = false))
  case atStart => exact ⟨0, rfl, by omega, rfl, fun j x hj => absurd hj (by omega)⟩
  case round =>
    obtain ⟨i, rfl, hi', rfl, HJ⟩ := hrel
    cases gk with
    | zero =>
      have hlt : ¬ (i : Int) < (l.length : Int) := by omega
      have HA : Hid (r = false) := by
        unfold Hid
        rw [HR.out, List.any_eq_false]
        intro x hx
        obtain ⟨j, hj⟩ := List.getElem?_of_mem hx
        rw [HJ.out j x (by have := (List.getElem?_eq_some_iff.1 hj).1; omega) hj]; simp
      go_wp2_with fail
      go_ret
      exact ⟨by rw [HA.out]; rfl, rfl⟩
    | succ g =>
      have hlt : (i : Int) < (l.length : Int) := by omega
      have hilt : i < l.length := by omega
      have hget : l[i]? = some l[i] := List.getElem?_eq_getElem hilt
      generalize l[i] = x at hget
      obtain ⟨ga, o, cs, rfl, hgB, hcs, ⟨rfl, hx⟩, hcell⟩ := Lies.at HL.out hget
      have p0 := hcell 0 (by decide)
      simp at p0
      have HG : Hid (_) := hget
      clear hcell hget hcs hx
      rcases hb : (x == a) with _ | _
      · go_wp2_with fail
        go_roundg g
        case measure => omega
        case rel =>
          refine ⟨i + 1, by go_num, by omega, rfl, fun j y hj hy => ?_⟩
          rcases Nat.lt_or_ge j i with h | h
          · exact HJ.out j y h hy
          · have : j = i := by omega
            subst this
            rw [HG.out] at hy
            cases hy
            exact hb
      · have HA : Hid (r = true) := by
          unfold Hid
          rw [HR.out, List.any_eq_true]
          exact ⟨x, List.mem_of_getElem? HG.out, hb⟩
        go_wp2_with fail
        go_ret
        exact ⟨by rw [HA.out]; rfl, rfl⟩

/-- the cells that known looks at -/
structure KC (w : World) (ob op oi ab gb gp : Nat) (nv : Nat) (bk pl : Nat → Int) (va : Value) (B : Nat) (AB : List (List Int)) : Prop where
  cb : w.cell? ⟨ob, 0, none⟩ = some (.slice (some ⟨gb, 0, none⟩) nv nv)
  cp : w.cell? ⟨op, 0, none⟩ = some (.slice (some ⟨gp, 0, none⟩) nv nv)
  ci : w.cell? ⟨oi, 0, none⟩ = some (.func (.func 12) #[] #[.pointer (some ⟨ab, 0, none⟩)])
  ca : w.cell? ⟨ab, 0, none⟩ = some va
  rb : RowI w 0 gb nv bk
  rp : RowI w 0 gp nv pl
  rA : Rws B w va AB

set_option maxHeartbeats 1000000 in
theorem knownR_any (ob op oi ab gb gp nv : Nat) (bk pl : Nat → Int) (va : Value) (B : Nat) (AB : List (List Int)) (v b : Nat) (k : Int) (w : World) (h : KC w ob op oi ab gb gp nv bk pl va B AB) (hv : v < nv) (hb : b < AB.length) (hk : -1 ≤ bk v ∧ bk v ≤ 1000000) :
    Calls Tryd.prog 13 #[.int .i64 (v : Nat), .int .i64 (b : Nat), .int .i64 k, .pointer (some ⟨ob, 0, none⟩), .pointer (some ⟨op, 0, none⟩), .pointer (some ⟨oi, 0, none⟩)] w fun e w' => e = .returned (.bool (knM bk pl AB v b k)) ∧ w' = w := by
  obtain ⟨c1, c2, c3, c4, h5, h6, h7⟩ := h
  have x1 := (h5.get hv).1
  have x2 := (h6.get hv).1
  obtain ⟨y, hy⟩ : ∃ y, y = bk v := ⟨_, rfl⟩
  rw [← hy] at x1 hk
  have HY : Hid (y = bk v) := hy
  have HA7 : Hid (_) := h7
  have HC4 : Hid (_) := c4
  have HB : Hid (b < AB.length) := hb
  have hvI : (v : Int) < (nv : Int) := by omega
  have hw : wrap64 (y - 1) = y - 1 := by unfold wrap64; omega
  have HW : Hid (wrap64 (y - 1) = y - 1) := hw
  obtain ⟨q, hq⟩ : ∃ q, q = (AB.getD b []).any fun x => x == y - 1 := ⟨_, rfl⟩
  obtain ⟨r, hr⟩ : ∃ r, r = knM bk pl AB v b k := ⟨_, rfl⟩
  rw [← hr]
  have HR : Hid (r = if y ≤ 0 then decide (y < 0) else if y - 1 == (b : Int) then decide (pl v < k) else q) := by unfold Hid; rw [hr, hq, hy]; rfl
  have HCA : Hid (Calls Tryd.prog 12 #[.int .i64 (y - 1), .int .i64 (b : Nat), .pointer (some ⟨ab, 0, none⟩)] w fun e w' => e = .returned (.bool q) ∧ w' = w) := by rw [hq]; exact isAboveR_any AB va B ab b (y - 1) w c4 h7 hb
  clear h5 h6 h7 hy c4 hv hb hw hq hr
  go_enter Tryd.func13, Tryd.ntmps13
  by_cases e1 : y ≤ 0
  · have HRR : Hid (r = decide (y < 0)) := by unfold Hid; rw [HR.out, if_pos e1]
    by_cases e2 : y < 0
    · go_wp2_with fail
      go_ret
      exact ⟨by rw [HRR.out]; simp [e2], rfl⟩
    · go_wp2_with fail
      go_ret
      exact ⟨by rw [HRR.out]; simp [e2], rfl⟩
  · rcases e2 : (y - 1 == (b : Int)) with _ | _
    · have HRR : Hid (r = q) := by unfold Hid; rw [HR.out, if_neg e1, e2]; rfl
      go_wp2_with fail
      refine Calls.mono HCA.out ?_
      rintro e w1 ⟨rfl, hw1⟩
      have hw1' := hw1.symm
      subst hw1'
      go_wp2_with fail
      go_ret
      exact ⟨by rw [HRR.out]; rfl, rfl⟩
    · have HRR : Hid (r = decide (pl v < k)) := by unfold Hid; rw [HR.out, if_neg e1, e2]; rfl
      go_wp2_with fail
      go_ret
      exact ⟨by rw [HRR.out]; rfl, rfl⟩

end Go.Proofs.YthlngmknifpbjaaDoor
