/-
  Package ssa: is all that is asked known?
-/
import Derived.Test.YthlngmknifpbjaaDoorSsJ
import Derived.Test.YthlngmknifpbjaaDoorSsC
namespace Go.Proofs.YthlngmknifpbjaaDoor
open Go.RowKit Go.Maps
set_option linter.unusedSimpArgs false
set_option linter.unusedVariables false

def useB (AH : List (List Int)) (bs : List (List Ins)) (S : SetM) (A N : Nat → Int) (b : Nat) (bl : List Ins) (k : Nat) : Bool :=
  match bl[k]? with | some x => asksM AH bs S A N x b (k : Int) | none => true
def usesM (AH : List (List Int)) (bs : List (List Ins)) (S : SetM) (A N : Nat → Int) (o : List Nat) : Bool :=
  o.all fun b => (List.range (bs.getD b []).length).all (useB AH bs S A N b (bs.getD b []))

set_option maxHeartbeats 4000000 in
set_option maxRecDepth 20000 in
theorem uses_any (K B : Nat) (c : Cod) (vb f0 f1 f3 f4 : Value) (a14 : Option Addr) (k14 m : Nat) (g5 g6 n : Nat) (A N : Nat → Int) (mp : Nat) (S : SetM) (AH : List (List Int)) (o : List Nat) (w : World) (h : KS w K c vb f0 f1 (.slice a14 m k14) f3 f4 g5 g6 n A N mp S) (hBw : B ≤ w.heap.size)
    (hk : KA B w c vb f0 n AH) (ho : Nums w.heap.size w (.slice a14 m k14) (natsL o)) (hm : m = o.length) (hlt : ∀ b, b ∈ o → b < n)
    (hphi : ∀ (b : Nat) (bl : List Ins) (k : Nat) (x : Ins), c.blocks[b]? = some bl → bl[k]? = some x → x.op = 14 → x.ar.length = (AH.getD b []).length) :
    Calls Tryd.prog 20 #[.pointer (some ⟨K, 0, none⟩)] w fun e w' => e = .returned (.bool (usesM AH c.blocks S A N o)) ∧ Below w.heap.size w w' := by
  obtain ⟨ab, kb, eb⟩ := Lies.slice hk.blks
  rw [← hk.len] at eb
  subst eb
  have HKS : Hid (KS w K c (.slice ab n kb) f0 f1 (.slice a14 m k14) f3 f4 g5 g6 n A N mp S) := h
  have HKA : Hid (KA B w c (.slice ab n kb) f0 n AH) := hk
  have HPH : Hid (_) := hphi
  have HO : Hid (Nums w.heap.size w (.slice a14 m k14) (natsL o)) := ho
  have HM : Hid (m = o.length) := hm
  have HLT : Hid (∀ b, b ∈ o → b < n) := hlt
  have HBW : Hid (B ≤ w.heap.size) := hBw
  have hml := ho.len
  rw [natsL_len, ← hm] at hml
  unfold maxLen at hml
  obtain ⟨q0, q1, q2, q3, q4, q5, q6, q7, q8, q9, q10, q11, q12, q13⟩ := cells14 h.obj
  obtain ⟨R, hR⟩ : ∃ R, R = usesM AH c.blocks S A N o := ⟨_, rfl⟩
  rw [← hR]
  have HR : Hid (R = usesM AH c.blocks S A N o) := hR
  clear h hk hphi ho hm hlt hR hBw
  go_enter Tryd.func20, Tryd.ntmps20
  go_wp2_with fail
  go_loopg [13] m (fun g s13 wr => ∃ t : Nat, s13 = .int .i64 (t : Nat) ∧ t + g = m ∧ Hid (∀ b, b ∈ o.take t → ((List.range (c.blocks.getD b []).length).all (useB AH c.blocks S A N b (c.blocks.getD b []))) = true) ∧ Hid (Below w.heap.size w wr))
  case atStart => exact ⟨0, rfl, by omega, fun b h => by simp at h, Below.refl _ _⟩
  case round =>
    clear q0 q1 q2 q3 q4 q5 q6 q7 q8 q9 q10 q11 q12 q13
    obtain ⟨t, rfl, ht', HJ, HBL⟩ := hrel
    cases gk with
    | zero =>
      have hlt : ¬ (t : Int) < (m : Int) := by omega
      have HRT : Hid (R = true) := by
        unfold Hid
        rw [HR.out]
        unfold usesM
        rw [List.all_eq_true]
        intro b hb
        have hj := HJ.out b
        rw [List.take_of_length_le (by have := HM.out; omega)] at hj
        exact hj hb
      go_wp2_with fail
      go_ret
      exact ⟨by rw [HRT.out]; rfl, HBL.out⟩
    | succ g =>
      have hlt : (t : Int) < (m : Int) := by omega
      have htN : t < o.length := by have := HM.out; omega
      have hgo : o[t]? = some o[t] := List.getElem?_eq_getElem htN
      generalize o[t] = b at hgo
      have HGO : Hid (o[t]? = some b) := hgo
      have hbo : b ∈ o := List.mem_of_getElem? hgo
      have hbn : b < n := HLT.out b hbo
      have hbI : (b : Int) < (n : Int) := by omega
      have HKR : Hid (KS wr K c (.slice ab n kb) f0 f1 (.slice a14 m k14) f3 f4 g5 g6 n A N mp S) := HKS.out.keep HBL.out
      obtain ⟨q0, q1, q2, q3, q4, q5, q6, q7, q8, q9, q10, q11, q12, q13⟩ := cells14 HKR.out.obj
      obtain ⟨go, oo, cs, e14, _, _, ⟨rfl, _⟩, hcl⟩ := Lies.at (Nums.below HO.out HBL.out) (i := t) (x := (b : Int)) (by unfold natsL; rw [List.getElem?_map, hgo]; rfl)
      subst e14
      have o0 := hcl 0 (by decide)
      simp at o0
      have hbN : b < c.blocks.length := by have := HKA.out.len; omega
      have hget : c.blocks[b]? = some c.blocks[b] := List.getElem?_eq_getElem hbN
      generalize c.blocks[b] = bl at hget
      have HG : Hid (c.blocks[b]? = some bl) := hget
      have HGD : Hid (c.blocks.getD b [] = bl) := by unfold Hid; rw [List.getD_eq_getElem?_getD, hget]; rfl
      obtain ⟨gb, ob, cs, eb, hgb, _, ⟨vk, rfl, hvk⟩, hcl2⟩ := Lies.at HKA.out.blks hget
      subst eb
      obtain ⟨ak, ck, rfl⟩ := Lies.slice hvk
      have qw := hcl2 0 (by decide)
      simp at qw
      have b0 : wr.cell? ⟨gb, ob + b, none⟩ = some (.slice ak bl.length ck) := ((HBL.out.mono HBW.out).cell (p := ⟨gb, ob + b, none⟩) hgb).trans qw
      have hbl := hvk.len
      unfold maxLen at hbl
      obtain ⟨L, hL⟩ : ∃ L, L = bl.length := ⟨_, rfl⟩
      have HL : Hid (L = bl.length) := hL
      rw [← hL] at b0 hbl hvk
      have HVK : Hid (Blk B w (.slice ak L ck) bl) := hvk
      clear hcl hcl2 hgo hget hvk hL qw hbo
      go_wp2_with fail
      go_loopg [26] L (fun g2 s26 wr => ∃ j : Nat, s26 = .int .i64 (j : Nat) ∧ j + g2 = L ∧ Hid (∀ k, k < j → useB AH c.blocks S A N b bl k = true) ∧ Hid (Below w.heap.size w wr))
      case atStart => exact ⟨0, rfl, by omega, fun k h => absurd h (by omega), HBL⟩
      case round =>
        clear HBL HKR q0 q1 q2 q3 q4 q5 q6 q7 q8 q9 q10 q11 q12 q13 o0 b0
        obtain ⟨j, rfl, hj', HJ2, HBL⟩ := hrel
        cases gk with
        | zero =>
          have hltj : ¬ (j : Int) < (L : Int) := by omega
          have HJ3 : Hid (∀ b', b' ∈ o.take (t + 1) → ((List.range (c.blocks.getD b' []).length).all (useB AH c.blocks S A N b' (c.blocks.getD b' []))) = true) := fun b' hb' => by
            rw [List.take_add_one, HGO.out] at hb'
            simp only [Option.toList_some, List.mem_append, List.mem_singleton] at hb'
            rcases hb' with hb' | rfl
            · exact HJ.out b' hb'
            · rw [List.all_eq_true]
              intro k hk
              rw [HGD.out] at hk ⊢
              exact HJ2.out k (by have := List.mem_range.1 hk; have := HL.out; omega)
          go_wp2_with fail
          go_roundg g
          case measure => omega
          case rel => exact ⟨t + 1, by go_num, by omega, HJ3, HBL⟩
        | succ g2 =>
          have hltj : (j : Int) < (L : Int) := by omega
          have hjN : j < bl.length := by have := HL.out; omega
          have hgx : bl[j]? = some bl[j] := List.getElem?_eq_getElem hjN
          generalize bl[j] = x at hgx
          have HGX : Hid (bl[j]? = some x) := hgx
          obtain ⟨gi, oi, cs, rfl, hgi, hcs, ⟨vd, va, vt, rfl, hds, has, hts, _⟩, hcl⟩ := Lies.at (Blk.below HVK.out (HBL.out.mono HBW.out)) hgx
          have i0 := hcl 0 (by decide)
          have i1 := hcl 1 (by decide)
          have i2 := hcl 2 (by decide)
          have i3 := hcl 3 (by decide)
          have i4 := hcl 4 (by decide)
          have i5 := hcl 5 (by decide)
          simp at i0 i1 i2 i3 i4 i5
          obtain ⟨ad, cd, rfl⟩ := Lies.slice hds
          obtain ⟨aa, ca, rfl⟩ := Lies.slice has
          obtain ⟨at_, ct, rfl⟩ := Lies.slice hts
          have HAS : Hid (Nums B wr (.slice aa x.ar.length ca) x.ar) := has
          have HUB : Hid (useB AH c.blocks S A N b bl j = asksM AH c.blocks S A N x b (j : Int)) := by unfold Hid useB; rw [HGX.out]
          clear hcl hcs hgx hds has hts
          go_upto_region 7 with fail
          obtain ⟨O, hO⟩ : ∃ O, O = (.cells #[.int .i64 x.op, .slice ad x.ds.length cd, .slice aa x.ar.length ca, .int .i64 x.n, .string ⟨x.s.toArray⟩, .slice at_ x.to.length ct] 37 : Obj) := ⟨_, rfl⟩
          rw [← hO]
          obtain ⟨gx, hgx⟩ : ∃ gx, gx = wr.heap.size := ⟨_, rfl⟩
          obtain ⟨W, hW⟩ : ∃ W, W = wr.alloc O := ⟨_, rfl⟩
          have hx : W.heap[gx]? = some O := by rw [hW, hgx]; exact heap_alloc_new wr O
          have HB1 : Hid (Below wr.heap.size wr W) := by rw [hW]; exact below_alloc _ _
          have HBLW : Hid (Below w.heap.size w W) := below_after HBL.out HB1.out
          rw [← hgx, ← hW]
          rw [hO] at hx
          obtain ⟨x0, x1, x2, x3, x4, x5⟩ := cells6 hx
          have HCA : Hid (Calls Tryd.prog 34 #[.pointer (some ⟨K, 0, none⟩), .agg #[.int .i64 x.op, .slice ad x.ds.length cd, .slice aa x.ar.length ca, .int .i64 x.n, .string ⟨x.s.toArray⟩, .slice at_ x.to.length ct], .agg #[.int .i64 (b : Nat), .int .i64 (j : Nat)]] W fun e w' => e = .returned (.bool (asksM AH c.blocks S A N x b (j : Int))) ∧ Below W.heap.size W w') :=
            asks_any K B c _ f0 f1 _ f3 f4 (.slice ad x.ds.length cd) (.slice aa x.ar.length ca) (.slice at_ x.to.length ct) g5 g6 n A N mp S AH x b (j : Int) W (HKS.out.keep HBLW.out) (Nat.le_trans HBW.out HBLW.out.size) (HKA.out.below (HBLW.out.mono HBW.out)) hbn (Nums.below HAS.out (HB1.out.mono (Nat.le_trans HBW.out HBL.out.size))) (fun e => HPH.out b bl j x HG.out HGX.out e) ⟨_, _, _, rfl⟩ ⟨_, _, _, rfl⟩
          clear hO hgx hW hx i0 i1 i2 i3 i4 i5
          go_wp2_with fail
          refine Calls.mono HCA.out ?_
          rintro e w5 ⟨rfl, hb5⟩
          have HB5 : Hid (Below w.heap.size w w5) := below_after HBLW.out hb5
          clear hb5 x0 x1 x2 x3 x4 x5
          rcases hq : asksM AH c.blocks S A N x b (j : Int) with _ | _
          · have HRF : Hid (R = false) := by
              unfold Hid
              rw [HR.out]
              unfold usesM
              rw [List.all_eq_false]
              refine ⟨b, List.mem_of_getElem? HGO.out, ?_⟩
              rw [HGD.out, Bool.not_eq_true, List.all_eq_false]
              exact ⟨j, List.mem_range.2 (by have := HL.out; omega), by rw [HUB.out, hq]; simp⟩
            go_wp2_with fail
            go_ret
            exact ⟨by rw [HRF.out]; rfl, HB5.out⟩
          · have HJ4 : Hid (∀ k, k < j + 1 → useB AH c.blocks S A N b bl k = true) := fun k hk => by
              rcases Nat.lt_or_ge k j with h | h
              · exact HJ2.out k h
              · have : k = j := by omega
                subst this
                rw [HUB.out, hq]
            go_wp2_with fail
            go_roundg g2
            case measure => omega
            case rel => exact ⟨j + 1, by go_num, by omega, HJ4, HB5⟩

end Go.Proofs.YthlngmknifpbjaaDoor
