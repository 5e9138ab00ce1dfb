/-
  posternref.EndsOf.
-/
import Derived.Test.YtbpnfoihonehgabTeB
namespace Go.Proofs.Ytbpnfoihonehgab
open Go.RowKit
set_option linter.unusedSimpArgs false
set_option linter.unusedVariables false

set_option maxHeartbeats 2000000 in
theorem endsOf_any : ∀ (n : Nat) (v : Value) (b : Bool) (w : World), EndsV n w v b →
    Calls Try.prog 6 #[v] w fun e w' => e = .returned (.bool b) ∧ Below w.heap.size w w' := by
  intro n
  induction n with
  | zero => intro v b w h; exact h.elim
  | succ n ih =>
    intro v b w h
    rcases h with ⟨a, cap, rfl, rfl⟩ | ⟨g, off, len, cap, k, s, t, ax, lx, cx, ab, lb, cb, ae, le, ce, ac, lc, cc, b1, b2, V, B, rfl, hlen, hlc, h7, hb1, hb2, hcs, hb⟩
    · go_enter Try.func6, Try.ntmps6
      go_wp2_with fail
      go_ret
      exact ⟨rfl, Below.refl _ _⟩
    · unfold maxLen at hlen hlc
      obtain ⟨c0, c1, c2, c3, c4, c5, c6⟩ := h7
      have HIH : Hid (_) := ih
      have HB : Hid (_) := hb
      have HB1 : Hid (_) := hb1
      have HB2 : Hid (_) := hb2
      have HCS : Hid (_) := hcs
      clear hb hb1 hb2 hcs ih
      have hl0 : (((len + 1 : Nat) : Int) == 0) = false := by simpa using (show ((len + 1 : Nat) : Int) ≠ 0 by omega)
      rcases h8 : (k == 8) with _ | _
      · rcases h4 : (k == 4) with _ | _
        · rcases h7 : (k == 7) with _ | _
          · have h7n : (k != 7) = true := by simp [bne, h7]
            go_enter Try.func6, Try.ntmps6
            go_wp2_with fail
            go_ret
            exact ⟨by rw [HB.out, h8, h4, h7]; rfl, below_alloc _ _⟩
          · have h7n : (k != 7) = false := by simp [bne, h7]
            go_enter Try.func6, Try.ntmps6
            go_wp2_with fail
            go_loopg [4] lc (fun g' s4 wr => ∃ i : Nat, s4 = .int .i64 (i : Nat) ∧ i + g' = lc ∧ Hid (Below w.heap.size w wr) ∧ Hid (wr.heap[w.heap.size]? = some (.cells #[.int .i64 k, .string s, .string t, .slice ax lx cx, .slice ab lb cb, .slice ae le ce, .slice ac lc cc] 28)) ∧ Hid (w.heap.size < wr.heap.size) ∧ Hid (∀ j, j < i → B j = true))
            case atStart => exact ⟨0, rfl, by omega, below_alloc _ _, heap_alloc_new w _, by unfold Hid; simp, fun j hj => absurd hj (by omega)⟩
            case round =>
              obtain ⟨i, rfl, hi, HW, HK, HZ, HJ⟩ := hrel
              obtain ⟨q0, q1, q2, q3, q4, q5, q6⟩ := cells7 HK.out
              cases gk with
              | zero =>
                have hil : i = lc := by omega
                subst hil
                go_wp2_with fail
                refine (HIH.out _ b2 _ (EndsV.below HW.out _ _ _ HB2.out)).mono ?_
                rintro e w3 ⟨rfl, hw3⟩
                have HW3 : Hid (Below w.heap.size w w3) := below_after HW.out hw3
                clear hw3
                go_wp2_with fail
                go_ret
                exact ⟨by rw [HB.out, h8, h4, h7, allB_true HJ.out]; simp, HW3.out⟩
              | succ g' =>
                have hilt : i < lc := by omega
                have hlt : (i : Int) < (lc : Int) := by omega
                obtain ⟨gc, oc, x, rfl, hx, hv, ⟨a1, l1, d1, hva⟩, ⟨a2, l2, d2, rfl⟩, hP⟩ := HCS.out i hilt
                rw [hva] at hv hP
                have hgl : gc < w.heap.size := World.block_lt_of_cell? w ⟨gc, oc + i * 2, none⟩ hx
                rw [← HW.out.cell (p := ⟨gc, oc + i * 2, none⟩) hgl] at hx
                rw [← HW.out.cell (p := ⟨gc, oc + i * 2 + 1, none⟩) hgl] at hv
                have HP : Hid (_) := hP
                clear hP hva hgl c0 c1 c2 c3 c4 c5 c6
                go_wp2_with fail
                refine (HIH.out _ (B i) _ (EndsV.below HW.out _ _ _ HP.out)).mono ?_
                rintro e w3 ⟨rfl, hw3⟩
                have HW3 : Hid (Below w.heap.size w w3) := below_after HW.out hw3
                have HK3 : Hid (w3.heap[w.heap.size]? = _) := (hw3.block w.heap.size HZ.out).trans HK.out
                have HZ3 : Hid (w.heap.size < w3.heap.size) := Nat.lt_of_lt_of_le HZ.out hw3.size
                clear hw3
                rcases hBi : B i with _ | _
                · go_wp2_with fail
                  go_ret
                  exact ⟨by rw [HB.out, h8, h4, h7, allB_false hilt hBi]; simp, HW3.out⟩
                · go_wp2_with fail
                  go_roundg g'
                  case measure => omega
                  case rel =>
                    refine ⟨i + 1, by go_num, by omega, HW3, HK3, HZ3, fun j hj => ?_⟩
                    rcases Nat.lt_or_ge j i with h | h
                    · exact HJ.out j h
                    · have : j = i := by omega
                      subst this; exact hBi
        · go_enter Try.func6, Try.ntmps6
          go_wp2_with fail
          refine (HIH.out _ b1 _ (EndsV.below (below_alloc _ _) _ _ _ HB1.out)).mono ?_
          rintro e w2 ⟨rfl, hw2⟩
          have hblk := (hw2.block w.heap.size (by simp)).trans (heap_alloc_new w (.cells #[.int .i64 k, .string s, .string t, .slice ax lx cx, .slice ab lb cb, .slice ae le ce, .slice ac lc cc] 28))
          obtain ⟨q0, q1, q2, q3, q4, q5, q6⟩ := cells7 hblk
          have HW2 : Hid (Below w.heap.size w w2) := below_after (below_alloc _ _) hw2
          clear hw2 hblk
          cases b1 with
          | false =>
            go_wp2_with fail
            go_ret
            exact ⟨by rw [HB.out, h8, h4, four7 h4]; rfl, HW2.out⟩
          | true =>
            go_wp2_with fail
            refine (HIH.out _ b2 _ (EndsV.below HW2.out _ _ _ HB2.out)).mono ?_
            rintro e w3 ⟨rfl, hw3⟩
            have HW3 : Hid (Below w.heap.size w w3) := below_after HW2.out hw3
            clear hw3
            go_wp2_with fail
            go_ret
            exact ⟨by rw [HB.out, h8, h4, four7 h4]; simp, HW3.out⟩
      · go_enter Try.func6, Try.ntmps6
        go_wp2_with fail
        go_ret
        exact ⟨by rw [HB.out, h8]; rfl, below_alloc _ _⟩

end Go.Proofs.Ytbpnfoihonehgab
