/-
  slices.Backward over numbers: its contract.
-/
import Derived.RangeFuncNested
import Derived.RangeFuncBound
import Derived.RangeFuncCalls
import Derived.RangeFuncLeaves
import Derived.Shelf.Abstract
import Derived.Shelf.RegionOpen
import Derived.WalkKit
import Derived.OwnWalkIn
import Derived.TacticsInMore
import Derived.LoopNIn
import Derived.LoopIn
import Derived.Test.YtjdedfgdofceeaaSbO1
namespace Go.Proofs.Ytjdedfgdofceeaa
open Go.RowKit Go.Shelf
set_option linter.unusedSimpArgs false
set_option linter.unusedVariables false

attribute [local go_sem] Oper.semAt_some

/-- what a round keeps: all blocks below one but a row -/
def KpB (D g : Nat) (W W' : World) : Prop := W.heap.size ≤ W'.heap.size ∧ ∀ k, k < D → k ≠ g → W'.heap[k]? = W.heap[k]?
theorem KpB.refl (D g : Nat) (W : World) : KpB D g W W := ⟨Nat.le_refl _, fun _ _ _ => rfl⟩
theorem KpB.trans {D g : Nat} {A B C : World} (h : KpB D g A B) (k : KpB D g B C) : KpB D g A C := ⟨Nat.le_trans h.1 k.1, fun i hi hn => (k.2 i hi hn).trans (h.2 i hi hn)⟩
theorem KpB.cell {D g : Nat} {A B : World} (h : KpB D g A B) {p : Addr} (hp : p.block < D) (hn : p.block ≠ g) : B.cell? p = A.cell? p := World.cell?_of_block (w := A) (h.2 p.block hp hn)

theorem backward_one (a : Option Addr) (n c : Nat) (w : World) : Calls Try.prog 37 #[.slice a n c] w fun e w' => e = .returned (.func (.func 41) #[] #[.pointer (some ⟨w.heap.size, 0, none⟩)]) ∧ w' = w.alloc (.cells #[.slice a n c] 31) := by
  go_enter Try.func37, Try.ntmps37
  go_wp2_with fail
  go_ret
  exact ⟨rfl, rfl⟩

set_option maxRecDepth 100000 in
set_option maxHeartbeats 4000000 in
theorem backward_stops (o : List Nat) (Bx D gm m ko : Nat) (ao : Option Addr) (w : World) (hm : m = o.length) (hn : o.Nodup) (hreach : m ≤ 1048576) (hB : Bx < D) (hne : Bx ≠ gm) (hD : D ≤ w.heap.size)
    (hbx : w.cell? ⟨Bx, 0, none⟩ = some (.slice ao m ko))
    (hrow : ∀ (j b : Nat), o[j]? = some b → ∃ go oo : Nat, ao = some ⟨go, oo, none⟩ ∧ go < D ∧ go ≠ gm ∧ w.cell? ⟨go, oo + j, none⟩ = some (.int .i64 (b : Nat))) :
    SeqStopsK Fence.wide 4 Try.prog 41 #[.pointer (some ⟨Bx, 0, none⟩)] (fun x : { b : Nat // b ∈ o } => #[.int .i64 (o.idxOf x.1 : Nat), .int .i64 (x.1 : Nat)]) (KpB D gm)
      (fun xs => xs.map (·.1) = o.reverse) (fun pre => True) m w := fun l J Jx W hW _ _ hY h0 => by
  have HM : Hid (m = o.length) := hm
  clear hm
  have hc' := (hW.cell (p := ⟨Bx, 0, none⟩) (by show Bx < _; omega)).trans hbx
  refine callsIn_of_wp Try.func41 rfl trivial ?_ rfl
  simp only [Try.ntmps41, List.size_toArray, List.length_cons, List.length_nil, Nat.reduceAdd, Nat.reduceSub, Array.replicate_succ, Array.replicate_zero, List.push_toArray, List.append_toArray, List.nil_append, List.cons_append]
  gi_wp2
  gi_loopw [3] (fun i wr => ∃ (k : Nat) (pre : List { b : Nat // b ∈ o }), k ≤ m ∧ i = .int .i64 ((m : Int) - 1 - k) ∧ pre.map (·.1) = o.reverse.take k ∧ J pre wr ∧ KpB D gm W wr)
    (fun i _ => (intOf i + 1).toNat)
  case atStart => exact ⟨0, [], Nat.zero_le _, by simp, by simp, h0, KpB.refl _ _ _⟩
  case round =>
    obtain ⟨k, pre, hk, rfl, hpre, hJs, hnx⟩ := hrel
    have hbx2 := (hnx.cell (p := ⟨Bx, 0, none⟩) hB hne).trans hc'
    have hpl : pre.length = k := by
      have := congrArg List.length hpre
      have hh := HM.out
      simp at this; omega
    by_cases hlt : k < m
    · have hko : m - 1 - k < o.length := by have := HM.out; omega
      have hget : o[m - 1 - k]? = some o[m - 1 - k] := List.getElem?_eq_getElem hko
      obtain ⟨b, hb⟩ : ∃ b, b = o[m - 1 - k] := ⟨_, rfl⟩
      rw [← hb] at hget
      have hbm : b ∈ o := List.mem_of_getElem? hget
      have hidx : o.idxOf b = m - 1 - k := by rw [hb]; exact List.Nodup.idxOf_getElem hn _ hko
      obtain ⟨go, oo, rfl, hg1, hg2, hcell⟩ := hrow _ _ hget
      have hcx := (hnx.cell (p := ⟨go, oo + (m - 1 - k), none⟩) hg1 hg2).trans ((hW.cell (p := ⟨go, oo + (m - 1 - k), none⟩) (by show go < _; omega)).trans hcell)
      obtain ⟨fn, tmps, assign, body, hy, hR⟩ := hY pre ⟨b, hbm⟩ wr hJs (by omega)
      dsimp only at hy
      rw [hidx] at hy
      have hpre2 : (pre ++ [(⟨b, hbm⟩ : { b : Nat // b ∈ o })]).map (·.1) = o.reverse.take (k + 1) := by
        have h1 : o.reverse[k]? = some b := by rw [List.getElem?_reverse (by have := HM.out; omega), ← HM.out]; exact hget
        rw [List.map_append, hpre, List.take_add_one, h1]; rfl
      obtain ⟨j, hj⟩ : ∃ j, j = m - 1 - k := ⟨_, rfl⟩
      have hij : (m : Int) - 1 - (k : Int) = (j : Int) := by omega
      have hjm : (j : Int) < (m : Int) := by omega
      rw [← hj] at hcx hy
      rw [hij]
      have hj0 : (0 : Int) ≤ (j : Int) := by omega
      have HJJ : Hid (j = m - 1 - k) := hj
      clear hj hij hget hb hidx hcell hrow hko
      gi_wp2
      refine hR.mono ?_
      rintro e W3 (⟨rfl, hJ3, hk3⟩ | ⟨rfl, hJx3⟩)
      · gi_wp2
        go_roundw
        case rel => exact ⟨k + 1, _, by omega, by have h1 := HJJ.out; have h2 : wrap64 ((j : Int) - 1) = (m : Int) - 1 - ((k + 1 : Nat) : Int) := (by unfold wrap64; omega); have h3 : (j : Int) - 1 = (m : Int) - 1 - ((k + 1 : Nat) : Int) := (by omega); first | rw [h2] | rw [h3], hpre2, hJ3, hnx.trans hk3⟩
        case measure => have := HJJ.out; simp [intOf] <;> omega
      · gi_wp2
        refine bodyPost_ret (results_none rfl _ _ _) rfl ?_
        exact ⟨⟨_, rfl⟩, .inr ⟨_, trivial, hJx3⟩⟩
    · obtain rfl : k = m := by omega
      have hi : (k : Int) - 1 - (k : Int) = -1 := by omega
      rw [hi]
      gi_wp2
      go_end0
      refine ⟨⟨_, rfl⟩, .inl ⟨pre, ?_, hJs⟩⟩
      rw [hpre, List.take_of_length_le (by rw [List.length_reverse]; have := HM.out; omega)]

end Go.Proofs.Ytjdedfgdofceeaa
