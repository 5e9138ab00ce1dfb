/-
  The program of the law on the heap, made and run; lists of two texts that are the same.
-/
import Derived.Test.YtbpnfoihonehgadDoorJbG
import Derived.Test.YtbpnfoihonehgadDoorJaQ
import Derived.Test.YtbpnfoihonehgadDoorJbE1
namespace Go.Proofs.YtbpnfoihonehgadDoor
open Go.RowKit
set_option linter.unusedSimpArgs false
set_option linter.unusedVariables false

theorem c_any (d n : Int) (w : World) : Calls Tryd.prog 5 #[.int .i64 d, .int .i64 n] w fun e w' => e = .returned (.agg #[.int .i64 1, .slice (some ⟨w.heap.size + 1, 0, none⟩) 1 1, .slice none 0 0, .int .i64 n, .string ⟨#[]⟩, .slice none 0 0]) ∧ w' = (w.alloc (insO (w.heap.size + 1) n)).alloc (.cells #[.int .i64 d] 3) := by
  unfold insO slN
  go_enter Tryd.func5, Tryd.ntmps5
  go_wp2_with fail
  exact bodyPost_ret (v := .agg #[.int .i64 1, .slice (some ⟨w.heap.size + 1, 0, none⟩) 1 1, .slice none 0 0, .int .i64 n, .string ⟨#[]⟩, .slice none 0 0]) (by simp [results, Tryd.results5, go_sem]) rfl ⟨rfl, rfl⟩

theorem ranHeap {W : World} {h room : Nat} {k v a r : Int} {q' : Mst} (hL : HeapL W h k v a) (hB : h + 16 ≤ W.heap.size) (hk : I64 k) (hv : I64 v) (ha : I64 a) (hT : TabC W) (hP : TabP W) (hG : 1 < h) (hG2 : 0 < h) (r0 : 2 ≤ room) (r1 : room ≤ 20000)
    (hrun : runM 20 (heap0 room k v a) = some (r, q')) :
    Calls Tryd.prog 6 #[.agg #[.slice (some ⟨h + 14, 0, none⟩) 1 1, .slice (some ⟨h, 0, none⟩) 2 2], .int .i64 (room : Int), .int .i64 20] W fun e w' => ∃ vl B, e = .returned (.tuple #[.agg #[vl, .int .i64 r], .int .i64 0]) ∧ w'.ownsRow B 9 1 vl q'.lines.length (strsL q'.lines) ∧ Below W.heap.size W w' := by
  have h0 := hL.at_ 0 _ rfl
  have h13 := hL.at_ 13 _ rfl
  have h14 := hL.at_ 14 _ rfl
  have hR := Run_any W (h + 16) (h + 14) 0 1 1 (.slice (some ⟨h, 0, none⟩) 2 2) [heapC k v a] [1, 2] room 20 (heapC k v a) 4 (h + 13) 0 1 1 (some ⟨h + 12, 0, none⟩) (heapI k v a) 8 r q'
    ⟨heap_cods hL hk hv ha, heap_blk hL hk hv ha, ⟨_, rfl⟩, Nat.le_refl _, by decide, by decide, fun x hx => by simp at hx; rcases hx with rfl | rfl <;> exact ⟨by decide, by decide⟩, by decide, hP, by omega, ⟨_, _, _, rfl⟩, hB⟩
    (nums2 h0 (by omega) ⟨by decide, by decide⟩ ⟨by decide, by decide⟩) (.inr (by decide)) (by decide) ⟨by rw [cell_at h14]; rfl, by rw [cell_at h14]; rfl, by rw [cell_at h14]; rfl, by rw [cell_at h14]; rfl, by rw [cell_at h14]; rfl, by rw [cell_at h14]; rfl⟩ rfl (by decide) (by rw [cell_at h13]; rfl)
    hT (by omega) (heap_checks k v a) r0 r1 (by decide) hrun
  refine hR.mono ?_
  rintro e w' ⟨vl, rfl, ho, hbe⟩
  exact ⟨vl, h + 16, rfl, ho, hbe⟩

set_option maxHeartbeats 1000000 in
set_option maxRecDepth 20000 in
theorem equal_two (g1 c1 g2 c2 : Nat) (s t : ByteArray) (w : World) (h1 : w.cell? ⟨g1, 0, none⟩ = some (.string s)) (h2 : w.cell? ⟨g1, 1, none⟩ = some (.string t)) (k1 : w.cell? ⟨g2, 0, none⟩ = some (.string s)) (k2 : w.cell? ⟨g2, 1, none⟩ = some (.string t)) :
    Calls Tryd.prog 7 #[.slice (some ⟨g1, 0, none⟩) 2 c1, .slice (some ⟨g2, 0, none⟩) 2 c2] w fun e w' => e = .returned (.bool true) ∧ ∃ n, w' = w.drewN n := by
  go_enter Tryd.func7, Tryd.ntmps7
  go_wp2_with fail
  go_loopg [13] 2 (fun g s13 wr => ∃ (i : Nat), s13 = .int .i64 (i : Nat) ∧ i + g = 2 ∧ Hid (∃ n, wr = w.drewN n))
  case atStart => exact ⟨0, rfl, rfl, 0, rfl⟩
  case round =>
    obtain ⟨i, rfl, hig, HW⟩ := hrel
    obtain ⟨n, hn⟩ := HW.out
    subst hn
    cases gk with
    | zero =>
      have hi : i = 2 := by omega
      subst hi
      go_wp2_with fail
      go_ret
      exact ⟨rfl, _, rfl⟩
    | succ g =>
      rcases Nat.eq_zero_or_pos g with hg | hg
      · have hi : i = 1 := by omega
        subst hi
        subst hg
        go_wp2_with fail
        go_quiet (fail)
        go_wp2_with fail
        go_roundg 0
        case measure => omega
        case rel => exact ⟨2, by go_num, rfl, _, rfl⟩
      · have hi : i = 0 := by omega
        have hg1 : g = 1 := by omega
        subst hi
        subst hg1
        go_wp2_with fail
        go_quiet (fail)
        go_wp2_with fail
        go_roundg 1
        case measure => omega
        case rel => exact ⟨1, by go_num, rfl, _, rfl⟩

end Go.Proofs.YtbpnfoihonehgadDoor
