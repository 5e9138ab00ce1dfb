/-
  The program that prints what two numbers make, run.
-/
import Derived.Test.YtbpnfoihonehgacDoorJbA
import Derived.Test.YtbpnfoihonehgacDoorJaQ
namespace Go.Proofs.YtbpnfoihonehgacDoor
open Go.RowKit
set_option linter.unusedSimpArgs false
set_option linter.unusedVariables false

theorem one_checks (s : List UInt8) (a b : Int) (h : mathB s = true) : programF [oneC s a b] 0 = 0 := by
  simp [programF, dupN, atC, codeF, headF, blockF, accW, firstNZ, atF, instrF, countOk, belowB, formB, argsB, endsB, oneC, oneI, h, wrap64, tInt, tText]

def oneR (s : List UInt8) (a b : Int) : Int := if ((calcM s a b).2 == 0) = true then 1 else (calcM s a b).2
def oneP (s : List UInt8) (a b : Int) : List (List UInt8) := if ((calcM s a b).2 == 0) = true then [Lib.itoa (calcM s a b).1] else []

theorem ranOne (s : List UInt8) (a b : Int) (w : World) (hm : mathB s = true) (hs : s.length ≤ 100) (ha : I64 a) (hb : I64 b) (hT : TabC w) (hP : TabP w) (hG : 3 < w.heap.size) (hG2 : 2 < w.heap.size) :
    Calls Tryd.prog 12 #[prgV (.slice (some ⟨w.heap.size + 8, 0, none⟩) 1 1) slN, .int .i64 0, .int .i64 9] (allocs w (oneO w.heap.size s a b)) fun e w' => ∃ vl B, e = .returned (.tuple #[.agg #[vl, .int .i64 (oneR s a b)], .int .i64 0]) ∧ w'.ownsRow B 9 1 vl (oneP s a b).length (strsL (oneP s a b)) ∧ Below w.heap.size w w' := by
  have hsz : (allocs w (oneO w.heap.size s a b)).heap.size = w.heap.size + 9 := allocs_size _ _
  have hb0 := allocs_below (oneO w.heap.size s a b) w
  have hO : OneL (allocs w (oneO w.heap.size s a b)) w.heap.size s a b := ⟨fun i o h => allocs_at _ w i o h⟩
  generalize allocs w (oneO w.heap.size s a b) = W at hsz hb0 hO ⊢
  obtain ⟨q', hr, hl⟩ := one_run s a b
  have h6 := hO.at_ 6 _ rfl
  have h7 := hO.at_ 7 _ rfl
  have h8 := hO.at_ 8 _ rfl
  have hR := Run_any W (w.heap.size + 9) (w.heap.size + 8) 0 1 1 slN [oneC s a b] [] 0 9 (oneC s a b) 3 (w.heap.size + 7) 0 1 1 (some ⟨w.heap.size + 6, 0, none⟩) (oneI s a b) 5 (oneR s a b) q'
    ⟨one_cods hO hs ha hb, one_blk hO hs ha hb, ⟨_, rfl⟩, Nat.le_refl _, by decide, by decide, fun x hx => by simp at hx, by decide, hP.below hG2 hb0, by omega, ⟨_, _, _, rfl⟩, by omega⟩
    (nums_nil _ _) (.inl rfl) (by decide) ⟨by rw [cell_at h8]; rfl, by rw [cell_at h8]; rfl, by rw [cell_at h8]; rfl, by rw [cell_at h8]; rfl, by rw [cell_at h8]; rfl, by rw [cell_at h8]; rfl⟩ rfl (by decide) (by rw [cell_at h7]; rfl)
    (TabC.below hT hG hb0) (by omega) (one_checks s a b hm) (by decide) (by decide) (by decide) hr
  refine hR.mono ?_
  rintro e w' ⟨vl, rfl, ho, hbe⟩
  refine ⟨vl, w.heap.size + 9, rfl, ?_, below_after hb0 hbe⟩
  have : oneP s a b = q'.lines := by rw [hl]; rfl
  rw [this]
  exact ho

end Go.Proofs.YtbpnfoihonehgacDoor
