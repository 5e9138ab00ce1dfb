/-
  A number that is picked.
-/
import Derived.Test.YtjdedfgdofceeaaIaA
namespace Go.Proofs.Ytjdedfgdofceeaa
open Go.RowKit
set_option linter.unusedSimpArgs false
set_option linter.unusedVariables false

def pickI (n many : Int) : Int := (if n < 0 then -(n + 1) else n) % many

theorem picked_any (n many : Int) (hn : I64 n) (hm : 1 ≤ many) (hm2 : many ≤ 1000000) (w : World) : Calls Try.prog 22 #[.int .i64 n, .int .i64 many] w fun e w' => e = .returned (.int .i64 (pickI n many)) ∧ w' = w := by
  obtain ⟨h1, h2⟩ := hn
  unfold pickI
  by_cases h : n < 0
  · rw [if_pos h]
    go_enter Try.func22, Try.ntmps22
    go_wp2
    go_ret
    exact ⟨by rw [← Int.neg_tmod, Int.tmod_eq_emod_of_nonneg (by omega)]; rfl, rfl⟩
  · rw [if_neg h]
    go_enter Try.func22, Try.ntmps22
    go_wp2
    go_ret
    exact ⟨rfl, rfl⟩

end Go.Proofs.Ytjdedfgdofceeaa
