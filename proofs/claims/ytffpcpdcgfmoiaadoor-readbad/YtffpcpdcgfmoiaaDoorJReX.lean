/-
  posternkeep.ReadBad: the walk.
-/
import Derived.Test.YtffpcpdcgfmoiaaDoorJReU
namespace Go.Proofs.YtffpcpdcgfmoiaaDoor
section
open Go.RowKit
set_option linter.unusedSimpArgs false
set_option linter.unusedVariables false

theorem bad0 : readM 60 ⟨#[120]⟩ = some (.inl (0, 4)) := by kernel_rfl
theorem bad1 : readM 60 ⟨#[102, 117, 110, 99]⟩ = some (.inl (4, 5)) := by kernel_rfl
theorem bad2 : readM 60 ⟨#[102, 117, 110, 99, 32, 109, 97, 105, 110]⟩ = some (.inl (9, 5)) := by kernel_rfl
theorem bad3 : readM 60 ⟨#[102, 117, 110, 99, 32, 109, 97, 105, 110, 40, 32, 123, 32, 125]⟩ = some (.inl (11, 4)) := by kernel_rfl
theorem bad4 : readM 60 ⟨#[102, 117, 110, 99, 32, 109, 97, 105, 110, 40, 41, 32, 123, 32, 120, 32, 125]⟩ = some (.inl (14, 4)) := by kernel_rfl
theorem bad5 : readM 60 ⟨#[102, 117, 110, 99, 32, 109, 97, 105, 110, 40, 41, 32, 123, 32, 105, 102, 32, 125]⟩ = some (.inl (17, 4)) := by kernel_rfl
theorem bad6 : readM 60 ⟨#[102, 117, 110, 99, 32, 109, 97, 105, 110, 40, 41, 32, 123, 32, 112, 114, 105, 110, 116, 40, 41, 32, 125]⟩ = some (.inl (19, 10)) := by kernel_rfl
theorem bad7 : readM 60 ⟨#[102, 117, 110, 99, 32, 109, 97, 105, 110, 40, 41, 32, 123, 32, 112, 114, 105, 110, 116, 40, 49, 44, 32, 50, 41, 32, 125]⟩ = some (.inl (19, 10)) := by kernel_rfl
theorem bad8 : readM 60 ⟨#[102, 117, 110, 99, 32, 109, 97, 105, 110, 40, 41, 32, 123, 32, 120, 32, 58, 61, 32, 108, 101, 110, 40, 41, 32, 125]⟩ = some (.inl (19, 10)) := by kernel_rfl
theorem bad9 : readM 60 ⟨#[102, 117, 110, 99, 32, 109, 97, 105, 110, 40, 41, 32, 123, 32, 120, 32, 58, 61, 32, 48, 49, 32, 125]⟩ = some (.inl (19, 4)) := by kernel_rfl
theorem bad10 : readM 60 ⟨#[102, 117, 110, 99, 32, 109, 97, 105, 110, 40, 41, 32, 123, 32, 120, 32, 58, 61, 32, 49, 48, 57, 57, 53, 49, 49, 54, 50, 55, 55, 55, 55, 32, 125]⟩ = some (.inl (19, 2)) := by kernel_rfl
theorem bad11 : readM 60 ⟨#[102, 117, 110, 99, 32, 109, 97, 105, 110, 40, 41, 32, 123, 32, 120, 32, 58, 61, 32, 34, 97, 32, 125]⟩ = some (.inl (19, 5)) := by kernel_rfl
theorem bad12 : readM 60 ⟨#[102, 117, 110, 99, 32, 109, 97, 105, 110, 40, 41, 32, 123, 32, 120, 32, 61, 32, 63, 32, 125]⟩ = some (.inl (18, 4)) := by kernel_rfl
theorem bad13 : readM 60 ⟨#[102, 117, 110, 99, 32, 109, 97, 105, 110, 40, 97, 44, 32, 98, 41, 32, 123, 32, 125]⟩ = some (.inl (11, 4)) := by kernel_rfl
theorem bad14 : readM 60 ⟨#[102, 117, 110, 99, 32, 109, 97, 105, 110, 40, 41, 32, 123, 32, 102, 111, 114, 32, 120, 44, 32, 121, 32, 114, 97, 110, 103, 101, 32, 51, 32, 123, 32, 125, 32, 125]⟩ = some (.inl (23, 4)) := by kernel_rfl
theorem bad15 : readM 60 ⟨#[102, 117, 110, 99, 32, 109, 97, 105, 110, 40, 41, 32, 123, 32, 97, 98, 99, 100, 101, 102, 103, 104, 105, 106, 107, 108, 109, 32, 58, 61, 32, 49, 32, 125]⟩ = some (.inl (14, 1)) := by kernel_rfl
theorem bad16 : readM 60 ⟨#[102, 117, 110, 99, 32, 109, 97, 105, 110, 40, 41, 32, 123, 32, 105, 102, 32, 58, 61, 32, 49, 32, 125]⟩ = some (.inl (17, 4)) := by kernel_rfl
end

section
open Go.RowKit
set_option linter.unusedSimpArgs false
set_option linter.unusedVariables false

theorem cell_lit {w : World} {g : Nat} {c : Array Value} {T : TypeId} {f : Nat × Nat} (h : w.heap[g]? = some (.cells c T f)) {i : Nat} {v : Value} (hv : c[i]? = some v) : w.cell? ⟨g, i, none⟩ = some v := by
  simp [World.cell?, h, hv]

set_option maxHeartbeats 400000 in
theorem picked_any (x : Int) (h0 : -9223372036854775808 ≤ x) (h1 : x ≤ 9223372036854775807) (w : World) :
    Calls Tryd.prog 9 #[.int .i64 x, .int .i64 17] w fun e w' => (∃ k : Nat, k < 17 ∧ e = .returned (.int .i64 (k : Nat))) ∧ w' = w := by
  by_cases hx : x < 0
  · have hxb : decide (x < 0) = true := by simpa using hx
    have hw1 : IntKind.i64.wrap (x + 1) = x + 1 := by rw [IntKind.wrap_i64]; omega
    have hw2 : IntKind.i64.wrap (-(x + 1)) = -(x + 1) := by rw [IntKind.wrap_i64]; omega
    have hr0 : 0 ≤ -((x + 1).tmod 17) := by rw [← Int.neg_tmod, Int.tmod_eq_emod_of_nonneg (by omega)]; omega
    have hr1 : -((x + 1).tmod 17) < 17 := by rw [← Int.neg_tmod, Int.tmod_eq_emod_of_nonneg (by omega)]; omega
    have hw3 : IntKind.i64.wrap ((-(x + 1)).tmod 17) = (-(x + 1)).tmod 17 := by rw [Int.neg_tmod, IntKind.wrap_i64]; omega
    go_enter Tryd.func9, Tryd.ntmps9
    go_wp2
    go_ret
    exact ⟨⟨(-((x + 1).tmod 17)).toNat, by omega, by rw [Int.toNat_of_nonneg hr0]; rfl⟩, rfl⟩
  · have hxb : decide (x < 0) = false := by simpa using hx
    have hr0 : 0 ≤ x % 17 := by omega
    have hr1 : x % 17 < 17 := by omega
    go_enter Tryd.func9, Tryd.ntmps9
    go_wp2
    go_ret
    exact ⟨⟨(x % 17).toNat, by omega, by rw [Int.toNat_of_nonneg hr0]; rfl⟩, rfl⟩

set_option maxHeartbeats 4000000 in
set_option maxRecDepth 10000 in
theorem readBad_walk (x : Int) (h0 : -9223372036854775808 ≤ x) (h1 : x ≤ 9223372036854775807) (w : World) (ht : Tab w) (hG : 4 ≤ w.heap.size) :
    Calls Tryd.prog 5 #[.int .i64 x] w fun e w' => e = .returned (.bool true) ∧ Below w.heap.size w w' := by
  have HW : Hid (Below w.heap.size w (((w.alloc (.cells #[.string ⟨#[120]⟩, .string ⟨#[102, 117, 110, 99]⟩, .string ⟨#[102, 117, 110, 99, 32, 109, 97, 105, 110]⟩, .string ⟨#[102, 117, 110, 99, 32, 109, 97, 105, 110, 40, 32, 123, 32, 125]⟩, .string ⟨#[102, 117, 110, 99, 32, 109, 97, 105, 110, 40, 41, 32, 123, 32, 120, 32, 125]⟩, .string ⟨#[102, 117, 110, 99, 32, 109, 97, 105, 110, 40, 41, 32, 123, 32, 105, 102, 32, 125]⟩, .string ⟨#[102, 117, 110, 99, 32, 109, 97, 105, 110, 40, 41, 32, 123, 32, 112, 114, 105, 110, 116, 40, 41, 32, 125]⟩, .string ⟨#[102, 117, 110, 99, 32, 109, 97, 105, 110, 40, 41, 32, 123, 32, 112, 114, 105, 110, 116, 40, 49, 44, 32, 50, 41, 32, 125]⟩, .string ⟨#[102, 117, 110, 99, 32, 109, 97, 105, 110, 40, 41, 32, 123, 32, 120, 32, 58, 61, 32, 108, 101, 110, 40, 41, 32, 125]⟩, .string ⟨#[102, 117, 110, 99, 32, 109, 97, 105, 110, 40, 41, 32, 123, 32, 120, 32, 58, 61, 32, 48, 49, 32, 125]⟩, .string ⟨#[102, 117, 110, 99, 32, 109, 97, 105, 110, 40, 41, 32, 123, 32, 120, 32, 58, 61, 32, 49, 48, 57, 57, 53, 49, 49, 54, 50, 55, 55, 55, 55, 32, 125]⟩, .string ⟨#[102, 117, 110, 99, 32, 109, 97, 105, 110, 40, 41, 32, 123, 32, 120, 32, 58, 61, 32, 34, 97, 32, 125]⟩, .string ⟨#[102, 117, 110, 99, 32, 109, 97, 105, 110, 40, 41, 32, 123, 32, 120, 32, 61, 32, 63, 32, 125]⟩, .string ⟨#[102, 117, 110, 99, 32, 109, 97, 105, 110, 40, 97, 44, 32, 98, 41, 32, 123, 32, 125]⟩, .string ⟨#[102, 117, 110, 99, 32, 109, 97, 105, 110, 40, 41, 32, 123, 32, 102, 111, 114, 32, 120, 44, 32, 121, 32, 114, 97, 110, 103, 101, 32, 51, 32, 123, 32, 125, 32, 125]⟩, .string ⟨#[102, 117, 110, 99, 32, 109, 97, 105, 110, 40, 41, 32, 123, 32, 97, 98, 99, 100, 101, 102, 103, 104, 105, 106, 107, 108, 109, 32, 58, 61, 32, 49, 32, 125]⟩, .string ⟨#[102, 117, 110, 99, 32, 109, 97, 105, 110, 40, 41, 32, 123, 32, 105, 102, 32, 58, 61, 32, 49, 32, 125]⟩] 9)).alloc (.cells #[.int .i64 0, .int .i64 4, .int .i64 9, .int .i64 11, .int .i64 14, .int .i64 17, .int .i64 19, .int .i64 19, .int .i64 19, .int .i64 19, .int .i64 19, .int .i64 19, .int .i64 18, .int .i64 11, .int .i64 23, .int .i64 14, .int .i64 17] 3)).alloc (.cells #[.int .i64 4, .int .i64 5, .int .i64 5, .int .i64 4, .int .i64 4, .int .i64 4, .int .i64 10, .int .i64 10, .int .i64 10, .int .i64 4, .int .i64 2, .int .i64 5, .int .i64 4, .int .i64 4, .int .i64 4, .int .i64 1, .int .i64 4] 23))) := (((Below.refl _ _).alloc (Nat.le_refl _) _).alloc (by simp) _).alloc (by simp; omega) _
  have HT : Hid (Tab (((w.alloc (.cells #[.string ⟨#[120]⟩, .string ⟨#[102, 117, 110, 99]⟩, .string ⟨#[102, 117, 110, 99, 32, 109, 97, 105, 110]⟩, .string ⟨#[102, 117, 110, 99, 32, 109, 97, 105, 110, 40, 32, 123, 32, 125]⟩, .string ⟨#[102, 117, 110, 99, 32, 109, 97, 105, 110, 40, 41, 32, 123, 32, 120, 32, 125]⟩, .string ⟨#[102, 117, 110, 99, 32, 109, 97, 105, 110, 40, 41, 32, 123, 32, 105, 102, 32, 125]⟩, .string ⟨#[102, 117, 110, 99, 32, 109, 97, 105, 110, 40, 41, 32, 123, 32, 112, 114, 105, 110, 116, 40, 41, 32, 125]⟩, .string ⟨#[102, 117, 110, 99, 32, 109, 97, 105, 110, 40, 41, 32, 123, 32, 112, 114, 105, 110, 116, 40, 49, 44, 32, 50, 41, 32, 125]⟩, .string ⟨#[102, 117, 110, 99, 32, 109, 97, 105, 110, 40, 41, 32, 123, 32, 120, 32, 58, 61, 32, 108, 101, 110, 40, 41, 32, 125]⟩, .string ⟨#[102, 117, 110, 99, 32, 109, 97, 105, 110, 40, 41, 32, 123, 32, 120, 32, 58, 61, 32, 48, 49, 32, 125]⟩, .string ⟨#[102, 117, 110, 99, 32, 109, 97, 105, 110, 40, 41, 32, 123, 32, 120, 32, 58, 61, 32, 49, 48, 57, 57, 53, 49, 49, 54, 50, 55, 55, 55, 55, 32, 125]⟩, .string ⟨#[102, 117, 110, 99, 32, 109, 97, 105, 110, 40, 41, 32, 123, 32, 120, 32, 58, 61, 32, 34, 97, 32, 125]⟩, .string ⟨#[102, 117, 110, 99, 32, 109, 97, 105, 110, 40, 41, 32, 123, 32, 120, 32, 61, 32, 63, 32, 125]⟩, .string ⟨#[102, 117, 110, 99, 32, 109, 97, 105, 110, 40, 97, 44, 32, 98, 41, 32, 123, 32, 125]⟩, .string ⟨#[102, 117, 110, 99, 32, 109, 97, 105, 110, 40, 41, 32, 123, 32, 102, 111, 114, 32, 120, 44, 32, 121, 32, 114, 97, 110, 103, 101, 32, 51, 32, 123, 32, 125, 32, 125]⟩, .string ⟨#[102, 117, 110, 99, 32, 109, 97, 105, 110, 40, 41, 32, 123, 32, 97, 98, 99, 100, 101, 102, 103, 104, 105, 106, 107, 108, 109, 32, 58, 61, 32, 49, 32, 125]⟩, .string ⟨#[102, 117, 110, 99, 32, 109, 97, 105, 110, 40, 41, 32, 123, 32, 105, 102, 32, 58, 61, 32, 49, 32, 125]⟩] 9)).alloc (.cells #[.int .i64 0, .int .i64 4, .int .i64 9, .int .i64 11, .int .i64 14, .int .i64 17, .int .i64 19, .int .i64 19, .int .i64 19, .int .i64 19, .int .i64 19, .int .i64 19, .int .i64 18, .int .i64 11, .int .i64 23, .int .i64 14, .int .i64 17] 3)).alloc (.cells #[.int .i64 4, .int .i64 5, .int .i64 5, .int .i64 4, .int .i64 4, .int .i64 4, .int .i64 10, .int .i64 10, .int .i64 10, .int .i64 4, .int .i64 2, .int .i64 5, .int .i64 4, .int .i64 4, .int .i64 4, .int .i64 1, .int .i64 4] 23))) := ht.below HW.out
  have HG : Hid (4 ≤ (((w.alloc (.cells #[.string ⟨#[120]⟩, .string ⟨#[102, 117, 110, 99]⟩, .string ⟨#[102, 117, 110, 99, 32, 109, 97, 105, 110]⟩, .string ⟨#[102, 117, 110, 99, 32, 109, 97, 105, 110, 40, 32, 123, 32, 125]⟩, .string ⟨#[102, 117, 110, 99, 32, 109, 97, 105, 110, 40, 41, 32, 123, 32, 120, 32, 125]⟩, .string ⟨#[102, 117, 110, 99, 32, 109, 97, 105, 110, 40, 41, 32, 123, 32, 105, 102, 32, 125]⟩, .string ⟨#[102, 117, 110, 99, 32, 109, 97, 105, 110, 40, 41, 32, 123, 32, 112, 114, 105, 110, 116, 40, 41, 32, 125]⟩, .string ⟨#[102, 117, 110, 99, 32, 109, 97, 105, 110, 40, 41, 32, 123, 32, 112, 114, 105, 110, 116, 40, 49, 44, 32, 50, 41, 32, 125]⟩, .string ⟨#[102, 117, 110, 99, 32, 109, 97, 105, 110, 40, 41, 32, 123, 32, 120, 32, 58, 61, 32, 108, 101, 110, 40, 41, 32, 125]⟩, .string ⟨#[102, 117, 110, 99, 32, 109, 97, 105, 110, 40, 41, 32, 123, 32, 120, 32, 58, 61, 32, 48, 49, 32, 125]⟩, .string ⟨#[102, 117, 110, 99, 32, 109, 97, 105, 110, 40, 41, 32, 123, 32, 120, 32, 58, 61, 32, 49, 48, 57, 57, 53, 49, 49, 54, 50, 55, 55, 55, 55, 32, 125]⟩, .string ⟨#[102, 117, 110, 99, 32, 109, 97, 105, 110, 40, 41, 32, 123, 32, 120, 32, 58, 61, 32, 34, 97, 32, 125]⟩, .string ⟨#[102, 117, 110, 99, 32, 109, 97, 105, 110, 40, 41, 32, 123, 32, 120, 32, 61, 32, 63, 32, 125]⟩, .string ⟨#[102, 117, 110, 99, 32, 109, 97, 105, 110, 40, 97, 44, 32, 98, 41, 32, 123, 32, 125]⟩, .string ⟨#[102, 117, 110, 99, 32, 109, 97, 105, 110, 40, 41, 32, 123, 32, 102, 111, 114, 32, 120, 44, 32, 121, 32, 114, 97, 110, 103, 101, 32, 51, 32, 123, 32, 125, 32, 125]⟩, .string ⟨#[102, 117, 110, 99, 32, 109, 97, 105, 110, 40, 41, 32, 123, 32, 97, 98, 99, 100, 101, 102, 103, 104, 105, 106, 107, 108, 109, 32, 58, 61, 32, 49, 32, 125]⟩, .string ⟨#[102, 117, 110, 99, 32, 109, 97, 105, 110, 40, 41, 32, 123, 32, 105, 102, 32, 58, 61, 32, 49, 32, 125]⟩] 9)).alloc (.cells #[.int .i64 0, .int .i64 4, .int .i64 9, .int .i64 11, .int .i64 14, .int .i64 17, .int .i64 19, .int .i64 19, .int .i64 19, .int .i64 19, .int .i64 19, .int .i64 19, .int .i64 18, .int .i64 11, .int .i64 23, .int .i64 14, .int .i64 17] 3)).alloc (.cells #[.int .i64 4, .int .i64 5, .int .i64 5, .int .i64 4, .int .i64 4, .int .i64 4, .int .i64 10, .int .i64 10, .int .i64 10, .int .i64 4, .int .i64 2, .int .i64 5, .int .i64 4, .int .i64 4, .int .i64 4, .int .i64 1, .int .i64 4] 23)).heap.size) := by unfold Hid; simp; omega
  have HS1 : Hid (w.heap.size + 1 < (((w.alloc (.cells #[.string ⟨#[120]⟩, .string ⟨#[102, 117, 110, 99]⟩, .string ⟨#[102, 117, 110, 99, 32, 109, 97, 105, 110]⟩, .string ⟨#[102, 117, 110, 99, 32, 109, 97, 105, 110, 40, 32, 123, 32, 125]⟩, .string ⟨#[102, 117, 110, 99, 32, 109, 97, 105, 110, 40, 41, 32, 123, 32, 120, 32, 125]⟩, .string ⟨#[102, 117, 110, 99, 32, 109, 97, 105, 110, 40, 41, 32, 123, 32, 105, 102, 32, 125]⟩, .string ⟨#[102, 117, 110, 99, 32, 109, 97, 105, 110, 40, 41, 32, 123, 32, 112, 114, 105, 110, 116, 40, 41, 32, 125]⟩, .string ⟨#[102, 117, 110, 99, 32, 109, 97, 105, 110, 40, 41, 32, 123, 32, 112, 114, 105, 110, 116, 40, 49, 44, 32, 50, 41, 32, 125]⟩, .string ⟨#[102, 117, 110, 99, 32, 109, 97, 105, 110, 40, 41, 32, 123, 32, 120, 32, 58, 61, 32, 108, 101, 110, 40, 41, 32, 125]⟩, .string ⟨#[102, 117, 110, 99, 32, 109, 97, 105, 110, 40, 41, 32, 123, 32, 120, 32, 58, 61, 32, 48, 49, 32, 125]⟩, .string ⟨#[102, 117, 110, 99, 32, 109, 97, 105, 110, 40, 41, 32, 123, 32, 120, 32, 58, 61, 32, 49, 48, 57, 57, 53, 49, 49, 54, 50, 55, 55, 55, 55, 32, 125]⟩, .string ⟨#[102, 117, 110, 99, 32, 109, 97, 105, 110, 40, 41, 32, 123, 32, 120, 32, 58, 61, 32, 34, 97, 32, 125]⟩, .string ⟨#[102, 117, 110, 99, 32, 109, 97, 105, 110, 40, 41, 32, 123, 32, 120, 32, 61, 32, 63, 32, 125]⟩, .string ⟨#[102, 117, 110, 99, 32, 109, 97, 105, 110, 40, 97, 44, 32, 98, 41, 32, 123, 32, 125]⟩, .string ⟨#[102, 117, 110, 99, 32, 109, 97, 105, 110, 40, 41, 32, 123, 32, 102, 111, 114, 32, 120, 44, 32, 121, 32, 114, 97, 110, 103, 101, 32, 51, 32, 123, 32, 125, 32, 125]⟩, .string ⟨#[102, 117, 110, 99, 32, 109, 97, 105, 110, 40, 41, 32, 123, 32, 97, 98, 99, 100, 101, 102, 103, 104, 105, 106, 107, 108, 109, 32, 58, 61, 32, 49, 32, 125]⟩, .string ⟨#[102, 117, 110, 99, 32, 109, 97, 105, 110, 40, 41, 32, 123, 32, 105, 102, 32, 58, 61, 32, 49, 32, 125]⟩] 9)).alloc (.cells #[.int .i64 0, .int .i64 4, .int .i64 9, .int .i64 11, .int .i64 14, .int .i64 17, .int .i64 19, .int .i64 19, .int .i64 19, .int .i64 19, .int .i64 19, .int .i64 19, .int .i64 18, .int .i64 11, .int .i64 23, .int .i64 14, .int .i64 17] 3)).alloc (.cells #[.int .i64 4, .int .i64 5, .int .i64 5, .int .i64 4, .int .i64 4, .int .i64 4, .int .i64 10, .int .i64 10, .int .i64 10, .int .i64 4, .int .i64 2, .int .i64 5, .int .i64 4, .int .i64 4, .int .i64 4, .int .i64 1, .int .i64 4] 23)).heap.size) := by unfold Hid; simp
  have HS2 : Hid (w.heap.size + 2 < (((w.alloc (.cells #[.string ⟨#[120]⟩, .string ⟨#[102, 117, 110, 99]⟩, .string ⟨#[102, 117, 110, 99, 32, 109, 97, 105, 110]⟩, .string ⟨#[102, 117, 110, 99, 32, 109, 97, 105, 110, 40, 32, 123, 32, 125]⟩, .string ⟨#[102, 117, 110, 99, 32, 109, 97, 105, 110, 40, 41, 32, 123, 32, 120, 32, 125]⟩, .string ⟨#[102, 117, 110, 99, 32, 109, 97, 105, 110, 40, 41, 32, 123, 32, 105, 102, 32, 125]⟩, .string ⟨#[102, 117, 110, 99, 32, 109, 97, 105, 110, 40, 41, 32, 123, 32, 112, 114, 105, 110, 116, 40, 41, 32, 125]⟩, .string ⟨#[102, 117, 110, 99, 32, 109, 97, 105, 110, 40, 41, 32, 123, 32, 112, 114, 105, 110, 116, 40, 49, 44, 32, 50, 41, 32, 125]⟩, .string ⟨#[102, 117, 110, 99, 32, 109, 97, 105, 110, 40, 41, 32, 123, 32, 120, 32, 58, 61, 32, 108, 101, 110, 40, 41, 32, 125]⟩, .string ⟨#[102, 117, 110, 99, 32, 109, 97, 105, 110, 40, 41, 32, 123, 32, 120, 32, 58, 61, 32, 48, 49, 32, 125]⟩, .string ⟨#[102, 117, 110, 99, 32, 109, 97, 105, 110, 40, 41, 32, 123, 32, 120, 32, 58, 61, 32, 49, 48, 57, 57, 53, 49, 49, 54, 50, 55, 55, 55, 55, 32, 125]⟩, .string ⟨#[102, 117, 110, 99, 32, 109, 97, 105, 110, 40, 41, 32, 123, 32, 120, 32, 58, 61, 32, 34, 97, 32, 125]⟩, .string ⟨#[102, 117, 110, 99, 32, 109, 97, 105, 110, 40, 41, 32, 123, 32, 120, 32, 61, 32, 63, 32, 125]⟩, .string ⟨#[102, 117, 110, 99, 32, 109, 97, 105, 110, 40, 97, 44, 32, 98, 41, 32, 123, 32, 125]⟩, .string ⟨#[102, 117, 110, 99, 32, 109, 97, 105, 110, 40, 41, 32, 123, 32, 102, 111, 114, 32, 120, 44, 32, 121, 32, 114, 97, 110, 103, 101, 32, 51, 32, 123, 32, 125, 32, 125]⟩, .string ⟨#[102, 117, 110, 99, 32, 109, 97, 105, 110, 40, 41, 32, 123, 32, 97, 98, 99, 100, 101, 102, 103, 104, 105, 106, 107, 108, 109, 32, 58, 61, 32, 49, 32, 125]⟩, .string ⟨#[102, 117, 110, 99, 32, 109, 97, 105, 110, 40, 41, 32, 123, 32, 105, 102, 32, 58, 61, 32, 49, 32, 125]⟩] 9)).alloc (.cells #[.int .i64 0, .int .i64 4, .int .i64 9, .int .i64 11, .int .i64 14, .int .i64 17, .int .i64 19, .int .i64 19, .int .i64 19, .int .i64 19, .int .i64 19, .int .i64 19, .int .i64 18, .int .i64 11, .int .i64 23, .int .i64 14, .int .i64 17] 3)).alloc (.cells #[.int .i64 4, .int .i64 5, .int .i64 5, .int .i64 4, .int .i64 4, .int .i64 4, .int .i64 10, .int .i64 10, .int .i64 10, .int .i64 4, .int .i64 2, .int .i64 5, .int .i64 4, .int .i64 4, .int .i64 4, .int .i64 1, .int .i64 4] 23)).heap.size) := by unfold Hid; simp
  have hA := blk_alloc (heap_alloc2 w (.cells #[.string ⟨#[120]⟩, .string ⟨#[102, 117, 110, 99]⟩, .string ⟨#[102, 117, 110, 99, 32, 109, 97, 105, 110]⟩, .string ⟨#[102, 117, 110, 99, 32, 109, 97, 105, 110, 40, 32, 123, 32, 125]⟩, .string ⟨#[102, 117, 110, 99, 32, 109, 97, 105, 110, 40, 41, 32, 123, 32, 120, 32, 125]⟩, .string ⟨#[102, 117, 110, 99, 32, 109, 97, 105, 110, 40, 41, 32, 123, 32, 105, 102, 32, 125]⟩, .string ⟨#[102, 117, 110, 99, 32, 109, 97, 105, 110, 40, 41, 32, 123, 32, 112, 114, 105, 110, 116, 40, 41, 32, 125]⟩, .string ⟨#[102, 117, 110, 99, 32, 109, 97, 105, 110, 40, 41, 32, 123, 32, 112, 114, 105, 110, 116, 40, 49, 44, 32, 50, 41, 32, 125]⟩, .string ⟨#[102, 117, 110, 99, 32, 109, 97, 105, 110, 40, 41, 32, 123, 32, 120, 32, 58, 61, 32, 108, 101, 110, 40, 41, 32, 125]⟩, .string ⟨#[102, 117, 110, 99, 32, 109, 97, 105, 110, 40, 41, 32, 123, 32, 120, 32, 58, 61, 32, 48, 49, 32, 125]⟩, .string ⟨#[102, 117, 110, 99, 32, 109, 97, 105, 110, 40, 41, 32, 123, 32, 120, 32, 58, 61, 32, 49, 48, 57, 57, 53, 49, 49, 54, 50, 55, 55, 55, 55, 32, 125]⟩, .string ⟨#[102, 117, 110, 99, 32, 109, 97, 105, 110, 40, 41, 32, 123, 32, 120, 32, 58, 61, 32, 34, 97, 32, 125]⟩, .string ⟨#[102, 117, 110, 99, 32, 109, 97, 105, 110, 40, 41, 32, 123, 32, 120, 32, 61, 32, 63, 32, 125]⟩, .string ⟨#[102, 117, 110, 99, 32, 109, 97, 105, 110, 40, 97, 44, 32, 98, 41, 32, 123, 32, 125]⟩, .string ⟨#[102, 117, 110, 99, 32, 109, 97, 105, 110, 40, 41, 32, 123, 32, 102, 111, 114, 32, 120, 44, 32, 121, 32, 114, 97, 110, 103, 101, 32, 51, 32, 123, 32, 125, 32, 125]⟩, .string ⟨#[102, 117, 110, 99, 32, 109, 97, 105, 110, 40, 41, 32, 123, 32, 97, 98, 99, 100, 101, 102, 103, 104, 105, 106, 107, 108, 109, 32, 58, 61, 32, 49, 32, 125]⟩, .string ⟨#[102, 117, 110, 99, 32, 109, 97, 105, 110, 40, 41, 32, 123, 32, 105, 102, 32, 58, 61, 32, 49, 32, 125]⟩] 9) (.cells #[.int .i64 0, .int .i64 4, .int .i64 9, .int .i64 11, .int .i64 14, .int .i64 17, .int .i64 19, .int .i64 19, .int .i64 19, .int .i64 19, .int .i64 19, .int .i64 19, .int .i64 18, .int .i64 11, .int .i64 23, .int .i64 14, .int .i64 17] 3)).1 (.cells #[.int .i64 4, .int .i64 5, .int .i64 5, .int .i64 4, .int .i64 4, .int .i64 4, .int .i64 10, .int .i64 10, .int .i64 10, .int .i64 4, .int .i64 2, .int .i64 5, .int .i64 4, .int .i64 4, .int .i64 4, .int .i64 1, .int .i64 4] 23)
  have HB : Hid ((((w.alloc (.cells #[.string ⟨#[120]⟩, .string ⟨#[102, 117, 110, 99]⟩, .string ⟨#[102, 117, 110, 99, 32, 109, 97, 105, 110]⟩, .string ⟨#[102, 117, 110, 99, 32, 109, 97, 105, 110, 40, 32, 123, 32, 125]⟩, .string ⟨#[102, 117, 110, 99, 32, 109, 97, 105, 110, 40, 41, 32, 123, 32, 120, 32, 125]⟩, .string ⟨#[102, 117, 110, 99, 32, 109, 97, 105, 110, 40, 41, 32, 123, 32, 105, 102, 32, 125]⟩, .string ⟨#[102, 117, 110, 99, 32, 109, 97, 105, 110, 40, 41, 32, 123, 32, 112, 114, 105, 110, 116, 40, 41, 32, 125]⟩, .string ⟨#[102, 117, 110, 99, 32, 109, 97, 105, 110, 40, 41, 32, 123, 32, 112, 114, 105, 110, 116, 40, 49, 44, 32, 50, 41, 32, 125]⟩, .string ⟨#[102, 117, 110, 99, 32, 109, 97, 105, 110, 40, 41, 32, 123, 32, 120, 32, 58, 61, 32, 108, 101, 110, 40, 41, 32, 125]⟩, .string ⟨#[102, 117, 110, 99, 32, 109, 97, 105, 110, 40, 41, 32, 123, 32, 120, 32, 58, 61, 32, 48, 49, 32, 125]⟩, .string ⟨#[102, 117, 110, 99, 32, 109, 97, 105, 110, 40, 41, 32, 123, 32, 120, 32, 58, 61, 32, 49, 48, 57, 57, 53, 49, 49, 54, 50, 55, 55, 55, 55, 32, 125]⟩, .string ⟨#[102, 117, 110, 99, 32, 109, 97, 105, 110, 40, 41, 32, 123, 32, 120, 32, 58, 61, 32, 34, 97, 32, 125]⟩, .string ⟨#[102, 117, 110, 99, 32, 109, 97, 105, 110, 40, 41, 32, 123, 32, 120, 32, 61, 32, 63, 32, 125]⟩, .string ⟨#[102, 117, 110, 99, 32, 109, 97, 105, 110, 40, 97, 44, 32, 98, 41, 32, 123, 32, 125]⟩, .string ⟨#[102, 117, 110, 99, 32, 109, 97, 105, 110, 40, 41, 32, 123, 32, 102, 111, 114, 32, 120, 44, 32, 121, 32, 114, 97, 110, 103, 101, 32, 51, 32, 123, 32, 125, 32, 125]⟩, .string ⟨#[102, 117, 110, 99, 32, 109, 97, 105, 110, 40, 41, 32, 123, 32, 97, 98, 99, 100, 101, 102, 103, 104, 105, 106, 107, 108, 109, 32, 58, 61, 32, 49, 32, 125]⟩, .string ⟨#[102, 117, 110, 99, 32, 109, 97, 105, 110, 40, 41, 32, 123, 32, 105, 102, 32, 58, 61, 32, 49, 32, 125]⟩] 9)).alloc (.cells #[.int .i64 0, .int .i64 4, .int .i64 9, .int .i64 11, .int .i64 14, .int .i64 17, .int .i64 19, .int .i64 19, .int .i64 19, .int .i64 19, .int .i64 19, .int .i64 19, .int .i64 18, .int .i64 11, .int .i64 23, .int .i64 14, .int .i64 17] 3)).alloc (.cells #[.int .i64 4, .int .i64 5, .int .i64 5, .int .i64 4, .int .i64 4, .int .i64 4, .int .i64 10, .int .i64 10, .int .i64 10, .int .i64 4, .int .i64 2, .int .i64 5, .int .i64 4, .int .i64 4, .int .i64 4, .int .i64 1, .int .i64 4] 23)).heap[w.heap.size + 1]? = _) := blk_alloc (heap_alloc2 w (.cells #[.string ⟨#[120]⟩, .string ⟨#[102, 117, 110, 99]⟩, .string ⟨#[102, 117, 110, 99, 32, 109, 97, 105, 110]⟩, .string ⟨#[102, 117, 110, 99, 32, 109, 97, 105, 110, 40, 32, 123, 32, 125]⟩, .string ⟨#[102, 117, 110, 99, 32, 109, 97, 105, 110, 40, 41, 32, 123, 32, 120, 32, 125]⟩, .string ⟨#[102, 117, 110, 99, 32, 109, 97, 105, 110, 40, 41, 32, 123, 32, 105, 102, 32, 125]⟩, .string ⟨#[102, 117, 110, 99, 32, 109, 97, 105, 110, 40, 41, 32, 123, 32, 112, 114, 105, 110, 116, 40, 41, 32, 125]⟩, .string ⟨#[102, 117, 110, 99, 32, 109, 97, 105, 110, 40, 41, 32, 123, 32, 112, 114, 105, 110, 116, 40, 49, 44, 32, 50, 41, 32, 125]⟩, .string ⟨#[102, 117, 110, 99, 32, 109, 97, 105, 110, 40, 41, 32, 123, 32, 120, 32, 58, 61, 32, 108, 101, 110, 40, 41, 32, 125]⟩, .string ⟨#[102, 117, 110, 99, 32, 109, 97, 105, 110, 40, 41, 32, 123, 32, 120, 32, 58, 61, 32, 48, 49, 32, 125]⟩, .string ⟨#[102, 117, 110, 99, 32, 109, 97, 105, 110, 40, 41, 32, 123, 32, 120, 32, 58, 61, 32, 49, 48, 57, 57, 53, 49, 49, 54, 50, 55, 55, 55, 55, 32, 125]⟩, .string ⟨#[102, 117, 110, 99, 32, 109, 97, 105, 110, 40, 41, 32, 123, 32, 120, 32, 58, 61, 32, 34, 97, 32, 125]⟩, .string ⟨#[102, 117, 110, 99, 32, 109, 97, 105, 110, 40, 41, 32, 123, 32, 120, 32, 61, 32, 63, 32, 125]⟩, .string ⟨#[102, 117, 110, 99, 32, 109, 97, 105, 110, 40, 97, 44, 32, 98, 41, 32, 123, 32, 125]⟩, .string ⟨#[102, 117, 110, 99, 32, 109, 97, 105, 110, 40, 41, 32, 123, 32, 102, 111, 114, 32, 120, 44, 32, 121, 32, 114, 97, 110, 103, 101, 32, 51, 32, 123, 32, 125, 32, 125]⟩, .string ⟨#[102, 117, 110, 99, 32, 109, 97, 105, 110, 40, 41, 32, 123, 32, 97, 98, 99, 100, 101, 102, 103, 104, 105, 106, 107, 108, 109, 32, 58, 61, 32, 49, 32, 125]⟩, .string ⟨#[102, 117, 110, 99, 32, 109, 97, 105, 110, 40, 41, 32, 123, 32, 105, 102, 32, 58, 61, 32, 49, 32, 125]⟩] 9) (.cells #[.int .i64 0, .int .i64 4, .int .i64 9, .int .i64 11, .int .i64 14, .int .i64 17, .int .i64 19, .int .i64 19, .int .i64 19, .int .i64 19, .int .i64 19, .int .i64 19, .int .i64 18, .int .i64 11, .int .i64 23, .int .i64 14, .int .i64 17] 3)).2 (.cells #[.int .i64 4, .int .i64 5, .int .i64 5, .int .i64 4, .int .i64 4, .int .i64 4, .int .i64 10, .int .i64 10, .int .i64 10, .int .i64 4, .int .i64 2, .int .i64 5, .int .i64 4, .int .i64 4, .int .i64 4, .int .i64 1, .int .i64 4] 23)
  have HC : Hid ((((w.alloc (.cells #[.string ⟨#[120]⟩, .string ⟨#[102, 117, 110, 99]⟩, .string ⟨#[102, 117, 110, 99, 32, 109, 97, 105, 110]⟩, .string ⟨#[102, 117, 110, 99, 32, 109, 97, 105, 110, 40, 32, 123, 32, 125]⟩, .string ⟨#[102, 117, 110, 99, 32, 109, 97, 105, 110, 40, 41, 32, 123, 32, 120, 32, 125]⟩, .string ⟨#[102, 117, 110, 99, 32, 109, 97, 105, 110, 40, 41, 32, 123, 32, 105, 102, 32, 125]⟩, .string ⟨#[102, 117, 110, 99, 32, 109, 97, 105, 110, 40, 41, 32, 123, 32, 112, 114, 105, 110, 116, 40, 41, 32, 125]⟩, .string ⟨#[102, 117, 110, 99, 32, 109, 97, 105, 110, 40, 41, 32, 123, 32, 112, 114, 105, 110, 116, 40, 49, 44, 32, 50, 41, 32, 125]⟩, .string ⟨#[102, 117, 110, 99, 32, 109, 97, 105, 110, 40, 41, 32, 123, 32, 120, 32, 58, 61, 32, 108, 101, 110, 40, 41, 32, 125]⟩, .string ⟨#[102, 117, 110, 99, 32, 109, 97, 105, 110, 40, 41, 32, 123, 32, 120, 32, 58, 61, 32, 48, 49, 32, 125]⟩, .string ⟨#[102, 117, 110, 99, 32, 109, 97, 105, 110, 40, 41, 32, 123, 32, 120, 32, 58, 61, 32, 49, 48, 57, 57, 53, 49, 49, 54, 50, 55, 55, 55, 55, 32, 125]⟩, .string ⟨#[102, 117, 110, 99, 32, 109, 97, 105, 110, 40, 41, 32, 123, 32, 120, 32, 58, 61, 32, 34, 97, 32, 125]⟩, .string ⟨#[102, 117, 110, 99, 32, 109, 97, 105, 110, 40, 41, 32, 123, 32, 120, 32, 61, 32, 63, 32, 125]⟩, .string ⟨#[102, 117, 110, 99, 32, 109, 97, 105, 110, 40, 97, 44, 32, 98, 41, 32, 123, 32, 125]⟩, .string ⟨#[102, 117, 110, 99, 32, 109, 97, 105, 110, 40, 41, 32, 123, 32, 102, 111, 114, 32, 120, 44, 32, 121, 32, 114, 97, 110, 103, 101, 32, 51, 32, 123, 32, 125, 32, 125]⟩, .string ⟨#[102, 117, 110, 99, 32, 109, 97, 105, 110, 40, 41, 32, 123, 32, 97, 98, 99, 100, 101, 102, 103, 104, 105, 106, 107, 108, 109, 32, 58, 61, 32, 49, 32, 125]⟩, .string ⟨#[102, 117, 110, 99, 32, 109, 97, 105, 110, 40, 41, 32, 123, 32, 105, 102, 32, 58, 61, 32, 49, 32, 125]⟩] 9)).alloc (.cells #[.int .i64 0, .int .i64 4, .int .i64 9, .int .i64 11, .int .i64 14, .int .i64 17, .int .i64 19, .int .i64 19, .int .i64 19, .int .i64 19, .int .i64 19, .int .i64 19, .int .i64 18, .int .i64 11, .int .i64 23, .int .i64 14, .int .i64 17] 3)).alloc (.cells #[.int .i64 4, .int .i64 5, .int .i64 5, .int .i64 4, .int .i64 4, .int .i64 4, .int .i64 10, .int .i64 10, .int .i64 10, .int .i64 4, .int .i64 2, .int .i64 5, .int .i64 4, .int .i64 4, .int .i64 4, .int .i64 1, .int .i64 4] 23)).heap[w.heap.size + 2]? = _) := heap_alloc3 w (.cells #[.string ⟨#[120]⟩, .string ⟨#[102, 117, 110, 99]⟩, .string ⟨#[102, 117, 110, 99, 32, 109, 97, 105, 110]⟩, .string ⟨#[102, 117, 110, 99, 32, 109, 97, 105, 110, 40, 32, 123, 32, 125]⟩, .string ⟨#[102, 117, 110, 99, 32, 109, 97, 105, 110, 40, 41, 32, 123, 32, 120, 32, 125]⟩, .string ⟨#[102, 117, 110, 99, 32, 109, 97, 105, 110, 40, 41, 32, 123, 32, 105, 102, 32, 125]⟩, .string ⟨#[102, 117, 110, 99, 32, 109, 97, 105, 110, 40, 41, 32, 123, 32, 112, 114, 105, 110, 116, 40, 41, 32, 125]⟩, .string ⟨#[102, 117, 110, 99, 32, 109, 97, 105, 110, 40, 41, 32, 123, 32, 112, 114, 105, 110, 116, 40, 49, 44, 32, 50, 41, 32, 125]⟩, .string ⟨#[102, 117, 110, 99, 32, 109, 97, 105, 110, 40, 41, 32, 123, 32, 120, 32, 58, 61, 32, 108, 101, 110, 40, 41, 32, 125]⟩, .string ⟨#[102, 117, 110, 99, 32, 109, 97, 105, 110, 40, 41, 32, 123, 32, 120, 32, 58, 61, 32, 48, 49, 32, 125]⟩, .string ⟨#[102, 117, 110, 99, 32, 109, 97, 105, 110, 40, 41, 32, 123, 32, 120, 32, 58, 61, 32, 49, 48, 57, 57, 53, 49, 49, 54, 50, 55, 55, 55, 55, 32, 125]⟩, .string ⟨#[102, 117, 110, 99, 32, 109, 97, 105, 110, 40, 41, 32, 123, 32, 120, 32, 58, 61, 32, 34, 97, 32, 125]⟩, .string ⟨#[102, 117, 110, 99, 32, 109, 97, 105, 110, 40, 41, 32, 123, 32, 120, 32, 61, 32, 63, 32, 125]⟩, .string ⟨#[102, 117, 110, 99, 32, 109, 97, 105, 110, 40, 97, 44, 32, 98, 41, 32, 123, 32, 125]⟩, .string ⟨#[102, 117, 110, 99, 32, 109, 97, 105, 110, 40, 41, 32, 123, 32, 102, 111, 114, 32, 120, 44, 32, 121, 32, 114, 97, 110, 103, 101, 32, 51, 32, 123, 32, 125, 32, 125]⟩, .string ⟨#[102, 117, 110, 99, 32, 109, 97, 105, 110, 40, 41, 32, 123, 32, 97, 98, 99, 100, 101, 102, 103, 104, 105, 106, 107, 108, 109, 32, 58, 61, 32, 49, 32, 125]⟩, .string ⟨#[102, 117, 110, 99, 32, 109, 97, 105, 110, 40, 41, 32, 123, 32, 105, 102, 32, 58, 61, 32, 49, 32, 125]⟩] 9) (.cells #[.int .i64 0, .int .i64 4, .int .i64 9, .int .i64 11, .int .i64 14, .int .i64 17, .int .i64 19, .int .i64 19, .int .i64 19, .int .i64 19, .int .i64 19, .int .i64 19, .int .i64 18, .int .i64 11, .int .i64 23, .int .i64 14, .int .i64 17] 3) (.cells #[.int .i64 4, .int .i64 5, .int .i64 5, .int .i64 4, .int .i64 4, .int .i64 4, .int .i64 10, .int .i64 10, .int .i64 10, .int .i64 4, .int .i64 2, .int .i64 5, .int .i64 4, .int .i64 4, .int .i64 4, .int .i64 1, .int .i64 4] 23)
  go_enter Tryd.func5, Tryd.ntmps5
  go_wp2_with fail
  refine (picked_any x h0 h1 _).mono ?_
  rintro e w1 ⟨⟨k, hk, rfl⟩, hw1⟩
  have hw1' := hw1.symm
  subst hw1'
  have hk17 : k = 0 ∨ k = 1 ∨ k = 2 ∨ k = 3 ∨ k = 4 ∨ k = 5 ∨ k = 6 ∨ k = 7 ∨ k = 8 ∨ k = 9 ∨ k = 10 ∨ k = 11 ∨ k = 12 ∨ k = 13 ∨ k = 14 ∨ k = 15 ∨ k = 16 := by omega
  rcases hk17 with rfl | rfl | rfl | rfl | rfl | rfl | rfl | rfl | rfl | rfl | rfl | rfl | rfl | rfl | rfl | rfl | rfl
  · have d0 := cell_lit hA (i := 0) rfl
    go_wp2_with fail
    refine (read_any 60 (by decide) _ _ HT.out HG.out _ bad0).mono ?_
    rintro e w4 ⟨hb4, rfl⟩
    have HB4 : Hid (_) := hb4
    have d1 := cell_lit ((hb4.block (w.heap.size + 1) HS1.out).trans HB.out) (i := 0) rfl
    have d2 := cell_lit ((hb4.block (w.heap.size + 2) HS2.out).trans HC.out) (i := 0) rfl
    clear hb4 d0
    go_wp2_with fail
    go_ret
    exact ⟨rfl, below_after HW.out HB4.out⟩
  · have d0 := cell_lit hA (i := 1) rfl
    go_wp2_with fail
    refine (read_any 60 (by decide) _ _ HT.out HG.out _ bad1).mono ?_
    rintro e w4 ⟨hb4, rfl⟩
    have HB4 : Hid (_) := hb4
    have d1 := cell_lit ((hb4.block (w.heap.size + 1) HS1.out).trans HB.out) (i := 1) rfl
    have d2 := cell_lit ((hb4.block (w.heap.size + 2) HS2.out).trans HC.out) (i := 1) rfl
    clear hb4 d0
    go_wp2_with fail
    go_ret
    exact ⟨rfl, below_after HW.out HB4.out⟩
  · have d0 := cell_lit hA (i := 2) rfl
    go_wp2_with fail
    refine (read_any 60 (by decide) _ _ HT.out HG.out _ bad2).mono ?_
    rintro e w4 ⟨hb4, rfl⟩
    have HB4 : Hid (_) := hb4
    have d1 := cell_lit ((hb4.block (w.heap.size + 1) HS1.out).trans HB.out) (i := 2) rfl
    have d2 := cell_lit ((hb4.block (w.heap.size + 2) HS2.out).trans HC.out) (i := 2) rfl
    clear hb4 d0
    go_wp2_with fail
    go_ret
    exact ⟨rfl, below_after HW.out HB4.out⟩
  · have d0 := cell_lit hA (i := 3) rfl
    go_wp2_with fail
    refine (read_any 60 (by decide) _ _ HT.out HG.out _ bad3).mono ?_
    rintro e w4 ⟨hb4, rfl⟩
    have HB4 : Hid (_) := hb4
    have d1 := cell_lit ((hb4.block (w.heap.size + 1) HS1.out).trans HB.out) (i := 3) rfl
    have d2 := cell_lit ((hb4.block (w.heap.size + 2) HS2.out).trans HC.out) (i := 3) rfl
    clear hb4 d0
    go_wp2_with fail
    go_ret
    exact ⟨rfl, below_after HW.out HB4.out⟩
  · have d0 := cell_lit hA (i := 4) rfl
    go_wp2_with fail
    refine (read_any 60 (by decide) _ _ HT.out HG.out _ bad4).mono ?_
    rintro e w4 ⟨hb4, rfl⟩
    have HB4 : Hid (_) := hb4
    have d1 := cell_lit ((hb4.block (w.heap.size + 1) HS1.out).trans HB.out) (i := 4) rfl
    have d2 := cell_lit ((hb4.block (w.heap.size + 2) HS2.out).trans HC.out) (i := 4) rfl
    clear hb4 d0
    go_wp2_with fail
    go_ret
    exact ⟨rfl, below_after HW.out HB4.out⟩
  · have d0 := cell_lit hA (i := 5) rfl
    go_wp2_with fail
    refine (read_any 60 (by decide) _ _ HT.out HG.out _ bad5).mono ?_
    rintro e w4 ⟨hb4, rfl⟩
    have HB4 : Hid (_) := hb4
    have d1 := cell_lit ((hb4.block (w.heap.size + 1) HS1.out).trans HB.out) (i := 5) rfl
    have d2 := cell_lit ((hb4.block (w.heap.size + 2) HS2.out).trans HC.out) (i := 5) rfl
    clear hb4 d0
    go_wp2_with fail
    go_ret
    exact ⟨rfl, below_after HW.out HB4.out⟩
  · have d0 := cell_lit hA (i := 6) rfl
    go_wp2_with fail
    refine (read_any 60 (by decide) _ _ HT.out HG.out _ bad6).mono ?_
    rintro e w4 ⟨hb4, rfl⟩
    have HB4 : Hid (_) := hb4
    have d1 := cell_lit ((hb4.block (w.heap.size + 1) HS1.out).trans HB.out) (i := 6) rfl
    have d2 := cell_lit ((hb4.block (w.heap.size + 2) HS2.out).trans HC.out) (i := 6) rfl
    clear hb4 d0
    go_wp2_with fail
    go_ret
    exact ⟨rfl, below_after HW.out HB4.out⟩
  · have d0 := cell_lit hA (i := 7) rfl
    go_wp2_with fail
    refine (read_any 60 (by decide) _ _ HT.out HG.out _ bad7).mono ?_
    rintro e w4 ⟨hb4, rfl⟩
    have HB4 : Hid (_) := hb4
    have d1 := cell_lit ((hb4.block (w.heap.size + 1) HS1.out).trans HB.out) (i := 7) rfl
    have d2 := cell_lit ((hb4.block (w.heap.size + 2) HS2.out).trans HC.out) (i := 7) rfl
    clear hb4 d0
    go_wp2_with fail
    go_ret
    exact ⟨rfl, below_after HW.out HB4.out⟩
  · have d0 := cell_lit hA (i := 8) rfl
    go_wp2_with fail
    refine (read_any 60 (by decide) _ _ HT.out HG.out _ bad8).mono ?_
    rintro e w4 ⟨hb4, rfl⟩
    have HB4 : Hid (_) := hb4
    have d1 := cell_lit ((hb4.block (w.heap.size + 1) HS1.out).trans HB.out) (i := 8) rfl
    have d2 := cell_lit ((hb4.block (w.heap.size + 2) HS2.out).trans HC.out) (i := 8) rfl
    clear hb4 d0
    go_wp2_with fail
    go_ret
    exact ⟨rfl, below_after HW.out HB4.out⟩
  · have d0 := cell_lit hA (i := 9) rfl
    go_wp2_with fail
    refine (read_any 60 (by decide) _ _ HT.out HG.out _ bad9).mono ?_
    rintro e w4 ⟨hb4, rfl⟩
    have HB4 : Hid (_) := hb4
    have d1 := cell_lit ((hb4.block (w.heap.size + 1) HS1.out).trans HB.out) (i := 9) rfl
    have d2 := cell_lit ((hb4.block (w.heap.size + 2) HS2.out).trans HC.out) (i := 9) rfl
    clear hb4 d0
    go_wp2_with fail
    go_ret
    exact ⟨rfl, below_after HW.out HB4.out⟩
  · have d0 := cell_lit hA (i := 10) rfl
    go_wp2_with fail
    refine (read_any 60 (by decide) _ _ HT.out HG.out _ bad10).mono ?_
    rintro e w4 ⟨hb4, rfl⟩
    have HB4 : Hid (_) := hb4
    have d1 := cell_lit ((hb4.block (w.heap.size + 1) HS1.out).trans HB.out) (i := 10) rfl
    have d2 := cell_lit ((hb4.block (w.heap.size + 2) HS2.out).trans HC.out) (i := 10) rfl
    clear hb4 d0
    go_wp2_with fail
    go_ret
    exact ⟨rfl, below_after HW.out HB4.out⟩
  · have d0 := cell_lit hA (i := 11) rfl
    go_wp2_with fail
    refine (read_any 60 (by decide) _ _ HT.out HG.out _ bad11).mono ?_
    rintro e w4 ⟨hb4, rfl⟩
    have HB4 : Hid (_) := hb4
    have d1 := cell_lit ((hb4.block (w.heap.size + 1) HS1.out).trans HB.out) (i := 11) rfl
    have d2 := cell_lit ((hb4.block (w.heap.size + 2) HS2.out).trans HC.out) (i := 11) rfl
    clear hb4 d0
    go_wp2_with fail
    go_ret
    exact ⟨rfl, below_after HW.out HB4.out⟩
  · have d0 := cell_lit hA (i := 12) rfl
    go_wp2_with fail
    refine (read_any 60 (by decide) _ _ HT.out HG.out _ bad12).mono ?_
    rintro e w4 ⟨hb4, rfl⟩
    have HB4 : Hid (_) := hb4
    have d1 := cell_lit ((hb4.block (w.heap.size + 1) HS1.out).trans HB.out) (i := 12) rfl
    have d2 := cell_lit ((hb4.block (w.heap.size + 2) HS2.out).trans HC.out) (i := 12) rfl
    clear hb4 d0
    go_wp2_with fail
    go_ret
    exact ⟨rfl, below_after HW.out HB4.out⟩
  · have d0 := cell_lit hA (i := 13) rfl
    go_wp2_with fail
    refine (read_any 60 (by decide) _ _ HT.out HG.out _ bad13).mono ?_
    rintro e w4 ⟨hb4, rfl⟩
    have HB4 : Hid (_) := hb4
    have d1 := cell_lit ((hb4.block (w.heap.size + 1) HS1.out).trans HB.out) (i := 13) rfl
    have d2 := cell_lit ((hb4.block (w.heap.size + 2) HS2.out).trans HC.out) (i := 13) rfl
    clear hb4 d0
    go_wp2_with fail
    go_ret
    exact ⟨rfl, below_after HW.out HB4.out⟩
  · have d0 := cell_lit hA (i := 14) rfl
    go_wp2_with fail
    refine (read_any 60 (by decide) _ _ HT.out HG.out _ bad14).mono ?_
    rintro e w4 ⟨hb4, rfl⟩
    have HB4 : Hid (_) := hb4
    have d1 := cell_lit ((hb4.block (w.heap.size + 1) HS1.out).trans HB.out) (i := 14) rfl
    have d2 := cell_lit ((hb4.block (w.heap.size + 2) HS2.out).trans HC.out) (i := 14) rfl
    clear hb4 d0
    go_wp2_with fail
    go_ret
    exact ⟨rfl, below_after HW.out HB4.out⟩
  · have d0 := cell_lit hA (i := 15) rfl
    go_wp2_with fail
    refine (read_any 60 (by decide) _ _ HT.out HG.out _ bad15).mono ?_
    rintro e w4 ⟨hb4, rfl⟩
    have HB4 : Hid (_) := hb4
    have d1 := cell_lit ((hb4.block (w.heap.size + 1) HS1.out).trans HB.out) (i := 15) rfl
    have d2 := cell_lit ((hb4.block (w.heap.size + 2) HS2.out).trans HC.out) (i := 15) rfl
    clear hb4 d0
    go_wp2_with fail
    go_ret
    exact ⟨rfl, below_after HW.out HB4.out⟩
  · have d0 := cell_lit hA (i := 16) rfl
    go_wp2_with fail
    refine (read_any 60 (by decide) _ _ HT.out HG.out _ bad16).mono ?_
    rintro e w4 ⟨hb4, rfl⟩
    have HB4 : Hid (_) := hb4
    have d1 := cell_lit ((hb4.block (w.heap.size + 1) HS1.out).trans HB.out) (i := 16) rfl
    have d2 := cell_lit ((hb4.block (w.heap.size + 2) HS2.out).trans HC.out) (i := 16) rfl
    clear hb4 d0
    go_wp2_with fail
    go_ret
    exact ⟨rfl, below_after HW.out HB4.out⟩
end

end Go.Proofs.YtffpcpdcgfmoiaaDoor
