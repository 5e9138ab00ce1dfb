/-
  posternkeep.TypedFalls: the walk.
-/
import Derived.Test.YtbpnfoihonehgabGreatDoorTzH
import Derived.Laws.Concat
namespace Go.Proofs.YtbpnfoihonehgabGreatDoor
open Go.RowKit Go.Maps
set_option linter.unusedSimpArgs false
set_option linter.unusedVariables false

theorem cell_lit_t {w : World} {g : Nat} {c : Array Value} {T : TypeId} {f : Nat × Nat} (h : w.heap[g]? = some (.cells c T f)) {i : Nat} {v : Value} (hv : c[i]? = some v) : w.cell? ⟨g, i, none⟩ = some v := by
  simp [World.cell?, h, hv]

theorem fsAt_of {w w' : World} {v : Value} {fs : List Fn'} (h : Row (fun g => w.heap.size ≤ g) w' (IsFn (fun g => w.heap.size ≤ g) w') v fs) : FsAt w' w'.heap.size v fs :=
  h.move (fun g _ hl => ⟨hl, rfl⟩) fun u x hx => moves_IsFn _ _ _ _ _ _ hx fun g _ hl => ⟨hl, rfl⟩

set_option maxHeartbeats 400000 in
theorem picked_10 (x : Int) (h0 : -9223372036854775808 ≤ x) (h1 : x ≤ 9223372036854775807) (w : World) :
    Calls Tryz.prog 10 #[.int .i64 x, .int .i64 10] w fun e w' => (∃ k : Nat, k < 10 ∧ e = .returned (.int .i64 (k : Nat))) ∧ w' = w := by
  by_cases hx : x < 0
  · have hxb : decide (x < 0) = true := by simpa using hx
    have hw1 : IntKind.i64.wrap (x + 1) = x + 1 := by rw [IntKind.wrap_i64]; omega
    have hw2 : IntKind.i64.wrap (-(x + 1)) = -(x + 1) := by rw [IntKind.wrap_i64]; omega
    have hr0 : 0 ≤ -((x + 1).tmod 10) := by rw [← Int.neg_tmod, Int.tmod_eq_emod_of_nonneg (by omega)]; omega
    have hr1 : -((x + 1).tmod 10) < 10 := by rw [← Int.neg_tmod, Int.tmod_eq_emod_of_nonneg (by omega)]; omega
    have hw3 : IntKind.i64.wrap ((-(x + 1)).tmod 10) = (-(x + 1)).tmod 10 := by rw [Int.neg_tmod, IntKind.wrap_i64]; omega
    go_enter Tryz.func10, Tryz.ntmps10
    go_wp2
    go_ret
    exact ⟨⟨(-((x + 1).tmod 10)).toNat, by omega, by rw [Int.toNat_of_nonneg hr0]; rfl⟩, rfl⟩
  · have hxb : decide (x < 0) = false := by simpa using hx
    have hr0 : 0 ≤ x % 10 := by omega
    have hr1 : x % 10 < 10 := by omega
    go_enter Tryz.func10, Tryz.ntmps10
    go_wp2
    go_ret
    exact ⟨⟨(x % 10).toNat, by omega, by rw [Int.toNat_of_nonneg hr0]; rfl⟩, rfl⟩

theorem src0 : ((⟨#[102, 117, 110, 99, 32, 109, 97, 105, 110, 40, 41, 32, 123, 32, 125, 32, 102, 117, 110, 99, 32, 102, 40, 98, 32, 98, 111, 111, 108, 41, 32, 105, 110, 116, 32, 123, 32]⟩ : ByteArray) ++ (⟨#[]⟩ : ByteArray) ++ (⟨#[32, 125]⟩ : ByteArray)) = ⟨#[102, 117, 110, 99, 32, 109, 97, 105, 110, 40, 41, 32, 123, 32, 125, 32, 102, 117, 110, 99, 32, 102, 40, 98, 32, 98, 111, 111, 108, 41, 32, 105, 110, 116, 32, 123, 32, 32, 125]⟩ := by rfl
theorem src1 : ((⟨#[102, 117, 110, 99, 32, 109, 97, 105, 110, 40, 41, 32, 123, 32, 125, 32, 102, 117, 110, 99, 32, 102, 40, 98, 32, 98, 111, 111, 108, 41, 32, 105, 110, 116, 32, 123, 32]⟩ : ByteArray) ++ (⟨#[105, 102, 32, 98, 32, 123, 32, 114, 101, 116, 117, 114, 110, 32, 49, 32, 125]⟩ : ByteArray) ++ (⟨#[32, 125]⟩ : ByteArray)) = ⟨#[102, 117, 110, 99, 32, 109, 97, 105, 110, 40, 41, 32, 123, 32, 125, 32, 102, 117, 110, 99, 32, 102, 40, 98, 32, 98, 111, 111, 108, 41, 32, 105, 110, 116, 32, 123, 32, 105, 102, 32, 98, 32, 123, 32, 114, 101, 116, 117, 114, 110, 32, 49, 32, 125, 32, 125]⟩ := by rfl
theorem src2 : ((⟨#[102, 117, 110, 99, 32, 109, 97, 105, 110, 40, 41, 32, 123, 32, 125, 32, 102, 117, 110, 99, 32, 102, 40, 98, 32, 98, 111, 111, 108, 41, 32, 105, 110, 116, 32, 123, 32]⟩ : ByteArray) ++ (⟨#[105, 102, 32, 98, 32, 123, 32, 114, 101, 116, 117, 114, 110, 32, 49, 32, 125, 32, 101, 108, 115, 101, 32, 123, 32, 125]⟩ : ByteArray) ++ (⟨#[32, 125]⟩ : ByteArray)) = ⟨#[102, 117, 110, 99, 32, 109, 97, 105, 110, 40, 41, 32, 123, 32, 125, 32, 102, 117, 110, 99, 32, 102, 40, 98, 32, 98, 111, 111, 108, 41, 32, 105, 110, 116, 32, 123, 32, 105, 102, 32, 98, 32, 123, 32, 114, 101, 116, 117, 114, 110, 32, 49, 32, 125, 32, 101, 108, 115, 101, 32, 123, 32, 125, 32, 125]⟩ := by rfl
theorem src3 : ((⟨#[102, 117, 110, 99, 32, 109, 97, 105, 110, 40, 41, 32, 123, 32, 125, 32, 102, 117, 110, 99, 32, 102, 40, 98, 32, 98, 111, 111, 108, 41, 32, 105, 110, 116, 32, 123, 32]⟩ : ByteArray) ++ (⟨#[102, 111, 114, 32, 98, 32, 123, 32, 114, 101, 116, 117, 114, 110, 32, 49, 32, 125]⟩ : ByteArray) ++ (⟨#[32, 125]⟩ : ByteArray)) = ⟨#[102, 117, 110, 99, 32, 109, 97, 105, 110, 40, 41, 32, 123, 32, 125, 32, 102, 117, 110, 99, 32, 102, 40, 98, 32, 98, 111, 111, 108, 41, 32, 105, 110, 116, 32, 123, 32, 102, 111, 114, 32, 98, 32, 123, 32, 114, 101, 116, 117, 114, 110, 32, 49, 32, 125, 32, 125]⟩ := by rfl
theorem src4 : ((⟨#[102, 117, 110, 99, 32, 109, 97, 105, 110, 40, 41, 32, 123, 32, 125, 32, 102, 117, 110, 99, 32, 102, 40, 98, 32, 98, 111, 111, 108, 41, 32, 105, 110, 116, 32, 123, 32]⟩ : ByteArray) ++ (⟨#[115, 119, 105, 116, 99, 104, 32, 49, 32, 123, 32, 99, 97, 115, 101, 32, 49, 58, 32, 123, 32, 114, 101, 116, 117, 114, 110, 32, 49, 32, 125, 32, 125]⟩ : ByteArray) ++ (⟨#[32, 125]⟩ : ByteArray)) = ⟨#[102, 117, 110, 99, 32, 109, 97, 105, 110, 40, 41, 32, 123, 32, 125, 32, 102, 117, 110, 99, 32, 102, 40, 98, 32, 98, 111, 111, 108, 41, 32, 105, 110, 116, 32, 123, 32, 115, 119, 105, 116, 99, 104, 32, 49, 32, 123, 32, 99, 97, 115, 101, 32, 49, 58, 32, 123, 32, 114, 101, 116, 117, 114, 110, 32, 49, 32, 125, 32, 125, 32, 125]⟩ := by rfl
theorem src5 : ((⟨#[102, 117, 110, 99, 32, 109, 97, 105, 110, 40, 41, 32, 123, 32, 125, 32, 102, 117, 110, 99, 32, 102, 40, 98, 32, 98, 111, 111, 108, 41, 32, 105, 110, 116, 32, 123, 32]⟩ : ByteArray) ++ (⟨#[105, 102, 32, 98, 32, 123, 32, 114, 101, 116, 117, 114, 110, 32, 49, 32, 125, 32, 101, 108, 115, 101, 32, 123, 32, 114, 101, 116, 117, 114, 110, 32, 50, 32, 125]⟩ : ByteArray) ++ (⟨#[32, 125]⟩ : ByteArray)) = ⟨#[102, 117, 110, 99, 32, 109, 97, 105, 110, 40, 41, 32, 123, 32, 125, 32, 102, 117, 110, 99, 32, 102, 40, 98, 32, 98, 111, 111, 108, 41, 32, 105, 110, 116, 32, 123, 32, 105, 102, 32, 98, 32, 123, 32, 114, 101, 116, 117, 114, 110, 32, 49, 32, 125, 32, 101, 108, 115, 101, 32, 123, 32, 114, 101, 116, 117, 114, 110, 32, 50, 32, 125, 32, 125]⟩ := by rfl
theorem src6 : ((⟨#[102, 117, 110, 99, 32, 109, 97, 105, 110, 40, 41, 32, 123, 32, 125, 32, 102, 117, 110, 99, 32, 102, 40, 98, 32, 98, 111, 111, 108, 41, 32, 105, 110, 116, 32, 123, 32]⟩ : ByteArray) ++ (⟨#[115, 119, 105, 116, 99, 104, 32, 49, 32, 123, 32, 99, 97, 115, 101, 32, 49, 58, 32, 123, 32, 114, 101, 116, 117, 114, 110, 32, 49, 32, 125, 32, 100, 101, 102, 97, 117, 108, 116, 58, 32, 123, 32, 114, 101, 116, 117, 114, 110, 32, 50, 32, 125, 32, 125]⟩ : ByteArray) ++ (⟨#[32, 125]⟩ : ByteArray)) = ⟨#[102, 117, 110, 99, 32, 109, 97, 105, 110, 40, 41, 32, 123, 32, 125, 32, 102, 117, 110, 99, 32, 102, 40, 98, 32, 98, 111, 111, 108, 41, 32, 105, 110, 116, 32, 123, 32, 115, 119, 105, 116, 99, 104, 32, 49, 32, 123, 32, 99, 97, 115, 101, 32, 49, 58, 32, 123, 32, 114, 101, 116, 117, 114, 110, 32, 49, 32, 125, 32, 100, 101, 102, 97, 117, 108, 116, 58, 32, 123, 32, 114, 101, 116, 117, 114, 110, 32, 50, 32, 125, 32, 125, 32, 125]⟩ := by rfl
theorem src7 : ((⟨#[102, 117, 110, 99, 32, 109, 97, 105, 110, 40, 41, 32, 123, 32, 125, 32, 102, 117, 110, 99, 32, 102, 40, 98, 32, 98, 111, 111, 108, 41, 32, 105, 110, 116, 32, 123, 32]⟩ : ByteArray) ++ (⟨#[105, 102, 32, 98, 32, 123, 32, 114, 101, 116, 117, 114, 110, 32, 49, 32, 125, 32, 101, 108, 115, 101, 32, 105, 102, 32, 98, 32, 123, 32, 114, 101, 116, 117, 114, 110, 32, 50, 32, 125, 32, 101, 108, 115, 101, 32, 123, 32, 114, 101, 116, 117, 114, 110, 32, 51, 32, 125]⟩ : ByteArray) ++ (⟨#[32, 125]⟩ : ByteArray)) = ⟨#[102, 117, 110, 99, 32, 109, 97, 105, 110, 40, 41, 32, 123, 32, 125, 32, 102, 117, 110, 99, 32, 102, 40, 98, 32, 98, 111, 111, 108, 41, 32, 105, 110, 116, 32, 123, 32, 105, 102, 32, 98, 32, 123, 32, 114, 101, 116, 117, 114, 110, 32, 49, 32, 125, 32, 101, 108, 115, 101, 32, 105, 102, 32, 98, 32, 123, 32, 114, 101, 116, 117, 114, 110, 32, 50, 32, 125, 32, 101, 108, 115, 101, 32, 123, 32, 114, 101, 116, 117, 114, 110, 32, 51, 32, 125, 32, 125]⟩ := by rfl
theorem src8 : ((⟨#[102, 117, 110, 99, 32, 109, 97, 105, 110, 40, 41, 32, 123, 32, 125, 32, 102, 117, 110, 99, 32, 102, 40, 98, 32, 98, 111, 111, 108, 41, 32, 105, 110, 116, 32, 123, 32]⟩ : ByteArray) ++ (⟨#[114, 101, 116, 117, 114, 110, 32, 49, 32, 114, 101, 116, 117, 114, 110, 32, 50]⟩ : ByteArray) ++ (⟨#[32, 125]⟩ : ByteArray)) = ⟨#[102, 117, 110, 99, 32, 109, 97, 105, 110, 40, 41, 32, 123, 32, 125, 32, 102, 117, 110, 99, 32, 102, 40, 98, 32, 98, 111, 111, 108, 41, 32, 105, 110, 116, 32, 123, 32, 114, 101, 116, 117, 114, 110, 32, 49, 32, 114, 101, 116, 117, 114, 110, 32, 50, 32, 125]⟩ := by rfl
theorem src9 : ((⟨#[102, 117, 110, 99, 32, 109, 97, 105, 110, 40, 41, 32, 123, 32, 125, 32, 102, 117, 110, 99, 32, 102, 40, 98, 32, 98, 111, 111, 108, 41, 32, 105, 110, 116, 32, 123, 32]⟩ : ByteArray) ++ (⟨#[114, 101, 116, 117, 114, 110, 32, 49, 32, 98, 32, 61, 32, 102, 97, 108, 115, 101]⟩ : ByteArray) ++ (⟨#[32, 125]⟩ : ByteArray)) = ⟨#[102, 117, 110, 99, 32, 109, 97, 105, 110, 40, 41, 32, 123, 32, 125, 32, 102, 117, 110, 99, 32, 102, 40, 98, 32, 98, 111, 111, 108, 41, 32, 105, 110, 116, 32, 123, 32, 114, 101, 116, 117, 114, 110, 32, 49, 32, 98, 32, 61, 32, 102, 97, 108, 115, 101, 32, 125]⟩ := by rfl

set_option maxHeartbeats 4000000 in
set_option maxRecDepth 10000 in
theorem typedFalls_walk (x : Int) (h0 : -9223372036854775808 ≤ x) (h1 : x ≤ 9223372036854775807) (w : World) (ht : Tab w) (htt : TabT w) (hG : 9 ≤ w.heap.size) :
    Calls Tryz.prog 5 #[.int .i64 x] w fun e w' => e = .returned (.bool true) ∧ Below w.heap.size w w' := by
  have hw : Below w.heap.size w (w.alloc (.cells #[.string ⟨#[]⟩, .string ⟨#[105, 102, 32, 98, 32, 123, 32, 114, 101, 116, 117, 114, 110, 32, 49, 32, 125]⟩, .string ⟨#[105, 102, 32, 98, 32, 123, 32, 114, 101, 116, 117, 114, 110, 32, 49, 32, 125, 32, 101, 108, 115, 101, 32, 123, 32, 125]⟩, .string ⟨#[102, 111, 114, 32, 98, 32, 123, 32, 114, 101, 116, 117, 114, 110, 32, 49, 32, 125]⟩, .string ⟨#[115, 119, 105, 116, 99, 104, 32, 49, 32, 123, 32, 99, 97, 115, 101, 32, 49, 58, 32, 123, 32, 114, 101, 116, 117, 114, 110, 32, 49, 32, 125, 32, 125]⟩, .string ⟨#[105, 102, 32, 98, 32, 123, 32, 114, 101, 116, 117, 114, 110, 32, 49, 32, 125, 32, 101, 108, 115, 101, 32, 123, 32, 114, 101, 116, 117, 114, 110, 32, 50, 32, 125]⟩, .string ⟨#[115, 119, 105, 116, 99, 104, 32, 49, 32, 123, 32, 99, 97, 115, 101, 32, 49, 58, 32, 123, 32, 114, 101, 116, 117, 114, 110, 32, 49, 32, 125, 32, 100, 101, 102, 97, 117, 108, 116, 58, 32, 123, 32, 114, 101, 116, 117, 114, 110, 32, 50, 32, 125, 32, 125]⟩, .string ⟨#[105, 102, 32, 98, 32, 123, 32, 114, 101, 116, 117, 114, 110, 32, 49, 32, 125, 32, 101, 108, 115, 101, 32, 105, 102, 32, 98, 32, 123, 32, 114, 101, 116, 117, 114, 110, 32, 50, 32, 125, 32, 101, 108, 115, 101, 32, 123, 32, 114, 101, 116, 117, 114, 110, 32, 51, 32, 125]⟩, .string ⟨#[114, 101, 116, 117, 114, 110, 32, 49, 32, 114, 101, 116, 117, 114, 110, 32, 50]⟩, .string ⟨#[114, 101, 116, 117, 114, 110, 32, 49, 32, 98, 32, 61, 32, 102, 97, 108, 115, 101]⟩] 9)) := (Below.refl _ _).alloc (Nat.le_refl _) _
  have HW : Hid (Below w.heap.size w (w.alloc (.cells #[.string ⟨#[]⟩, .string ⟨#[105, 102, 32, 98, 32, 123, 32, 114, 101, 116, 117, 114, 110, 32, 49, 32, 125]⟩, .string ⟨#[105, 102, 32, 98, 32, 123, 32, 114, 101, 116, 117, 114, 110, 32, 49, 32, 125, 32, 101, 108, 115, 101, 32, 123, 32, 125]⟩, .string ⟨#[102, 111, 114, 32, 98, 32, 123, 32, 114, 101, 116, 117, 114, 110, 32, 49, 32, 125]⟩, .string ⟨#[115, 119, 105, 116, 99, 104, 32, 49, 32, 123, 32, 99, 97, 115, 101, 32, 49, 58, 32, 123, 32, 114, 101, 116, 117, 114, 110, 32, 49, 32, 125, 32, 125]⟩, .string ⟨#[105, 102, 32, 98, 32, 123, 32, 114, 101, 116, 117, 114, 110, 32, 49, 32, 125, 32, 101, 108, 115, 101, 32, 123, 32, 114, 101, 116, 117, 114, 110, 32, 50, 32, 125]⟩, .string ⟨#[115, 119, 105, 116, 99, 104, 32, 49, 32, 123, 32, 99, 97, 115, 101, 32, 49, 58, 32, 123, 32, 114, 101, 116, 117, 114, 110, 32, 49, 32, 125, 32, 100, 101, 102, 97, 117, 108, 116, 58, 32, 123, 32, 114, 101, 116, 117, 114, 110, 32, 50, 32, 125, 32, 125]⟩, .string ⟨#[105, 102, 32, 98, 32, 123, 32, 114, 101, 116, 117, 114, 110, 32, 49, 32, 125, 32, 101, 108, 115, 101, 32, 105, 102, 32, 98, 32, 123, 32, 114, 101, 116, 117, 114, 110, 32, 50, 32, 125, 32, 101, 108, 115, 101, 32, 123, 32, 114, 101, 116, 117, 114, 110, 32, 51, 32, 125]⟩, .string ⟨#[114, 101, 116, 117, 114, 110, 32, 49, 32, 114, 101, 116, 117, 114, 110, 32, 50]⟩, .string ⟨#[114, 101, 116, 117, 114, 110, 32, 49, 32, 98, 32, 61, 32, 102, 97, 108, 115, 101]⟩] 9))) := hw
  have HT : Hid (Tab (w.alloc (.cells #[.string ⟨#[]⟩, .string ⟨#[105, 102, 32, 98, 32, 123, 32, 114, 101, 116, 117, 114, 110, 32, 49, 32, 125]⟩, .string ⟨#[105, 102, 32, 98, 32, 123, 32, 114, 101, 116, 117, 114, 110, 32, 49, 32, 125, 32, 101, 108, 115, 101, 32, 123, 32, 125]⟩, .string ⟨#[102, 111, 114, 32, 98, 32, 123, 32, 114, 101, 116, 117, 114, 110, 32, 49, 32, 125]⟩, .string ⟨#[115, 119, 105, 116, 99, 104, 32, 49, 32, 123, 32, 99, 97, 115, 101, 32, 49, 58, 32, 123, 32, 114, 101, 116, 117, 114, 110, 32, 49, 32, 125, 32, 125]⟩, .string ⟨#[105, 102, 32, 98, 32, 123, 32, 114, 101, 116, 117, 114, 110, 32, 49, 32, 125, 32, 101, 108, 115, 101, 32, 123, 32, 114, 101, 116, 117, 114, 110, 32, 50, 32, 125]⟩, .string ⟨#[115, 119, 105, 116, 99, 104, 32, 49, 32, 123, 32, 99, 97, 115, 101, 32, 49, 58, 32, 123, 32, 114, 101, 116, 117, 114, 110, 32, 49, 32, 125, 32, 100, 101, 102, 97, 117, 108, 116, 58, 32, 123, 32, 114, 101, 116, 117, 114, 110, 32, 50, 32, 125, 32, 125]⟩, .string ⟨#[105, 102, 32, 98, 32, 123, 32, 114, 101, 116, 117, 114, 110, 32, 49, 32, 125, 32, 101, 108, 115, 101, 32, 105, 102, 32, 98, 32, 123, 32, 114, 101, 116, 117, 114, 110, 32, 50, 32, 125, 32, 101, 108, 115, 101, 32, 123, 32, 114, 101, 116, 117, 114, 110, 32, 51, 32, 125]⟩, .string ⟨#[114, 101, 116, 117, 114, 110, 32, 49, 32, 114, 101, 116, 117, 114, 110, 32, 50]⟩, .string ⟨#[114, 101, 116, 117, 114, 110, 32, 49, 32, 98, 32, 61, 32, 102, 97, 108, 115, 101]⟩] 9))) := ht.below hw
  have HTT : Hid (TabT w) := htt
  have HG : Hid (9 ≤ (w.alloc (.cells #[.string ⟨#[]⟩, .string ⟨#[105, 102, 32, 98, 32, 123, 32, 114, 101, 116, 117, 114, 110, 32, 49, 32, 125]⟩, .string ⟨#[105, 102, 32, 98, 32, 123, 32, 114, 101, 116, 117, 114, 110, 32, 49, 32, 125, 32, 101, 108, 115, 101, 32, 123, 32, 125]⟩, .string ⟨#[102, 111, 114, 32, 98, 32, 123, 32, 114, 101, 116, 117, 114, 110, 32, 49, 32, 125]⟩, .string ⟨#[115, 119, 105, 116, 99, 104, 32, 49, 32, 123, 32, 99, 97, 115, 101, 32, 49, 58, 32, 123, 32, 114, 101, 116, 117, 114, 110, 32, 49, 32, 125, 32, 125]⟩, .string ⟨#[105, 102, 32, 98, 32, 123, 32, 114, 101, 116, 117, 114, 110, 32, 49, 32, 125, 32, 101, 108, 115, 101, 32, 123, 32, 114, 101, 116, 117, 114, 110, 32, 50, 32, 125]⟩, .string ⟨#[115, 119, 105, 116, 99, 104, 32, 49, 32, 123, 32, 99, 97, 115, 101, 32, 49, 58, 32, 123, 32, 114, 101, 116, 117, 114, 110, 32, 49, 32, 125, 32, 100, 101, 102, 97, 117, 108, 116, 58, 32, 123, 32, 114, 101, 116, 117, 114, 110, 32, 50, 32, 125, 32, 125]⟩, .string ⟨#[105, 102, 32, 98, 32, 123, 32, 114, 101, 116, 117, 114, 110, 32, 49, 32, 125, 32, 101, 108, 115, 101, 32, 105, 102, 32, 98, 32, 123, 32, 114, 101, 116, 117, 114, 110, 32, 50, 32, 125, 32, 101, 108, 115, 101, 32, 123, 32, 114, 101, 116, 117, 114, 110, 32, 51, 32, 125]⟩, .string ⟨#[114, 101, 116, 117, 114, 110, 32, 49, 32, 114, 101, 116, 117, 114, 110, 32, 50]⟩, .string ⟨#[114, 101, 116, 117, 114, 110, 32, 49, 32, 98, 32, 61, 32, 102, 97, 108, 115, 101]⟩] 9)).heap.size) := Nat.le_trans hG hw.size
  have hA := heap_alloc_new w (.cells #[.string ⟨#[]⟩, .string ⟨#[105, 102, 32, 98, 32, 123, 32, 114, 101, 116, 117, 114, 110, 32, 49, 32, 125]⟩, .string ⟨#[105, 102, 32, 98, 32, 123, 32, 114, 101, 116, 117, 114, 110, 32, 49, 32, 125, 32, 101, 108, 115, 101, 32, 123, 32, 125]⟩, .string ⟨#[102, 111, 114, 32, 98, 32, 123, 32, 114, 101, 116, 117, 114, 110, 32, 49, 32, 125]⟩, .string ⟨#[115, 119, 105, 116, 99, 104, 32, 49, 32, 123, 32, 99, 97, 115, 101, 32, 49, 58, 32, 123, 32, 114, 101, 116, 117, 114, 110, 32, 49, 32, 125, 32, 125]⟩, .string ⟨#[105, 102, 32, 98, 32, 123, 32, 114, 101, 116, 117, 114, 110, 32, 49, 32, 125, 32, 101, 108, 115, 101, 32, 123, 32, 114, 101, 116, 117, 114, 110, 32, 50, 32, 125]⟩, .string ⟨#[115, 119, 105, 116, 99, 104, 32, 49, 32, 123, 32, 99, 97, 115, 101, 32, 49, 58, 32, 123, 32, 114, 101, 116, 117, 114, 110, 32, 49, 32, 125, 32, 100, 101, 102, 97, 117, 108, 116, 58, 32, 123, 32, 114, 101, 116, 117, 114, 110, 32, 50, 32, 125, 32, 125]⟩, .string ⟨#[105, 102, 32, 98, 32, 123, 32, 114, 101, 116, 117, 114, 110, 32, 49, 32, 125, 32, 101, 108, 115, 101, 32, 105, 102, 32, 98, 32, 123, 32, 114, 101, 116, 117, 114, 110, 32, 50, 32, 125, 32, 101, 108, 115, 101, 32, 123, 32, 114, 101, 116, 117, 114, 110, 32, 51, 32, 125]⟩, .string ⟨#[114, 101, 116, 117, 114, 110, 32, 49, 32, 114, 101, 116, 117, 114, 110, 32, 50]⟩, .string ⟨#[114, 101, 116, 117, 114, 110, 32, 49, 32, 98, 32, 61, 32, 102, 97, 108, 115, 101]⟩] 9)
  clear hw
  go_enter Tryz.func5, Tryz.ntmps5
  go_wp2_with fail
  refine (picked_10 x h0 h1 _).mono ?_
  rintro e w1 ⟨⟨k, hk, rfl⟩, hw1⟩
  have hw1' := hw1.symm
  subst hw1'
  have hk10 : k = 0 ∨ k = 1 ∨ k = 2 ∨ k = 3 ∨ k = 4 ∨ k = 5 ∨ k = 6 ∨ k = 7 ∨ k = 8 ∨ k = 9 := by omega
  rcases hk10 with rfl | rfl | rfl | rfl | rfl | rfl | rfl | rfl | rfl | rfl
  · have d0 := cell_lit_t hA (i := 0) rfl
    go_wp2_with fail
    obtain ⟨fs, h1, h2⟩ := res_read fall0
    rw [← src0] at h1
    refine (read_any 60 (by decide) _ _ HT.out HG.out (.inr fs) h1).mono ?_
    rintro e w4 ⟨hb4, a, c, rfl, hrow⟩
    have HB4 : Hid (Below w.heap.size w w4) := below_after HW.out hb4
    have HF : Hid (_) := fsAt_of hrow
    have HT4 : Hid (TabT w4) := HTT.out.below hG (Nat.le_refl _) HB4.out
    have hG4 : 9 ≤ w4.heap.size := Nat.le_trans hG HB4.out.size
    clear hb4 d0 hrow h1 hA
    go_wp2_with fail
    refine (check_any w4 _ fs 60 60 _ HF.out HT4.out hG4 h2).mono ?_
    rintro e w5 ⟨rfl, hb5⟩
    have HB5 : Hid (_) := below_after HB4.out hb5
    clear hb5 h2
    unfold tyE
    go_wp2_with fail
    go_ret
    exact ⟨rfl, HB5.out⟩
  · have d0 := cell_lit_t hA (i := 1) rfl
    go_wp2_with fail
    obtain ⟨fs, h1, h2⟩ := res_read fall1
    rw [← src1] at h1
    refine (read_any 60 (by decide) _ _ HT.out HG.out (.inr fs) h1).mono ?_
    rintro e w4 ⟨hb4, a, c, rfl, hrow⟩
    have HB4 : Hid (Below w.heap.size w w4) := below_after HW.out hb4
    have HF : Hid (_) := fsAt_of hrow
    have HT4 : Hid (TabT w4) := HTT.out.below hG (Nat.le_refl _) HB4.out
    have hG4 : 9 ≤ w4.heap.size := Nat.le_trans hG HB4.out.size
    clear hb4 d0 hrow h1 hA
    go_wp2_with fail
    refine (check_any w4 _ fs 60 60 _ HF.out HT4.out hG4 h2).mono ?_
    rintro e w5 ⟨rfl, hb5⟩
    have HB5 : Hid (_) := below_after HB4.out hb5
    clear hb5 h2
    unfold tyE
    go_wp2_with fail
    go_ret
    exact ⟨rfl, HB5.out⟩
  · have d0 := cell_lit_t hA (i := 2) rfl
    go_wp2_with fail
    obtain ⟨fs, h1, h2⟩ := res_read fall2
    rw [← src2] at h1
    refine (read_any 60 (by decide) _ _ HT.out HG.out (.inr fs) h1).mono ?_
    rintro e w4 ⟨hb4, a, c, rfl, hrow⟩
    have HB4 : Hid (Below w.heap.size w w4) := below_after HW.out hb4
    have HF : Hid (_) := fsAt_of hrow
    have HT4 : Hid (TabT w4) := HTT.out.below hG (Nat.le_refl _) HB4.out
    have hG4 : 9 ≤ w4.heap.size := Nat.le_trans hG HB4.out.size
    clear hb4 d0 hrow h1 hA
    go_wp2_with fail
    refine (check_any w4 _ fs 60 60 _ HF.out HT4.out hG4 h2).mono ?_
    rintro e w5 ⟨rfl, hb5⟩
    have HB5 : Hid (_) := below_after HB4.out hb5
    clear hb5 h2
    unfold tyE
    go_wp2_with fail
    go_ret
    exact ⟨rfl, HB5.out⟩
  · have d0 := cell_lit_t hA (i := 3) rfl
    go_wp2_with fail
    obtain ⟨fs, h1, h2⟩ := res_read fall3
    rw [← src3] at h1
    refine (read_any 60 (by decide) _ _ HT.out HG.out (.inr fs) h1).mono ?_
    rintro e w4 ⟨hb4, a, c, rfl, hrow⟩
    have HB4 : Hid (Below w.heap.size w w4) := below_after HW.out hb4
    have HF : Hid (_) := fsAt_of hrow
    have HT4 : Hid (TabT w4) := HTT.out.below hG (Nat.le_refl _) HB4.out
    have hG4 : 9 ≤ w4.heap.size := Nat.le_trans hG HB4.out.size
    clear hb4 d0 hrow h1 hA
    go_wp2_with fail
    refine (check_any w4 _ fs 60 60 _ HF.out HT4.out hG4 h2).mono ?_
    rintro e w5 ⟨rfl, hb5⟩
    have HB5 : Hid (_) := below_after HB4.out hb5
    clear hb5 h2
    unfold tyE
    go_wp2_with fail
    go_ret
    exact ⟨rfl, HB5.out⟩
  · have d0 := cell_lit_t hA (i := 4) rfl
    go_wp2_with fail
    obtain ⟨fs, h1, h2⟩ := res_read fall4
    rw [← src4] at h1
    refine (read_any 60 (by decide) _ _ HT.out HG.out (.inr fs) h1).mono ?_
    rintro e w4 ⟨hb4, a, c, rfl, hrow⟩
    have HB4 : Hid (Below w.heap.size w w4) := below_after HW.out hb4
    have HF : Hid (_) := fsAt_of hrow
    have HT4 : Hid (TabT w4) := HTT.out.below hG (Nat.le_refl _) HB4.out
    have hG4 : 9 ≤ w4.heap.size := Nat.le_trans hG HB4.out.size
    clear hb4 d0 hrow h1 hA
    go_wp2_with fail
    refine (check_any w4 _ fs 60 60 _ HF.out HT4.out hG4 h2).mono ?_
    rintro e w5 ⟨rfl, hb5⟩
    have HB5 : Hid (_) := below_after HB4.out hb5
    clear hb5 h2
    unfold tyE
    go_wp2_with fail
    go_ret
    exact ⟨rfl, HB5.out⟩
  · have d0 := cell_lit_t hA (i := 5) rfl
    go_wp2_with fail
    obtain ⟨fs, h1, h2⟩ := res_read fall5
    rw [← src5] at h1
    refine (read_any 60 (by decide) _ _ HT.out HG.out (.inr fs) h1).mono ?_
    rintro e w4 ⟨hb4, a, c, rfl, hrow⟩
    have HB4 : Hid (Below w.heap.size w w4) := below_after HW.out hb4
    have HF : Hid (_) := fsAt_of hrow
    have HT4 : Hid (TabT w4) := HTT.out.below hG (Nat.le_refl _) HB4.out
    have hG4 : 9 ≤ w4.heap.size := Nat.le_trans hG HB4.out.size
    clear hb4 d0 hrow h1 hA
    go_wp2_with fail
    refine (check_any w4 _ fs 60 60 _ HF.out HT4.out hG4 h2).mono ?_
    rintro e w5 ⟨rfl, hb5⟩
    have HB5 : Hid (_) := below_after HB4.out hb5
    clear hb5 h2
    unfold tyE
    go_wp2_with fail
    go_ret
    exact ⟨rfl, HB5.out⟩
  · have d0 := cell_lit_t hA (i := 6) rfl
    go_wp2_with fail
    obtain ⟨fs, h1, h2⟩ := res_read fall6
    rw [← src6] at h1
    refine (read_any 60 (by decide) _ _ HT.out HG.out (.inr fs) h1).mono ?_
    rintro e w4 ⟨hb4, a, c, rfl, hrow⟩
    have HB4 : Hid (Below w.heap.size w w4) := below_after HW.out hb4
    have HF : Hid (_) := fsAt_of hrow
    have HT4 : Hid (TabT w4) := HTT.out.below hG (Nat.le_refl _) HB4.out
    have hG4 : 9 ≤ w4.heap.size := Nat.le_trans hG HB4.out.size
    clear hb4 d0 hrow h1 hA
    go_wp2_with fail
    refine (check_any w4 _ fs 60 60 _ HF.out HT4.out hG4 h2).mono ?_
    rintro e w5 ⟨rfl, hb5⟩
    have HB5 : Hid (_) := below_after HB4.out hb5
    clear hb5 h2
    unfold tyE
    go_wp2_with fail
    go_ret
    exact ⟨rfl, HB5.out⟩
  · have d0 := cell_lit_t hA (i := 7) rfl
    go_wp2_with fail
    obtain ⟨fs, h1, h2⟩ := res_read fall7
    rw [← src7] at h1
    refine (read_any 60 (by decide) _ _ HT.out HG.out (.inr fs) h1).mono ?_
    rintro e w4 ⟨hb4, a, c, rfl, hrow⟩
    have HB4 : Hid (Below w.heap.size w w4) := below_after HW.out hb4
    have HF : Hid (_) := fsAt_of hrow
    have HT4 : Hid (TabT w4) := HTT.out.below hG (Nat.le_refl _) HB4.out
    have hG4 : 9 ≤ w4.heap.size := Nat.le_trans hG HB4.out.size
    clear hb4 d0 hrow h1 hA
    go_wp2_with fail
    refine (check_any w4 _ fs 60 60 _ HF.out HT4.out hG4 h2).mono ?_
    rintro e w5 ⟨rfl, hb5⟩
    have HB5 : Hid (_) := below_after HB4.out hb5
    clear hb5 h2
    unfold tyE
    go_wp2_with fail
    go_ret
    exact ⟨rfl, HB5.out⟩
  · have d0 := cell_lit_t hA (i := 8) rfl
    go_wp2_with fail
    obtain ⟨fs, h1, h2⟩ := res_read fall8
    rw [← src8] at h1
    refine (read_any 60 (by decide) _ _ HT.out HG.out (.inr fs) h1).mono ?_
    rintro e w4 ⟨hb4, a, c, rfl, hrow⟩
    have HB4 : Hid (Below w.heap.size w w4) := below_after HW.out hb4
    have HF : Hid (_) := fsAt_of hrow
    have HT4 : Hid (TabT w4) := HTT.out.below hG (Nat.le_refl _) HB4.out
    have hG4 : 9 ≤ w4.heap.size := Nat.le_trans hG HB4.out.size
    clear hb4 d0 hrow h1 hA
    go_wp2_with fail
    refine (check_any w4 _ fs 60 60 _ HF.out HT4.out hG4 h2).mono ?_
    rintro e w5 ⟨rfl, hb5⟩
    have HB5 : Hid (_) := below_after HB4.out hb5
    clear hb5 h2
    unfold tyE
    go_wp2_with fail
    go_ret
    exact ⟨rfl, HB5.out⟩
  · have d0 := cell_lit_t hA (i := 9) rfl
    go_wp2_with fail
    obtain ⟨fs, h1, h2⟩ := res_read fall9
    rw [← src9] at h1
    refine (read_any 60 (by decide) _ _ HT.out HG.out (.inr fs) h1).mono ?_
    rintro e w4 ⟨hb4, a, c, rfl, hrow⟩
    have HB4 : Hid (Below w.heap.size w w4) := below_after HW.out hb4
    have HF : Hid (_) := fsAt_of hrow
    have HT4 : Hid (TabT w4) := HTT.out.below hG (Nat.le_refl _) HB4.out
    have hG4 : 9 ≤ w4.heap.size := Nat.le_trans hG HB4.out.size
    clear hb4 d0 hrow h1 hA
    go_wp2_with fail
    refine (check_any w4 _ fs 60 60 _ HF.out HT4.out hG4 h2).mono ?_
    rintro e w5 ⟨rfl, hb5⟩
    have HB5 : Hid (_) := below_after HB4.out hb5
    clear hb5 h2
    unfold tyE
    go_wp2_with fail
    go_ret
    exact ⟨rfl, HB5.out⟩

end Go.Proofs.YtbpnfoihonehgabGreatDoor
