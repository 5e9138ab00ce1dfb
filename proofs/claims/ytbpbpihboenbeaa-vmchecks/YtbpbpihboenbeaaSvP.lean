/-
  Package vm: its rules as a value; Check.
-/
import Derived.Test.YtbpbpihboenbeaaSoN
import Derived.RegionTactic
import Derived.Deep.RegionWith
namespace Go.Proofs.Ytbpbpihboenbeaa
open Go.RowKit Go.Maps
set_option linter.unusedSimpArgs false
set_option linter.unusedVariables false

theorem Blks.up {B B' : Nat} {w : World} {v : Value} {xs : List (List Ins)} (h : Blks B w v xs) (k : B ≤ B') : Blks B' w v xs :=
  Lies.up h k fun _ _ ⟨v, h1, h2⟩ => ⟨v, h1, Lies.up h2 k fun _ _ ⟨vd, va, vt, g1, g2, g3, g4, g5⟩ => ⟨vd, va, vt, g1, Lies.up g2 k fun _ _ h => h, Lies.up g3 k fun _ _ h => h, Lies.up g4 k fun _ _ h => h, g5⟩⟩
theorem Cods.up {B B' : Nat} {w : World} {v : Value} {xs : List Cod} (h : Cods B w v xs) (k : B ≤ B') : Cods B' w v xs :=
  Lies.up h k fun _ _ ⟨vb, h1, h2, h3⟩ => ⟨vb, h1, Blks.up h2 k, h3⟩

set_option maxHeartbeats 2000000 in
theorem rules_any (w : World) : Calls Try.prog 9 #[] w fun e w' => ∃ qc, e = .returned (rulV qc 36000) ∧ RInv w' w'.heap.size qc ∧ Below w.heap.size w w' := by
  have hsf := @store_func Try.prog
  obtain ⟨W, hW⟩ : ∃ W, W = ((w.alloc (.cells #[.func (.func 14) #[] #[.pointer (some ⟨w.heap.size + 2, 0, none⟩)], .func (.func 15) #[] #[], .func (.func 16) #[] #[], .func (.func 17) #[] #[], .int .i64 36000] 34)).alloc (.map cntEs 15)).alloc (.cells #[.map (some (w.heap.size + 1))] 41) := ⟨_, rfl⟩
  have hb : Below w.heap.size w W := by rw [hW]; exact below_after (below_after (below_alloc _ _) (below_alloc _ _)) (below_alloc _ _)
  have hs : W.heap.size = w.heap.size + 3 := by rw [hW]; simp
  obtain ⟨h0, h1, h2⟩ := SoLalloc3 w (.cells #[.func (.func 14) #[] #[.pointer (some ⟨w.heap.size + 2, 0, none⟩)], .func (.func 15) #[] #[], .func (.func 16) #[] #[], .func (.func 17) #[] #[], .int .i64 36000] 34) (.map cntEs 15) (.cells #[.map (some (w.heap.size + 1))] 41)
  have p0 := cells5 h0
  rw [← hW] at h1 h2
  have HI : Hid (RInv W W.heap.size (w.heap.size + 2)) := ⟨w.heap.size + 1, by omega, by omega, h2, h1⟩
  have HB : Hid (_) := hb
  have HWS : Hid (W = _) := hW
  clear h0 h1 h2 hb hs hW
  go_enter Try.func9, Try.ntmps9
  go_wp2_with fail
  refine (countsOf_any _).mono ?_
  rintro e w1 ⟨rfl, hw1⟩
  have hw1' := hw1.symm
  subst hw1'
  go_wp2_with fail
  exact bodyPost_ret (v := rulV (w.heap.size + 2) 36000) (by unfold rulV; simp [results, Try.results9, go_sem, p0]) rfl ⟨_, rfl, HWS.out ▸ HI.out, HWS.out ▸ HB.out⟩

set_option maxHeartbeats 4000000 in
theorem Check_any (fs : List Cod) (vf : Value) (a2 : Option Addr) (nd k2 B : Nat) (w : World) (hB : B ≤ w.heap.size) (hfs : Cods B w vf fs) (hnd : nd ≤ maxLen) :
    Calls Try.prog 6 #[prgV vf (.slice a2 nd k2)] w fun e w' => e = .returned (.int .i64 (programS fs nd)) ∧ Below w.heap.size w w' := by
  have HFS : Hid (Cods B w vf fs) := hfs
  obtain ⟨a1, k1, rfl⟩ := Lies.slice hfs
  have HPG : Hid (∀ (w1 : World) (qc : Nat), Below w.heap.size w w1 → RInv w1 w1.heap.size qc → Calls Try.prog 10 #[rulV qc 36000, prgV (.slice a1 fs.length k1) (.slice a2 nd k2)] w1 fun e w' => e = .returned (.int .i64 (programS fs nd)) ∧ Below w1.heap.size w1 w') := by
    intro w1 qc hb hi
    exact Program_any fs _ a2 nd k2 qc w1.heap.size 36000 w1 (Nat.le_refl _) hi rfl ((HFS.out.below (hb.mono hB)).up (Nat.le_trans hB hb.size)) hnd
  have hc2 := cells2 (heap_alloc_new w (.cells #[.slice a1 fs.length k1, .slice a2 nd k2] 26))
  clear hfs
  obtain ⟨W, hW⟩ : ∃ W, W = w.alloc (.cells #[.slice a1 fs.length k1, .slice a2 nd k2] 26) := ⟨_, rfl⟩
  have HW : Hid (Below w.heap.size w W) := by rw [hW]; exact below_alloc _ _
  have HC : Hid (W.heap[w.heap.size]? = some (.cells #[.slice a1 fs.length k1, .slice a2 nd k2] 26)) := by rw [hW]; exact heap_alloc_new _ _
  have hWs : W.heap.size = w.heap.size + 1 := by rw [hW]; simp
  have HWS : Hid (W = _) := hW
  obtain ⟨r, hr⟩ : ∃ r, r = programS fs nd := ⟨_, rfl⟩
  rw [← hr] at HPG ⊢
  unfold prgV at HPG ⊢
  clear hW hc2 hr
  go_enter Try.func6, Try.ntmps6
  go_wp2_with fail
  rw [← HWS.out]
  have c1 := cells2 HC.out
  have HWD : Hid (Below w.heap.size w W.drew) := HW.out.drew
  have hds : W.drew.heap.size = w.heap.size + 1 := hWs
  clear HWS
  go_region_with (first | (go_at_call 9; refine (rules_any W.drew).mono ?_; rintro e w1 ⟨qc, rfl, hi1, hb1⟩; have HB1 : Hid (Below w.heap.size w w1) := below_after HWD.out hb1; have HI1 : Hid (_) := hi1; have c3 := cells2 ((hb1.block _ (by omega)).trans HC.out); clear hi1 hb1) | (go_at_call 10; refine Calls.mono (HPG.out w1 qc HB1.out HI1.out) ?_; rintro e w2 ⟨rfl, hb2⟩; have HB2 : Hid (Below w.heap.size w w2) := below_after HB1.out hb2; clear hb2 c3))
  all_goals (go_wp2_with fail; go_ret; exact ⟨rfl, HB2.out⟩)

end Go.Proofs.Ytbpbpihboenbeaa
