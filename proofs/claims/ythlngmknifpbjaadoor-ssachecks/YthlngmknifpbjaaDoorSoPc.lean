/-
  Package ir: its rules as a value; CheckCode.
-/
import Derived.Test.YthlngmknifpbjaaDoorJSpA
import Derived.RegionTactic
import Derived.Deep.RegionWith
import Derived.Deep.RegionHeld3
namespace Go.Proofs.YthlngmknifpbjaaDoor
open Go.RowKit Go.Maps
set_option linter.unusedSimpArgs false
set_option linter.unusedVariables false

theorem Blks.up {B B' : Nat} {w : World} {v : Value} {xs : List (List Ins)} (h : Blks B w v xs) (k : B ≤ B') : Blks B' w v xs :=
  Lies.up h k fun _ _ ⟨v, h1, h2⟩ => ⟨v, h1, Lies.up h2 k fun _ _ ⟨vd, va, vt, g1, g2, g3, g4, g5⟩ => ⟨vd, va, vt, g1, Lies.up g2 k fun _ _ h => h, Lies.up g3 k fun _ _ h => h, Lies.up g4 k fun _ _ h => h, g5⟩⟩
theorem Cods.up {B B' : Nat} {w : World} {v : Value} {xs : List Cod} (h : Cods B w v xs) (k : B ≤ B') : Cods B' w v xs :=
  Lies.up h k fun _ _ ⟨vb, h1, h2, h3⟩ => ⟨vb, h1, Blks.up h2 k, h3⟩

theorem rules_any (w : World) (qc : Nat) : Calls Tryd.prog 25 #[] w fun e w' => e = .returned (rulV qc 6000) ∧ Below w.heap.size w w' := by
  have hsf := @store_func Tryd.prog
  have p0 := cells5 (heap_alloc_new w (.cells #[.func (.func 37) #[] #[], .func (.func 38) #[] #[], .func (.func 39) #[] #[], .func (.func 40) #[] #[], .int .i64 6000] 59))
  have HB : Hid (_) := below_alloc w (.cells #[.func (.func 37) #[] #[], .func (.func 38) #[] #[], .func (.func 39) #[] #[], .func (.func 40) #[] #[], .int .i64 6000] 59)
  go_enter Tryd.func25, Tryd.ntmps25
  go_wp2_with fail
  exact bodyPost_ret (v := rulV qc 6000) (by unfold rulV; simp [results, Tryd.results25, go_sem, p0]) rfl ⟨rfl, HB.out⟩

set_option maxHeartbeats 8000000 in
set_option maxRecDepth 20000 in
theorem Code_any (c : Cod) (fs : List Cod) (vf vd vb : Value) (B : Nat) (N : Int) (w : World) (hB : B ≤ w.heap.size) (hI : RInv w B 0) (hfs : Cods B w vf fs) (hvd : ∃ a n k, vd = .slice a n k) (hb : Blks B w vb c.blocks) (hN : N = mostN) :
    Calls Tryd.prog 26 #[rulV 0 N, prgV vf vd, codV c vb] w fun e w' => e = .returned (.int .i64 (codeS fs c)) ∧ Below w.heap.size w w' := by
  obtain ⟨a1, k1, rfl⟩ := Lies.slice hfs
  obtain ⟨a2, n2, k2, rfl⟩ := hvd
  obtain ⟨a3, k3, rfl⟩ := Lies.slice hb
  obtain ⟨r, hr⟩ : ∃ r, r = codeS fs c := ⟨_, rfl⟩
  rw [← hr]
  have HR : Hid (r = _) := hr
  have HFS : Hid (Cods B w (.slice a1 fs.length k1) fs) := hfs
  have HBK : Hid (Blks B w (.slice a3 c.blocks.length k3) c.blocks) := hb
  have HI : Hid (RInv w B 0) := hI
  have HN : Hid (N = mostN) := hN
  have HPG : Hid (∀ (w1 : World) (mp : Nat), Below w.heap.size w w1 → MapAt w1 mp (plD 0 (.map []) fs) → Calls Tryd.prog 42 #[rulV 0 N, prgV (.slice a1 fs.length k1) (.slice a2 n2 k2), .map (some mp), codV c (.slice a3 c.blocks.length k3)] w1 fun e w' => e = .returned (.int .i64 r) ∧ Below w1.heap.size w1 w') := by
    intro w1 mp hb hm
    rw [HR.out]
    exact code_any c fs _ _ _ mp 0 B N w1 ⟨Nat.le_trans hB hb.size, HFS.out.below (hb.mono hB), hm, HI.out.below hB hb⟩ ⟨_, _, _, rfl⟩ (HBK.out.below (hb.mono hB)) HN.out
  obtain ⟨W, hW⟩ : ∃ W, W = ((w.alloc (rulO 0 N)).alloc (.cells #[.slice a1 fs.length k1, .slice a2 n2 k2] 25)).alloc (.cells #[.string ⟨c.name.toArray⟩, .int .i64 c.params, .int .i64 c.results, .int .i64 c.vars, .int .i64 c.slots, .slice a3 c.blocks.length k3] 28) := ⟨_, rfl⟩
  have HW : Hid (Below w.heap.size w W) := by rw [hW]; exact below_after (below_after (below_alloc _ _) (below_alloc _ _)) (below_alloc _ _)
  have hWs : W.heap.size = w.heap.size + 3 := by rw [hW]; simp
  obtain ⟨d0, d1, d2⟩ := SoLalloc3 w (rulO 0 N) (.cells #[.slice a1 fs.length k1, .slice a2 n2 k2] 25) (.cells #[.string ⟨c.name.toArray⟩, .int .i64 c.params, .int .i64 c.results, .int .i64 c.vars, .int .i64 c.slots, .slice a3 c.blocks.length k3] 28)
  rw [← hW] at d0 d1 d2
  have HC0 : Hid (_) := d0
  have HC1 : Hid (_) := d1
  have HC2 : Hid (_) := d2
  have HWS : Hid (W = _) := hW
  unfold rulO at HWS HC0
  clear hfs hb hr hW hI hN d0 d1 d2
  unfold prgV codV rulV at HPG ⊢
  go_enter Tryd.func26, Tryd.ntmps26
  go_wp2_with fail
  rw [← HWS.out]
  have HCL : Hid (∀ w', Below W.heap.size W w' → (w'.cell? ⟨w.heap.size, 0, none⟩ = some (.func (.func 37) #[] #[]) ∧ w'.cell? ⟨w.heap.size, 1, none⟩ = some (.func (.func 38) #[] #[]) ∧ w'.cell? ⟨w.heap.size, 2, none⟩ = some (.func (.func 39) #[] #[]) ∧ w'.cell? ⟨w.heap.size, 3, none⟩ = some (.func (.func 40) #[] #[]) ∧ w'.cell? ⟨w.heap.size, 4, none⟩ = some (.int .i64 N)) ∧ (w'.cell? ⟨w.heap.size + 1, 0, none⟩ = some (.slice a1 fs.length k1) ∧ w'.cell? ⟨w.heap.size + 1, 1, none⟩ = some (.slice a2 n2 k2)) ∧ (w'.cell? ⟨w.heap.size + 2, 0, none⟩ = some (.string ⟨c.name.toArray⟩) ∧ w'.cell? ⟨w.heap.size + 2, 1, none⟩ = some (.int .i64 c.params) ∧ w'.cell? ⟨w.heap.size + 2, 2, none⟩ = some (.int .i64 c.results) ∧ w'.cell? ⟨w.heap.size + 2, 3, none⟩ = some (.int .i64 c.vars) ∧ w'.cell? ⟨w.heap.size + 2, 4, none⟩ = some (.int .i64 c.slots) ∧ w'.cell? ⟨w.heap.size + 2, 5, none⟩ = some (.slice a3 c.blocks.length k3))) := by
    intro w' hb'
    exact ⟨cells5 ((hb'.block _ (by omega)).trans HC0.out), cells2 ((hb'.block _ (by omega)).trans HC1.out), cells6 ((hb'.block _ (by omega)).trans HC2.out)⟩
  have hcw := HCL.out W (Below.refl _ _)
  have HWD : Hid (Below w.heap.size w W.drew) := HW.out.drew
  have HDD : Hid (Below W.heap.size W W.drew) := (Below.refl _ _).drew
  have hcd := HCL.out W.drew HDD.out
  have hds : W.drew.heap.size = w.heap.size + 3 := hWs
  go_region_held3 (fun w' => (w'.cell? ⟨w.heap.size, 0, none⟩ = some (.func (.func 37) #[] #[]) ∧ w'.cell? ⟨w.heap.size, 1, none⟩ = some (.func (.func 38) #[] #[]) ∧ w'.cell? ⟨w.heap.size, 2, none⟩ = some (.func (.func 39) #[] #[]) ∧ w'.cell? ⟨w.heap.size, 3, none⟩ = some (.func (.func 40) #[] #[]) ∧ w'.cell? ⟨w.heap.size, 4, none⟩ = some (.int .i64 N)) ∧ (w'.cell? ⟨w.heap.size + 1, 0, none⟩ = some (.slice a1 fs.length k1) ∧ w'.cell? ⟨w.heap.size + 1, 1, none⟩ = some (.slice a2 n2 k2)) ∧ (w'.cell? ⟨w.heap.size + 2, 0, none⟩ = some (.string ⟨c.name.toArray⟩) ∧ w'.cell? ⟨w.heap.size + 2, 1, none⟩ = some (.int .i64 c.params) ∧ w'.cell? ⟨w.heap.size + 2, 2, none⟩ = some (.int .i64 c.results) ∧ w'.cell? ⟨w.heap.size + 2, 3, none⟩ = some (.int .i64 c.vars) ∧ w'.cell? ⟨w.heap.size + 2, 4, none⟩ = some (.int .i64 c.slots) ∧ w'.cell? ⟨w.heap.size + 2, 5, none⟩ = some (.slice a3 c.blocks.length k3))) (first | exact hcd | exact hc5 | exact hc6)
    (first | (go_at_call 43; refine (placesOf_any W.drew B _ fs (HFS.out.below (HWD.out.mono hB)) (by omega)).mono ?_; rintro e w1 ⟨rfl, hm1, hb1⟩; rw [hds] at hm1; have HM1 : Hid (_) := hm1; have HB1 : Hid (Below w.heap.size w w1) := below_after HWD.out hb1; have HV1 : Hid (Below W.heap.size W w1) := below_after HDD.out hb1; have hc5 := HCL.out w1 HV1.out; clear hm1 hb1) | (go_at_call 42; refine Calls.mono (HPG.out w1 (w.heap.size + 3) HB1.out HM1.out) ?_; rintro e w2 ⟨rfl, hb2⟩; have HB2 : Hid (Below w.heap.size w w2) := below_after HB1.out hb2; have hc6 := HCL.out w2 (below_after HV1.out hb2); clear hb2))
  all_goals (go_wp2_with fail; go_ret; exact ⟨rfl, HB2.out⟩)

set_option maxHeartbeats 8000000 in
set_option maxRecDepth 20000 in
theorem CheckCode_any (c : Cod) (fs : List Cod) (vf vd vb : Value) (B : Nat) (w : World) (hB : B ≤ w.heap.size) (hG : 0 < B) (hT : TabC w) (hfs : Cods B w vf fs) (hvd : ∃ a n k, vd = .slice a n k) (hb : Blks B w vb c.blocks) :
    Calls Tryd.prog 14 #[prgV vf vd, codV c vb] w fun e w' => e = .returned (.int .i64 (codeS fs c)) ∧ Below w.heap.size w w' := by
  obtain ⟨a1, k1, rfl⟩ := Lies.slice hfs
  obtain ⟨a2, n2, k2, rfl⟩ := hvd
  obtain ⟨a3, k3, rfl⟩ := Lies.slice hb
  obtain ⟨r, hr⟩ : ∃ r, r = codeS fs c := ⟨_, rfl⟩
  rw [← hr]
  have HR : Hid (r = _) := hr
  have HFS : Hid (Cods B w (.slice a1 fs.length k1) fs) := hfs
  have HBK : Hid (Blks B w (.slice a3 c.blocks.length k3) c.blocks) := hb
  have HI : Hid (RInv w B 0) := ⟨hT, hG⟩
  have HPG : Hid (∀ (w1 : World), Below w.heap.size w w1 → Calls Tryd.prog 26 #[rulV 0 6000, prgV (.slice a1 fs.length k1) (.slice a2 n2 k2), codV c (.slice a3 c.blocks.length k3)] w1 fun e w' => e = .returned (.int .i64 r) ∧ Below w1.heap.size w1 w') := by
    intro w1 hb
    rw [HR.out]
    exact Code_any c fs _ _ _ B 6000 w1 (Nat.le_trans hB hb.size) (HI.out.below hB hb) (HFS.out.below (hb.mono hB)) ⟨_, _, _, rfl⟩ (HBK.out.below (hb.mono hB)) rfl
  obtain ⟨W, hW⟩ : ∃ W, W = (w.alloc (.cells #[.slice a1 fs.length k1, .slice a2 n2 k2] 25)).alloc (.cells #[.string ⟨c.name.toArray⟩, .int .i64 c.params, .int .i64 c.results, .int .i64 c.vars, .int .i64 c.slots, .slice a3 c.blocks.length k3] 28) := ⟨_, rfl⟩
  have HW : Hid (Below w.heap.size w W) := by rw [hW]; exact below_after (below_alloc _ _) (below_alloc _ _)
  have hWs : W.heap.size = w.heap.size + 2 := by rw [hW]; simp
  have HC1 : Hid (W.heap[w.heap.size]? = some (.cells #[.slice a1 fs.length k1, .slice a2 n2 k2] 25)) := by rw [hW]; exact (heap_alloc2 w _ _).1
  have HC2 : Hid (W.heap[w.heap.size + 1]? = some (.cells #[.string ⟨c.name.toArray⟩, .int .i64 c.params, .int .i64 c.results, .int .i64 c.vars, .int .i64 c.slots, .slice a3 c.blocks.length k3] 28)) := by rw [hW]; exact (heap_alloc2 w _ _).2
  have HWS : Hid (W = _) := hW
  clear hfs hb hr hW hT
  unfold prgV codV at HPG ⊢
  go_enter Tryd.func14, Tryd.ntmps14
  go_wp2_with fail
  rw [← HWS.out]
  have c1 := cells2 HC1.out
  have c2 := cells6 HC2.out
  have HWD : Hid (Below w.heap.size w W.drew) := HW.out.drew
  have hds : W.drew.heap.size = w.heap.size + 2 := hWs
  go_region_with (first | (go_at_call 25; refine (rules_any W.drew 0).mono ?_; rintro e w1 ⟨rfl, hb1⟩; have HB1 : Hid (Below w.heap.size w w1) := below_after HWD.out hb1; have hs1 := hb1.size; have c4 := cells2 ((hb1.block _ (by omega)).trans HC1.out); have c5 := cells6 ((hb1.block _ (by omega)).trans HC2.out); clear hb1) | (go_at_call 26; refine Calls.mono (HPG.out w1 HB1.out) ?_; rintro e w2 ⟨rfl, hb2⟩; have HB2 : Hid (Below w.heap.size w w2) := below_after HB1.out hb2; clear hb2 c4 c5))
  all_goals (go_wp2_with fail; go_ret; exact ⟨rfl, HB2.out⟩)

end Go.Proofs.YthlngmknifpbjaaDoor
