/-
  posternkeep.Code.
-/
import Derived.Test.YtjdedfgdofceeaaSxD
import Derived.BigQuiet
import Derived.Deep.RegionHeldLaw
import Derived.Deep.AppendLies
import Derived.Deep.RegionLaw
namespace Go.Proofs.Ytjdedfgdofceeaa
open Go.RowKit
set_option linter.unusedSimpArgs false
set_option linter.unusedVariables false

/-- what Code answers -/
def CodeSaid (w : World) (e : Ending) (w' : World) : Prop := ∃ (gf kd : Nat) (ad : Option Addr) (vb : Value) (bs : List (List Ins)), e = .returned (prgV (.slice (some ⟨gf, 0, none⟩) 2 2) (.slice ad 3 kd)) ∧
      (∀ (j : Nat) (u : Value), [Value.string { data := #[109, 97, 105, 110] }, .int .i64 0, .int .i64 0, .int .i64 5, .int .i64 0, vb][j]? = some u → w'.cell? ⟨gf, j, none⟩ = some u) ∧ Blks w'.heap.size w' vb bs ∧ 1 ≤ bs.length ∧ bs.length ≤ 7 ∧ Below w.heap.size w w'

set_option maxHeartbeats 400000000 in
set_option maxRecDepth 20000 in
theorem Code_any (rs : List (Int × Int × Int × Int)) (a : Option Addr) (n k B : Nat) (w : World) (hB : B ≤ w.heap.size) (hn : n = rs.length) (hl : Raws B w (.slice a n k) rs) (hnk : n ≤ k) (hk : k ≤ maxLen) :
    Calls Try.prog 11 #[.slice a n k] w fun e w' => CodeSaid w e w' := by
  obtain ⟨m, hm0⟩ : ∃ m, m = min n 60 := ⟨_, rfl⟩
  have hm : (if (60 : Int) < (n : Int) then (60 : Int) else (n : Int)) = (m : Int) := by split <;> omega
  have hm60 : m ≤ 60 := by omega
  have hmk : m ≤ k := by omega
  have hmn : m ≤ n := by omega
  obtain ⟨q, hq0⟩ : ∃ q, q = min (m / 4) 6 := ⟨_, rfl⟩
  have hq : (if (6 : Int) < (m : Int) / 4 then (6 : Int) else (m : Int) / 4) = (q : Int) := by split <;> omega
  have hq6 : q ≤ 6 := by omega
  have hmB : max (min (n : Int) 60) 0 = (m : Int) := by omega
  have hmC : min (n : Int) 60 = (m : Int) := by omega
  have hqB : min ((m : Int) / 4) 6 = (q : Int) := by omega
  have HL : Hid (Raws B w (.slice a n k) rs) := hl
  have HN : Hid (n = rs.length) := hn
  unfold maxLen at hk
  obtain ⟨W0, hW0⟩ : ∃ W0, W0 = (((((((((((w.alloc (Obj.cells #[Value.slice none 0 0, Value.slice none 0 0] 33)).alloc (Obj.cells #[Value.int IntKind.i64 (1 + (q : Int))] 3)).alloc (Obj.cells #[Value.int IntKind.i64 7, Value.int IntKind.i64 8, Value.int IntKind.i64 9] 3)).alloc (Obj.cells #[Value.slice none 0 0, Value.slice (some { block := w.heap.size + 1 + 1, off := 0 }) 3 3] 33)).alloc (Obj.cells #[Value.string { data := #[109, 97, 105, 110] }, Value.int IntKind.i64 0, Value.int IntKind.i64 0, Value.int IntKind.i64 5, Value.int IntKind.i64 0, Value.slice none 0 0] 24)).alloc (Obj.cells #[Value.int IntKind.i64 2] 3)).alloc (Obj.cells #[Value.int IntKind.i64 0, Value.int IntKind.i64 1] 3)).alloc (Obj.cells #[Value.int IntKind.i64 2] 3)).alloc (Obj.cells #[Value.int IntKind.i64 3, Value.slice (some { block := w.heap.size + 1 + 1 + 1 + 1 + 1, off := 0 }) 1 1, Value.slice (some { block := w.heap.size + 1 + 1 + 1 + 1 + 1 + 1, off := 0 }) 2 2, Value.int IntKind.i64 0, Value.string { data := #[45] }, Value.slice none 0 0, Value.int IntKind.i64 12, Value.slice none 0 0, Value.slice (some { block := w.heap.size + 1 + 1 + 1 + 1 + 1 + 1 + 1, off := 0 }) 1 1, Value.int IntKind.i64 0, Value.string { data := #[] }, Value.slice none 0 0] 42)).alloc (Obj.cells #[Value.slice (some { block := w.heap.size + 1 + 1 + 1 + 1 + 1 + 1 + 1 + 1, off := 0 }) 2 2] 40)).alloc (Obj.cells #[Value.string { data := #[103] }, Value.int IntKind.i64 2, Value.int IntKind.i64 1, Value.int IntKind.i64 3, Value.int IntKind.i64 0, Value.slice (some { block := w.heap.size + 1 + 1 + 1 + 1 + 1 + 1 + 1 + 1 + 1, off := 0 }) 1 1] 24)) := ⟨_, rfl⟩
  have hal := allocs_below [Obj.cells #[Value.slice none 0 0, Value.slice none 0 0] 33, Obj.cells #[Value.int IntKind.i64 (1 + (q : Int))] 3, Obj.cells #[Value.int IntKind.i64 7, Value.int IntKind.i64 8, Value.int IntKind.i64 9] 3, Obj.cells #[Value.slice none 0 0, Value.slice (some { block := w.heap.size + 1 + 1, off := 0 }) 3 3] 33, Obj.cells #[Value.string { data := #[109, 97, 105, 110] }, Value.int IntKind.i64 0, Value.int IntKind.i64 0, Value.int IntKind.i64 5, Value.int IntKind.i64 0, Value.slice none 0 0] 24, Obj.cells #[Value.int IntKind.i64 2] 3, Obj.cells #[Value.int IntKind.i64 0, Value.int IntKind.i64 1] 3, Obj.cells #[Value.int IntKind.i64 2] 3, Obj.cells #[Value.int IntKind.i64 3, Value.slice (some { block := w.heap.size + 1 + 1 + 1 + 1 + 1, off := 0 }) 1 1, Value.slice (some { block := w.heap.size + 1 + 1 + 1 + 1 + 1 + 1, off := 0 }) 2 2, Value.int IntKind.i64 0, Value.string { data := #[45] }, Value.slice none 0 0, Value.int IntKind.i64 12, Value.slice none 0 0, Value.slice (some { block := w.heap.size + 1 + 1 + 1 + 1 + 1 + 1 + 1, off := 0 }) 1 1, Value.int IntKind.i64 0, Value.string { data := #[] }, Value.slice none 0 0] 42, Obj.cells #[Value.slice (some { block := w.heap.size + 1 + 1 + 1 + 1 + 1 + 1 + 1 + 1, off := 0 }) 2 2] 40, Obj.cells #[Value.string { data := #[103] }, Value.int IntKind.i64 2, Value.int IntKind.i64 1, Value.int IntKind.i64 3, Value.int IntKind.i64 0, Value.slice (some { block := w.heap.size + 1 + 1 + 1 + 1 + 1 + 1 + 1 + 1 + 1, off := 0 }) 1 1] 24] w
  have hat := allocs_at [Obj.cells #[Value.slice none 0 0, Value.slice none 0 0] 33, Obj.cells #[Value.int IntKind.i64 (1 + (q : Int))] 3, Obj.cells #[Value.int IntKind.i64 7, Value.int IntKind.i64 8, Value.int IntKind.i64 9] 3, Obj.cells #[Value.slice none 0 0, Value.slice (some { block := w.heap.size + 1 + 1, off := 0 }) 3 3] 33, Obj.cells #[Value.string { data := #[109, 97, 105, 110] }, Value.int IntKind.i64 0, Value.int IntKind.i64 0, Value.int IntKind.i64 5, Value.int IntKind.i64 0, Value.slice none 0 0] 24, Obj.cells #[Value.int IntKind.i64 2] 3, Obj.cells #[Value.int IntKind.i64 0, Value.int IntKind.i64 1] 3, Obj.cells #[Value.int IntKind.i64 2] 3, Obj.cells #[Value.int IntKind.i64 3, Value.slice (some { block := w.heap.size + 1 + 1 + 1 + 1 + 1, off := 0 }) 1 1, Value.slice (some { block := w.heap.size + 1 + 1 + 1 + 1 + 1 + 1, off := 0 }) 2 2, Value.int IntKind.i64 0, Value.string { data := #[45] }, Value.slice none 0 0, Value.int IntKind.i64 12, Value.slice none 0 0, Value.slice (some { block := w.heap.size + 1 + 1 + 1 + 1 + 1 + 1 + 1, off := 0 }) 1 1, Value.int IntKind.i64 0, Value.string { data := #[] }, Value.slice none 0 0] 42, Obj.cells #[Value.slice (some { block := w.heap.size + 1 + 1 + 1 + 1 + 1 + 1 + 1 + 1, off := 0 }) 2 2] 40, Obj.cells #[Value.string { data := #[103] }, Value.int IntKind.i64 2, Value.int IntKind.i64 1, Value.int IntKind.i64 3, Value.int IntKind.i64 0, Value.slice (some { block := w.heap.size + 1 + 1 + 1 + 1 + 1 + 1 + 1 + 1 + 1, off := 0 }) 1 1] 24] w
  have e0 : List.foldl World.alloc w [Obj.cells #[Value.slice none 0 0, Value.slice none 0 0] 33, Obj.cells #[Value.int IntKind.i64 (1 + (q : Int))] 3, Obj.cells #[Value.int IntKind.i64 7, Value.int IntKind.i64 8, Value.int IntKind.i64 9] 3, Obj.cells #[Value.slice none 0 0, Value.slice (some { block := w.heap.size + 1 + 1, off := 0 }) 3 3] 33, Obj.cells #[Value.string { data := #[109, 97, 105, 110] }, Value.int IntKind.i64 0, Value.int IntKind.i64 0, Value.int IntKind.i64 5, Value.int IntKind.i64 0, Value.slice none 0 0] 24, Obj.cells #[Value.int IntKind.i64 2] 3, Obj.cells #[Value.int IntKind.i64 0, Value.int IntKind.i64 1] 3, Obj.cells #[Value.int IntKind.i64 2] 3, Obj.cells #[Value.int IntKind.i64 3, Value.slice (some { block := w.heap.size + 1 + 1 + 1 + 1 + 1, off := 0 }) 1 1, Value.slice (some { block := w.heap.size + 1 + 1 + 1 + 1 + 1 + 1, off := 0 }) 2 2, Value.int IntKind.i64 0, Value.string { data := #[45] }, Value.slice none 0 0, Value.int IntKind.i64 12, Value.slice none 0 0, Value.slice (some { block := w.heap.size + 1 + 1 + 1 + 1 + 1 + 1 + 1, off := 0 }) 1 1, Value.int IntKind.i64 0, Value.string { data := #[] }, Value.slice none 0 0] 42, Obj.cells #[Value.slice (some { block := w.heap.size + 1 + 1 + 1 + 1 + 1 + 1 + 1 + 1, off := 0 }) 2 2] 40, Obj.cells #[Value.string { data := #[103] }, Value.int IntKind.i64 2, Value.int IntKind.i64 1, Value.int IntKind.i64 3, Value.int IntKind.i64 0, Value.slice (some { block := w.heap.size + 1 + 1 + 1 + 1 + 1 + 1 + 1 + 1 + 1, off := 0 }) 1 1] 24] = W0 := hW0.symm
  rw [e0] at hal hat
  have HAT : Hid (_) := hat
  have HAL : Hid (Below w.heap.size w W0 ∧ W0.heap.size = w.heap.size + 11) := hal
  have HWS : Hid (W0 = _) := hW0
  clear hl hn hm0 hq0 hW0 hal hat e0
  go_enter Try.func11, Try.ntmps11
  go_wp2_with fail
  rw [← HWS.out]
  clear HWS
  obtain ⟨G, hG⟩ : ∃ G, G = w.heap.size + 1 + 1 + 1 + 1 + 1 + 1 + 1 + 1 + 1 + 1 := ⟨_, rfl⟩
  obtain ⟨C, hC⟩ : ∃ C, C = w.heap.size + 1 + 1 + 1 + 1 := ⟨_, rfl⟩
  obtain ⟨P, hP⟩ : ∃ P, P = w.heap.size + 1 + 1 + 1 := ⟨_, rfl⟩
  obtain ⟨M, hM⟩ : ∃ M, M = w.heap.size + 1 := ⟨_, rfl⟩
  have HAD : Hid (M = w.heap.size + 1 ∧ P = w.heap.size + 3 ∧ C = w.heap.size + 4 ∧ G = w.heap.size + 10) := ⟨hM, hP, hC, hG⟩
  rw [← hG, ← hC, ← hP, ← hM]
  have hHM : W0.heap[M]? = some (Obj.cells #[Value.int IntKind.i64 (1 + (q : Int))] 3) := by rw [hM]; exact HAT.out 1 (by simp)
  have HHM : Hid (_) := hHM
  have HCI0 : Hid (CInv C W0 0 W0) := ⟨FrC.refl _ _, .slice none 0 0, [], by rw [hC]; exact HAT.out 4 (by simp), OwnL.nil _ _ _ _ _, rfl⟩
  clear hG hC hP hM hHM
  go_loopg [43] (q + 1) (fun g s43 wr => ∃ b : Nat, s43 = .int .i64 (b : Nat) ∧ b + g = q + 1 ∧ Hid (CInv C W0 b wr))
  case atStart => exact ⟨0, rfl, by omega, HCI0⟩
  case round =>
    clear HCI0
    obtain ⟨b, rfl, hb, HCI⟩ := hrel
    cases gk with
    | zero =>
      have hlt : ¬ (b : Int) < 1 + (q : Int) := by omega
      obtain ⟨vb, bs, hc, ho, hbl⟩ := HCI.out.row
      obtain ⟨avb, kvb, rfl⟩ := ho.slice
      have HO : Hid (OwnL 1 40 PB (fun g => W0.heap.size ≤ g) wr (.slice avb bs.length kvb) bs) := ho
      have HBL : Hid (bs.length = b) := hbl
      have hfr := HCI.out.fr
      have hsz := hfr.size
      have hadd := HAD.out
      have hall := HAL.out
      have hG : wr.heap[G]? = some (Obj.cells #[Value.string { data := #[103] }, Value.int IntKind.i64 2, Value.int IntKind.i64 1, Value.int IntKind.i64 3, Value.int IntKind.i64 0, Value.slice (some { block := w.heap.size + 1 + 1 + 1 + 1 + 1 + 1 + 1 + 1 + 1, off := 0 }) 1 1] 24) := (hfr.block G (by omega) (by omega)).trans (by rw [hadd.2.2.2]; exact HAT.out 10 (by simp))
      have hP : wr.heap[P]? = some (Obj.cells #[Value.slice none 0 0, Value.slice (some { block := w.heap.size + 1 + 1, off := 0 }) 3 3] 33) := (hfr.block P (by omega) (by omega)).trans (by rw [hadd.2.1]; exact HAT.out 3 (by simp))
      have hR : wr.heap[w.heap.size]? = some (Obj.cells #[Value.slice none 0 0, Value.slice none 0 0] 33) := (hfr.block w.heap.size (by omega) (by omega)).trans (HAT.out 0 (by simp))
      have pc := cells6 hc
      have pg := cells6 hG
      have pp := cells2 hP
      have pr := cells2 hR
      have HHC : Hid (_) := hc
      have HHR : Hid (_) := hR
      have HHP : Hid (_) := hP
      have hPR : P ≠ w.heap.size := by omega
      have hPl : P < wr.heap.size := by omega
      have hRl : w.heap.size < wr.heap.size := by omega
      have fp0 : wr.frozen? ⟨P, 0, none⟩ = false := by simp [World.frozen?, hP]
      have fr0 : wr.frozen? ⟨w.heap.size, 0, none⟩ = false := by simp [World.frozen?, hR]
      have fr1 : wr.frozen? ⟨w.heap.size, 1, none⟩ = false := by simp [World.frozen?, hR]
      obtain ⟨V, hV⟩ : ∃ V, V = ((wr.setCell ⟨P, 0, none⟩ (Value.slice (some ⟨wr.heap.size, 0, none⟩) 2 2)).setCell ⟨w.heap.size, 0, none⟩ (Value.slice (some ⟨wr.heap.size, 0, none⟩) 2 2)).setCell ⟨w.heap.size, 1, none⟩ (Value.slice (some ⟨w.heap.size + 1 + 1, 0, none⟩) 3 3) := ⟨_, rfl⟩
      have hVs : V.heap.size = wr.heap.size := by rw [hV]; simp [World.setCell]
      have hVk : ∀ j, j ≠ P → j ≠ w.heap.size → V.heap[j]? = wr.heap[j]? := fun j h1 h2 => by
        rw [hV]
        exact (Below.heap_setCell _ _ _ _ (by show j ≠ w.heap.size; exact h2)).trans ((Below.heap_setCell _ _ _ _ (by show j ≠ w.heap.size; exact h2)).trans (Below.heap_setCell _ _ _ _ (by show j ≠ P; exact h1)))
      have hVR : V.heap[w.heap.size]? = some (Obj.cells #[Value.slice (some ⟨wr.heap.size, 0, none⟩) 2 2, Value.slice (some ⟨w.heap.size + 1 + 1, 0, none⟩) 3 3] 33) := by
        have h1 : (wr.setCell ⟨P, 0, none⟩ (Value.slice (some ⟨wr.heap.size, 0, none⟩) 2 2)).heap[w.heap.size]? = some (Obj.cells #[Value.slice none 0 0, Value.slice none 0 0] 33) := (Below.heap_setCell _ _ _ _ (by show w.heap.size ≠ P; omega)).trans hR
        rw [hV, heap_setCell_same (heap_setCell_same h1 _) _]
        simp
      have hVo : V.os = wr.os ∧ V.tape = wr.tape ∧ V.output = wr.output := by rw [hV]; exact ⟨rfl, rfl, rfl⟩
      have HVS : Hid (V = _) := hV
      have HV : Hid (V.heap.size = wr.heap.size ∧ (∀ j, j ≠ P → j ≠ w.heap.size → V.heap[j]? = wr.heap[j]?) ∧ V.os = wr.os ∧ V.tape = wr.tape ∧ V.output = wr.output) := ⟨hVs, hVk, hVo⟩
      have HVR : Hid (_) := hVR
      clear ho hbl hc hG hP hR hadd hall hV hVs hVk hVR hVo
      go_wp2_with fail
      rw [← HVS.out]
      clear pc pg pp pr fp0 fr0 fr1
      have hv := HV.out
      obtain ⟨X, hX⟩ : ∃ X, X = Obj.cells #[Value.string { data := #[109, 97, 105, 110] }, Value.int IntKind.i64 0, Value.int IntKind.i64 0, Value.int IntKind.i64 5, Value.int IntKind.i64 0, Value.slice avb bs.length kvb, Value.string { data := #[103] }, Value.int IntKind.i64 2, Value.int IntKind.i64 1, Value.int IntKind.i64 3, Value.int IntKind.i64 0, Value.slice (some { block := w.heap.size + 1 + 1 + 1 + 1 + 1 + 1 + 1 + 1 + 1, off := 0 }) 1 1] 24 := ⟨_, rfl⟩
      rw [← hX]
      have hgf : (V.alloc X).heap[wr.heap.size]? = some X := by rw [← hv.1]; exact heap_alloc_new V X
      have hba : Below V.heap.size V (V.alloc X) := below_alloc _ _
      have hadd := HAD.out
      have hall := HAL.out
      obtain ⟨r0, r1⟩ := cells2 ((hba.block _ (by omega)).trans HVR.out)
      refine bodyPost_ret (v := prgV (.slice (some ⟨wr.heap.size, 0, none⟩) 2 2) (.slice (some ⟨w.heap.size + 1 + 1, 0, none⟩) 3 3)) (by unfold prgV; simp [results, Try.results11, go_sem, r0, r1]) rfl ⟨_, _, _, .slice avb bs.length kvb, bs, rfl, fun j u hj => ?_, ?_, ?_, ?_, ?_⟩
      · rw [hX] at hgf ⊢
        have hj6 : j < 6 := by have := (List.getElem?_eq_some_iff.1 hj).1; simpa using this
        have h9 : j = 0 ∨ j = 1 ∨ j = 2 ∨ j = 3 ∨ j = 4 ∨ j = 5 := by omega
        simp only [World.cell?, hgf]
        rcases h9 with rfl | rfl | rfl | rfl | rfl | rfl <;> simp at hj ⊢ <;> exact hj
      · refine blks_of (S := fun _ => True) (OwnL.move PB.moves HO.out (by simp; omega) fun g hg hlt => ⟨trivial, (hba.block g (by omega)).trans (hv.2.1 g (by omega) (by omega))⟩)
      · have := HBL.out; omega
      · have := HBL.out; omega
      · refine ⟨hv.2.2.1.trans (hfr.os.trans hall.1.os), hv.2.2.2.1.trans (hfr.tape.trans hall.1.tape), hv.2.2.2.2.trans (hfr.output.trans hall.1.output), by simp; omega, fun j hj => ?_⟩
        exact (hba.block j (by omega)).trans ((hv.2.1 j (by omega) (by omega)).trans ((hfr.block j (by omega) (by omega)).trans (hall.1.block j hj)))
    | succ g =>
      have hlt : (b : Int) < 1 + (q : Int) := by omega
      have hbq : b ≤ q := by omega
      have pM : wr.cell? ⟨M, 0, none⟩ = some (.int .i64 (1 + (q : Int))) := by
        have h1 : wr.heap[M]? = _ := (HCI.out.fr.block M (by have := HAD.out; have := HAL.out; omega) (by have := HAD.out; omega)).trans HHM.out
        simp [World.cell?, h1]
      have hlo : ∃ lo hi : Nat, lo ≤ hi ∧ hi ≤ m ∧ Int.tdiv ((b : Int) * (m : Int)) (1 + (q : Int)) = (lo : Int) ∧ Int.tdiv (((b : Int) + 1) * (m : Int)) (1 + (q : Int)) = (hi : Int) := by
        refine ⟨b * m / (q + 1), (b + 1) * m / (q + 1), Nat.div_le_div_right (Nat.mul_le_mul_right _ (by omega)), Nat.div_le_of_le_mul (Nat.mul_le_mul_right _ (by omega)), ?_, ?_⟩
        · have e1 : (b : Int) * (m : Int) = ((b * m : Nat) : Int) := by simp
          have e2 : 1 + (q : Int) = ((q + 1 : Nat) : Int) := by simp; omega
          rw [e1, e2, Int.tdiv_eq_ediv_of_nonneg (by omega)]; rfl
        · have e1 : ((b : Int) + 1) * (m : Int) = (((b + 1) * m : Nat) : Int) := by simp
          have e2 : 1 + (q : Int) = ((q + 1 : Nat) : Int) := by simp; omega
          rw [e1, e2, Int.tdiv_eq_ediv_of_nonneg (by omega)]; rfl
      obtain ⟨lo, hi, h1, h2, h3, h4⟩ := hlo
      have hq1 : ¬ (1 + (q : Int) = 0) := by omega
      have hq1b : ((1 + (q : Int)) == 0) = false := beq_eq_false_iff_ne.2 hq1
      have hmul1 : wrap64 ((b : Int) * (m : Int)) = (b : Int) * (m : Int) := by
        have h5 : (b : Int) * (m : Int) ≤ 6 * 60 := Int.mul_le_mul (by omega) (by omega) (by omega) (by omega)
        have h6 : 0 ≤ (b : Int) * (m : Int) := Int.mul_nonneg (by omega) (by omega)
        unfold wrap64; omega
      have hmul2 : wrap64 (((b : Int) + 1) * (m : Int)) = ((b : Int) + 1) * (m : Int) := by
        have h5 : ((b : Int) + 1) * (m : Int) ≤ 7 * 60 := Int.mul_le_mul (by omega) (by omega) (by omega) (by omega)
        have h6 : 0 ≤ ((b : Int) + 1) * (m : Int) := Int.mul_nonneg (by omega) (by omega)
        unfold wrap64; omega
      have hcd : wr.drew.cell? ⟨M, 0, none⟩ = some (.int .i64 (1 + (q : Int))) := pM
      go_wp2_with fail
      go_quiet (fail)
      obtain ⟨a', ha'⟩ : ∃ a', a' = (if k = lo then a else Option.map (fun x => x.add (lo * 4)) a) := ⟨_, rfl⟩
      have HMI : Hid (Raws B w (.slice a' (hi - lo) (k - lo)) ((rs.drop lo).take (hi - lo))) := by rw [ha']; exact raws_cut HL.out HN.out h1 h2 hmn hmk
      rw [← ha']
      obtain ⟨wz, hwz⟩ : ∃ wz, wz = wr.drewN nq := ⟨_, rfl⟩
      have HCZ : Hid (CInv C W0 b wz) := by rw [hwz]; exact HCI.out.draw nq
      rw [← hwz]
      obtain ⟨L, hL⟩ : ∃ L, L = hi - lo := ⟨_, rfl⟩
      have hL60 : L ≤ 60 := by omega
      rw [← hL] at HMI ⊢
      clear hwz ha' h3 h4 hmul1 hmul2 hcd pM hq1 hq1b hL h1 h2
      go_wp2_with fail
      go_loopg [63, 9] L (fun g s63 s9 wr => ∃ (j : Nat) (ob : List Ins), s63 = .int .i64 (j : Nat) ∧ j + g = L ∧ Hid (Below wz.heap.size wz wr) ∧ Hid (OwnL 6 42 PIn (fun g => wz.heap.size ≤ g) wr s9 ob) ∧ ob.length = j)
      case atStart => exact ⟨0, [], rfl, by omega, Below.refl _ _, OwnL.nil _ _ _ _ _, rfl⟩
      case round =>
        obtain ⟨j, ob, rfl, hj, HBX, HOB, hoj⟩ := hrel
        obtain ⟨ao, ko, rfl⟩ := OwnL.slice HOB.out
        cases gk with
        | zero =>
          have hltj : ¬ (j : Int) < (L : Int) := by omega
          obtain rfl : L = j := by omega
          have pMr : wr.cell? ⟨M, 0, none⟩ = some (.int .i64 (1 + (q : Int))) := by
            have h5 := HAD.out
            have h6 := HAL.out
            have h7 := HCZ.out.fr
            have h8 : wr.heap[M]? = _ := (HBX.out.block M (by have := h7.size; omega)).trans ((h7.block M (by omega) (by omega)).trans HHM.out)
            simp [World.cell?, h8]
          have HPM : Hid (_) := pMr
          clear hm hq hmB hmC hqB
          have hbw : Below w.heap.size w wr := by
            have h5 := HCZ.out.fr
            have h6 := HAL.out
            have h7 := HAD.out
            have h8 : Below w.heap.size w wz := ⟨h5.os.trans h6.1.os, h5.tape.trans h6.1.tape, h5.output.trans h6.1.output, by have := h5.size; omega, fun i hi => (h5.block i (by omega) (by omega)).trans (h6.1.block i hi)⟩
            exact h8.trans (HBX.out.mono h8.size)
          have HBW : Hid (_) := hbw
          have hCl : C < W0.heap.size := by have := HAD.out; have := HAL.out; omega
          clear hbw
          go_upto_region 38 with fail
          rw [hoj] at HOB ⊢
          refine tail_any (B := B) (w := w) (ob := ob) (rs := (rs.drop lo).take L) hq6 (by omega) hL60 hCl (Nat.le_trans hB HBW.out.size) HCZ.out HBX.out HOB.out hoj (Lies.below HMI.out (HBW.out.mono hB) (fun _ _ h => h)) HPM.out ?_ (by assumption)
          intro t17 t18 t19 t162 t163 t164 t165 t166 t167 t168 t169 t170 t171 t172 t173 t174 t175 t176 t177 t178 t179 t180 t181 t182 t183 t184 t185 t186 t187 t188 t189 t190 t191 t192 t193 t194 t195 t196 t197 t198 t199 t200 t201 t202 t203 t204 t205 t206 t207 t208 t209 t210 t211 t212 t213 t214 t215 t216 t217 t218 t219 t220 t221 t222 t223 t224 t225 t226 t227 t228 t229 t230 t231 t232 t233 wy hcn
          have HCN : Hid (_) := hcn
          clear hcn
          go_wp2_with fail
          go_roundg g
          case measure => omega
          case rel => exact ⟨b + 1, by go_num, by omega, HCN⟩
        | succ gj =>
          have hltj : (j : Int) < (L : Int) := by omega
          have hjl : j < ((rs.drop lo).take L).length := by rw [Lies.length_slice HMI.out]; omega
          have hget : ((rs.drop lo).take L)[j]? = some ((rs.drop lo).take L)[j] := List.getElem?_eq_getElem hjl
          generalize ((rs.drop lo).take L)[j] = r at hget
          obtain ⟨ga, oa, cs, rfl, hga, hcs, hP, hcell⟩ := Lies.at HMI.out hget
          obtain ⟨rfl, hi0, hi1, hi2, hi3⟩ := hP
          obtain ⟨rk, rA, rB, rC⟩ := r
          have q0 := hcell 0 (by decide)
          have q1 := hcell 1 (by decide)
          have q2 := hcell 2 (by decide)
          have q3 := hcell 3 (by decide)
          simp at q0 q1 q2 q3
          have hbw : Below w.heap.size w wr := by
            have h5 := HCZ.out.fr
            have h6 := HAL.out
            have h7 := HAD.out
            have h8 : Below w.heap.size w wz := ⟨h5.os.trans h6.1.os, h5.tape.trans h6.1.tape, h5.output.trans h6.1.output, by have := h5.size; omega, fun i hi => (h5.block i (by omega) (by omega)).trans (h6.1.block i hi)⟩
            exact h8.trans (HBX.out.mono h8.size)
          rw [← hbw.cell (p := ⟨ga, oa + j * 4, none⟩) (by show ga < _; omega)] at q0
          rw [← hbw.cell (p := ⟨ga, oa + j * 4 + 1, none⟩) (by show ga < _; omega)] at q1
          rw [← hbw.cell (p := ⟨ga, oa + j * 4 + 2, none⟩) (by show ga < _; omega)] at q2
          rw [← hbw.cell (p := ⟨ga, oa + j * 4 + 3, none⟩) (by show ga < _; omega)] at q3
          clear hcell hget hcs hbw
          obtain ⟨x0, hx0⟩ : ∃ x, x = pickI rk 12 := ⟨_, rfl⟩
          obtain ⟨x1, hx1⟩ : ∃ x, x = pickI rA 5 := ⟨_, rfl⟩
          obtain ⟨x2, hx2⟩ : ∃ x, x = pickI rB 5 := ⟨_, rfl⟩
          obtain ⟨x3, hx3⟩ : ∃ x, x = pickI rC 5 := ⟨_, rfl⟩
          obtain ⟨x4, hx4⟩ : ∃ x, x = pickI rC 2 := ⟨_, rfl⟩
          obtain ⟨k5, hk5⟩ : ∃ k : Nat, (k : Int) = pickI (wrap64 (rk.tdiv 12)) 6 := ⟨(pickI (wrap64 (rk.tdiv 12)) 6).toNat, by unfold pickI; split <;> omega⟩
          have hk56 : k5 < 6 := by have h9 : (k5 : Int) < 6 := by rw [hk5]; unfold pickI; split <;> omega
                                   omega
          have HPK : Hid (∀ w', (Calls Try.prog 22 #[.int .i64 rk, .int .i64 12] w' fun e w'' => e = .returned (.int .i64 x0) ∧ w'' = w') ∧ (Calls Try.prog 22 #[.int .i64 rA, .int .i64 5] w' fun e w'' => e = .returned (.int .i64 x1) ∧ w'' = w') ∧
              (Calls Try.prog 22 #[.int .i64 rB, .int .i64 5] w' fun e w'' => e = .returned (.int .i64 x2) ∧ w'' = w') ∧ (Calls Try.prog 22 #[.int .i64 rC, .int .i64 5] w' fun e w'' => e = .returned (.int .i64 x3) ∧ w'' = w') ∧
              (Calls Try.prog 22 #[.int .i64 rC, .int .i64 2] w' fun e w'' => e = .returned (.int .i64 x4) ∧ w'' = w') ∧ (Calls Try.prog 22 #[.int .i64 (wrap64 (rk.tdiv 12)), .int .i64 6] w' fun e w'' => e = .returned (.int .i64 (k5 : Nat)) ∧ w'' = w')) := by
            intro w'
            rw [hx0, hx1, hx2, hx3, hx4, hk5]
            exact ⟨picked_any rk 12 hi0 (by decide) (by decide) w', picked_any rA 5 hi1 (by decide) (by decide) w', picked_any rB 5 hi2 (by decide) (by decide) w', picked_any rC 5 hi3 (by decide) (by decide) w', picked_any rC 2 hi3 (by decide) (by decide) w', picked_any (wrap64 (rk.tdiv 12)) 6 (i64_wrap _) (by decide) (by decide) w'⟩
          have hb0 : 0 ≤ x0 ∧ x0 < 12 := by rw [hx0]; unfold pickI; split <;> omega
          have HXB : Hid (I64 x1 ∧ I64 x2 ∧ I64 x3 ∧ I64 x4) := by rw [hx1, hx2, hx3, hx4]; unfold pickI I64; refine ⟨?_, ?_, ?_, ?_⟩ <;> split <;> omega
          clear hx0 hx1 hx2 hx3 hx4 hk5
          go_wp2_with fail
          refine Calls.mono (HPK.out _).2.1 ?_
          rintro e w5 ⟨rfl, rfl⟩
          go_wp2_with fail
          refine Calls.mono (HPK.out _).2.2.1 ?_
          rintro e w5 ⟨rfl, rfl⟩
          go_wp2_with fail
          refine Calls.mono (HPK.out _).2.2.2.1 ?_
          rintro e w5 ⟨rfl, rfl⟩
          go_wp2_with fail
          refine Calls.mono (HPK.out _).1 ?_
          rintro e w5 ⟨rfl, rfl⟩
          have hv : x0 = 0 ∨ x0 = 1 ∨ x0 = 2 ∨ x0 = 3 ∨ x0 = 4 ∨ x0 = 5 ∨ x0 = 6 ∨ x0 = 7 ∨ x0 = 8 ∨ x0 = 9 ∨ x0 = 10 ∨ x0 = 11 := by omega
          clear hb0
          obtain ⟨ho1, xs, ho, hxl, hxm, hE⟩ := HOB.out
          rw [hoj] at ho1 ho hE
          have HOX : Hid (wr.ownsRow 0 42 6 (.slice ao j ko) j xs.flatten) := ho
          have HXX : Hid ((∀ g, (Value.slice ao j ko).ownBlock = some g → wz.heap.size ≤ g) ∧ xs.length = ob.length ∧ (∀ cs, cs ∈ xs → cs.length = 6) ∧ ∀ (i : Nat) (x : Ins) (cs : List Value), ob[i]? = some x → xs[i]? = some cs → PIn (fun g => wz.heap.size ≤ g ∧ (Value.slice ao j ko).ownBlock ≠ some g) wr cs x) := ⟨ho1, hxl, hxm, hE⟩
          obtain ⟨iI, hI0, hI1, hI2, hI3⟩ := xinfoParts infoInstr
          clear ho1 ho hxl hxm hE HOB
          rcases hv with rfl | rfl | rfl | rfl | rfl | rfl | rfl | rfl | rfl | rfl | rfl | rfl
          · go_wp2_with fail
            refine Calls.mono (HPK.out _).2.2.2.1 ?_
            rintro e w5 ⟨rfl, rfl⟩
            obtain ⟨W1, hW1⟩ : ∃ W1, W1 = (((wr.alloc (Obj.cells #[Value.int IntKind.i64 rk, Value.int IntKind.i64 rA, Value.int IntKind.i64 rB, Value.int IntKind.i64 rC] 53)).alloc (Obj.cells #[Value.int IntKind.i64 x1] 3)).alloc (Obj.cells #[Value.int IntKind.i64 1, Value.slice (some ⟨wr.heap.size + 1, 0, none⟩) 1 1, Value.slice none 0 0, Value.int IntKind.i64 x3, Value.string { data := #[] }, Value.slice none 0 0] 42)) := ⟨_, rfl⟩
            have hal := allocs_below [Obj.cells #[Value.int IntKind.i64 rk, Value.int IntKind.i64 rA, Value.int IntKind.i64 rB, Value.int IntKind.i64 rC] 53, Obj.cells #[Value.int IntKind.i64 x1] 3, Obj.cells #[Value.int IntKind.i64 1, Value.slice (some ⟨wr.heap.size + 1, 0, none⟩) 1 1, Value.slice none 0 0, Value.int IntKind.i64 x3, Value.string { data := #[] }, Value.slice none 0 0] 42] wr
            have hat := allocs_at [Obj.cells #[Value.int IntKind.i64 rk, Value.int IntKind.i64 rA, Value.int IntKind.i64 rB, Value.int IntKind.i64 rC] 53, Obj.cells #[Value.int IntKind.i64 x1] 3, Obj.cells #[Value.int IntKind.i64 1, Value.slice (some ⟨wr.heap.size + 1, 0, none⟩) 1 1, Value.slice none 0 0, Value.int IntKind.i64 x3, Value.string { data := #[] }, Value.slice none 0 0] 42] wr
            have e0 : List.foldl World.alloc wr [Obj.cells #[Value.int IntKind.i64 rk, Value.int IntKind.i64 rA, Value.int IntKind.i64 rB, Value.int IntKind.i64 rC] 53, Obj.cells #[Value.int IntKind.i64 x1] 3, Obj.cells #[Value.int IntKind.i64 1, Value.slice (some ⟨wr.heap.size + 1, 0, none⟩) 1 1, Value.slice none 0 0, Value.int IntKind.i64 x3, Value.string { data := #[] }, Value.slice none 0 0] 42] = W1 := hW1.symm
            rw [e0] at hal hat
            have hW1s : W1.heap.size = wr.heap.size + 1 + 1 + 1 := by rw [hal.2]; rfl
            have HW1S : Hid (W1 = _) := hW1
            have HS1 : Hid (W1.heap.size = wr.heap.size + 1 + 1 + 1) := hW1s
            have HB1 : Hid (Below wr.heap.size wr W1) := hal.1
            have HNW : Hid (∀ jj u, [Value.int IntKind.i64 1, Value.slice (some ⟨wr.heap.size + 1, 0, none⟩) 1 1, Value.slice none 0 0, Value.int IntKind.i64 x3, Value.string { data := #[] }, Value.slice none 0 0][jj]? = some u → W1.cell? ((⟨wr.heap.size + 1 + 1, 0, none⟩ : Addr).add jj) = some u) := World.news_of_block (by have h9 := hat 2 (by simp); exact h9)
            have HPI : Hid (PIn (fun g => wr.heap.size ≤ g) W1 [Value.int IntKind.i64 1, Value.slice (some ⟨wr.heap.size + 1, 0, none⟩) 1 1, Value.slice none 0 0, Value.int IntKind.i64 x3, Value.string { data := #[] }, Value.slice none 0 0] ⟨1, [x1], [], x3, [], []⟩) := by
              have hxb := HXB.out
              refine ⟨_, _, _, rfl, ⟨by simp [maxLen], (by intro x hx; simp at hx; subst hx; exact hxb.1), .inr ⟨wr.heap.size + 1, _, rfl, by omega, by omega, 3, by have h9 := hat 1 (by simp); exact h9⟩⟩, ⟨by simp [maxLen], (fun _ h => by cases h), .inl ⟨rfl, rfl⟩⟩, ⟨by simp [maxLen], (fun _ h => by cases h), .inl ⟨rfl, rfl⟩⟩, by simp [maxLen], hxb.2.2.1⟩
            have HO1 : Hid (W1.ownsRow 0 42 6 (.slice ao j ko) j xs.flatten) := own_same HOX.out fun g hg => hal.1.block g (own0_lt HOX.out hg)
            clear hal hat e0 hW1 hW1s
            go_wp2_with (at_builtin; rw [← HW1S.out]; refine wpList_append_lies _ rfl _ _ 40 (by rfl) 0 42 iI _ 6 104 Try.underlying40 hI0 hI1 hI2 hI3 rfl (by decide) (.slice ao j ko) j _ (by rfl) HO1.out ⟨wr.heap.size + 1 + 1, 0, none⟩ 1 1 [Value.int IntKind.i64 1, Value.slice (some ⟨wr.heap.size + 1, 0, none⟩) 1 1, Value.slice none 0 0, Value.int IntKind.i64 x3, Value.string { data := #[] }, Value.slice none 0 0] (by rfl) rfl HNW.out (by intro u hu; simp at hu; rcases hu with rfl | rfl | rfl | rfl | rfl | rfl <;> rfl) (by decide) (by unfold maxLen; omega) (by omega) (Nat.zero_le _) (wr.heap.size + 1 + 1 + 1) HS1.out ?_)
            intro g cp w1 hown hgrow hat hlt1
            have hpush := push_ins HXX.out.1 HXX.out.2.1 HXX.out.2.2.1 HOX.out hoj HXX.out.2.2.2 HB1.out HPI.out rfl hgrow (by rcases hat with h | h; exact .inl h; exact .inr (by rw [h, HS1.out])) hown HBX.out.size
            have HN : Hid (OwnL 6 42 PIn (fun g => wz.heap.size ≤ g) w1 (.slice (some ⟨g, 0, none⟩) (j + 1) cp) (ob ++ [⟨1, [x1], [], x3, [], []⟩])) := hpush.1
            have HBN : Hid (Below wz.heap.size wz w1) := HBX.out.trans hpush.2
            clear hown hgrow hat hlt1 hpush
            go_wp2_with fail
            go_roundg gj
            case measure => omega
            case rel => exact ⟨j + 1, _, by go_num, by omega, HBN, HN, by simp [hoj]⟩
          · go_wp2_with fail
            refine Calls.mono (HPK.out _).2.2.2.1 ?_
            rintro e w5 ⟨rfl, rfl⟩
            obtain ⟨W1, hW1⟩ : ∃ W1, W1 = (((wr.alloc (Obj.cells #[Value.int IntKind.i64 rk, Value.int IntKind.i64 rA, Value.int IntKind.i64 rB, Value.int IntKind.i64 rC] 53)).alloc (Obj.cells #[Value.int IntKind.i64 x1] 3)).alloc (Obj.cells #[Value.int IntKind.i64 1, Value.slice (some ⟨wr.heap.size + 1, 0, none⟩) 1 1, Value.slice none 0 0, Value.int IntKind.i64 x3, Value.string { data := #[] }, Value.slice none 0 0] 42)) := ⟨_, rfl⟩
            have hal := allocs_below [Obj.cells #[Value.int IntKind.i64 rk, Value.int IntKind.i64 rA, Value.int IntKind.i64 rB, Value.int IntKind.i64 rC] 53, Obj.cells #[Value.int IntKind.i64 x1] 3, Obj.cells #[Value.int IntKind.i64 1, Value.slice (some ⟨wr.heap.size + 1, 0, none⟩) 1 1, Value.slice none 0 0, Value.int IntKind.i64 x3, Value.string { data := #[] }, Value.slice none 0 0] 42] wr
            have hat := allocs_at [Obj.cells #[Value.int IntKind.i64 rk, Value.int IntKind.i64 rA, Value.int IntKind.i64 rB, Value.int IntKind.i64 rC] 53, Obj.cells #[Value.int IntKind.i64 x1] 3, Obj.cells #[Value.int IntKind.i64 1, Value.slice (some ⟨wr.heap.size + 1, 0, none⟩) 1 1, Value.slice none 0 0, Value.int IntKind.i64 x3, Value.string { data := #[] }, Value.slice none 0 0] 42] wr
            have e0 : List.foldl World.alloc wr [Obj.cells #[Value.int IntKind.i64 rk, Value.int IntKind.i64 rA, Value.int IntKind.i64 rB, Value.int IntKind.i64 rC] 53, Obj.cells #[Value.int IntKind.i64 x1] 3, Obj.cells #[Value.int IntKind.i64 1, Value.slice (some ⟨wr.heap.size + 1, 0, none⟩) 1 1, Value.slice none 0 0, Value.int IntKind.i64 x3, Value.string { data := #[] }, Value.slice none 0 0] 42] = W1 := hW1.symm
            rw [e0] at hal hat
            have hW1s : W1.heap.size = wr.heap.size + 1 + 1 + 1 := by rw [hal.2]; rfl
            have HW1S : Hid (W1 = _) := hW1
            have HS1 : Hid (W1.heap.size = wr.heap.size + 1 + 1 + 1) := hW1s
            have HB1 : Hid (Below wr.heap.size wr W1) := hal.1
            have HNW : Hid (∀ jj u, [Value.int IntKind.i64 1, Value.slice (some ⟨wr.heap.size + 1, 0, none⟩) 1 1, Value.slice none 0 0, Value.int IntKind.i64 x3, Value.string { data := #[] }, Value.slice none 0 0][jj]? = some u → W1.cell? ((⟨wr.heap.size + 1 + 1, 0, none⟩ : Addr).add jj) = some u) := World.news_of_block (by have h9 := hat 2 (by simp); exact h9)
            have HPI : Hid (PIn (fun g => wr.heap.size ≤ g) W1 [Value.int IntKind.i64 1, Value.slice (some ⟨wr.heap.size + 1, 0, none⟩) 1 1, Value.slice none 0 0, Value.int IntKind.i64 x3, Value.string { data := #[] }, Value.slice none 0 0] ⟨1, [x1], [], x3, [], []⟩) := by
              have hxb := HXB.out
              refine ⟨_, _, _, rfl, ⟨by simp [maxLen], (by intro x hx; simp at hx; subst hx; exact hxb.1), .inr ⟨wr.heap.size + 1, _, rfl, by omega, by omega, 3, by have h9 := hat 1 (by simp); exact h9⟩⟩, ⟨by simp [maxLen], (fun _ h => by cases h), .inl ⟨rfl, rfl⟩⟩, ⟨by simp [maxLen], (fun _ h => by cases h), .inl ⟨rfl, rfl⟩⟩, by simp [maxLen], hxb.2.2.1⟩
            have HO1 : Hid (W1.ownsRow 0 42 6 (.slice ao j ko) j xs.flatten) := own_same HOX.out fun g hg => hal.1.block g (own0_lt HOX.out hg)
            clear hal hat e0 hW1 hW1s
            go_wp2_with (at_builtin; rw [← HW1S.out]; refine wpList_append_lies _ rfl _ _ 40 (by rfl) 0 42 iI _ 6 104 Try.underlying40 hI0 hI1 hI2 hI3 rfl (by decide) (.slice ao j ko) j _ (by rfl) HO1.out ⟨wr.heap.size + 1 + 1, 0, none⟩ 1 1 [Value.int IntKind.i64 1, Value.slice (some ⟨wr.heap.size + 1, 0, none⟩) 1 1, Value.slice none 0 0, Value.int IntKind.i64 x3, Value.string { data := #[] }, Value.slice none 0 0] (by rfl) rfl HNW.out (by intro u hu; simp at hu; rcases hu with rfl | rfl | rfl | rfl | rfl | rfl <;> rfl) (by decide) (by unfold maxLen; omega) (by omega) (Nat.zero_le _) (wr.heap.size + 1 + 1 + 1) HS1.out ?_)
            intro g cp w1 hown hgrow hat hlt1
            have hpush := push_ins HXX.out.1 HXX.out.2.1 HXX.out.2.2.1 HOX.out hoj HXX.out.2.2.2 HB1.out HPI.out rfl hgrow (by rcases hat with h | h; exact .inl h; exact .inr (by rw [h, HS1.out])) hown HBX.out.size
            have HN : Hid (OwnL 6 42 PIn (fun g => wz.heap.size ≤ g) w1 (.slice (some ⟨g, 0, none⟩) (j + 1) cp) (ob ++ [⟨1, [x1], [], x3, [], []⟩])) := hpush.1
            have HBN : Hid (Below wz.heap.size wz w1) := HBX.out.trans hpush.2
            clear hown hgrow hat hlt1 hpush
            go_wp2_with fail
            go_roundg gj
            case measure => omega
            case rel => exact ⟨j + 1, _, by go_num, by omega, HBN, HN, by simp [hoj]⟩
          · obtain ⟨sx, hsx, hsl⟩ := str_at k5 hk56
            have pS : (((wr.alloc (Obj.cells #[Value.int IntKind.i64 rk, Value.int IntKind.i64 rA, Value.int IntKind.i64 rB, Value.int IntKind.i64 rC] 53)).alloc (Obj.cells #[Value.int IntKind.i64 x1] 3)).alloc (Obj.cells #[Value.string { data := #[43] }, Value.string { data := #[45] }, Value.string { data := #[42] }, Value.string { data := #[60] }, Value.string { data := #[61, 61] }, Value.string { data := #[47] }] 9)).cell? ⟨wr.heap.size + 1 + 1, k5, none⟩ = some (.string ⟨sx.toArray⟩) := by
              have h9 := allocs_at [Obj.cells #[Value.int IntKind.i64 rk, Value.int IntKind.i64 rA, Value.int IntKind.i64 rB, Value.int IntKind.i64 rC] 53, Obj.cells #[Value.int IntKind.i64 x1] 3, Obj.cells #[Value.string { data := #[43] }, Value.string { data := #[45] }, Value.string { data := #[42] }, Value.string { data := #[60] }, Value.string { data := #[61, 61] }, Value.string { data := #[47] }] 9] wr 2 (by simp)
              have h10 : (((wr.alloc (Obj.cells #[Value.int IntKind.i64 rk, Value.int IntKind.i64 rA, Value.int IntKind.i64 rB, Value.int IntKind.i64 rC] 53)).alloc (Obj.cells #[Value.int IntKind.i64 x1] 3)).alloc (Obj.cells #[Value.string { data := #[43] }, Value.string { data := #[45] }, Value.string { data := #[42] }, Value.string { data := #[60] }, Value.string { data := #[61, 61] }, Value.string { data := #[47] }] 9)).heap[wr.heap.size + 1 + 1]? = some (Obj.cells #[Value.string { data := #[43] }, Value.string { data := #[45] }, Value.string { data := #[42] }, Value.string { data := #[60] }, Value.string { data := #[61, 61] }, Value.string { data := #[47] }] 9) := h9
              simp only [World.cell?, h10]
              exact hsx
            clear hsx
            go_wp2_with fail
            refine Calls.mono (HPK.out _).2.2.2.2.2 ?_
            rintro e w5 ⟨rfl, rfl⟩
            obtain ⟨W1, hW1⟩ : ∃ W1, W1 = (((((wr.alloc (Obj.cells #[Value.int IntKind.i64 rk, Value.int IntKind.i64 rA, Value.int IntKind.i64 rB, Value.int IntKind.i64 rC] 53)).alloc (Obj.cells #[Value.int IntKind.i64 x1] 3)).alloc (Obj.cells #[Value.string { data := #[43] }, Value.string { data := #[45] }, Value.string { data := #[42] }, Value.string { data := #[60] }, Value.string { data := #[61, 61] }, Value.string { data := #[47] }] 9)).alloc (Obj.cells #[Value.int IntKind.i64 x2, Value.int IntKind.i64 x3] 3)).alloc (Obj.cells #[Value.int IntKind.i64 3, Value.slice (some ⟨wr.heap.size + 1, 0, none⟩) 1 1, Value.slice (some ⟨wr.heap.size + 1 + 1 + 1, 0, none⟩) 2 2, Value.int IntKind.i64 0, Value.string { data := sx.toArray }, Value.slice none 0 0] 42)) := ⟨_, rfl⟩
            have hal := allocs_below [Obj.cells #[Value.int IntKind.i64 rk, Value.int IntKind.i64 rA, Value.int IntKind.i64 rB, Value.int IntKind.i64 rC] 53, Obj.cells #[Value.int IntKind.i64 x1] 3, Obj.cells #[Value.string { data := #[43] }, Value.string { data := #[45] }, Value.string { data := #[42] }, Value.string { data := #[60] }, Value.string { data := #[61, 61] }, Value.string { data := #[47] }] 9, Obj.cells #[Value.int IntKind.i64 x2, Value.int IntKind.i64 x3] 3, Obj.cells #[Value.int IntKind.i64 3, Value.slice (some ⟨wr.heap.size + 1, 0, none⟩) 1 1, Value.slice (some ⟨wr.heap.size + 1 + 1 + 1, 0, none⟩) 2 2, Value.int IntKind.i64 0, Value.string { data := sx.toArray }, Value.slice none 0 0] 42] wr
            have hat := allocs_at [Obj.cells #[Value.int IntKind.i64 rk, Value.int IntKind.i64 rA, Value.int IntKind.i64 rB, Value.int IntKind.i64 rC] 53, Obj.cells #[Value.int IntKind.i64 x1] 3, Obj.cells #[Value.string { data := #[43] }, Value.string { data := #[45] }, Value.string { data := #[42] }, Value.string { data := #[60] }, Value.string { data := #[61, 61] }, Value.string { data := #[47] }] 9, Obj.cells #[Value.int IntKind.i64 x2, Value.int IntKind.i64 x3] 3, Obj.cells #[Value.int IntKind.i64 3, Value.slice (some ⟨wr.heap.size + 1, 0, none⟩) 1 1, Value.slice (some ⟨wr.heap.size + 1 + 1 + 1, 0, none⟩) 2 2, Value.int IntKind.i64 0, Value.string { data := sx.toArray }, Value.slice none 0 0] 42] wr
            have e0 : List.foldl World.alloc wr [Obj.cells #[Value.int IntKind.i64 rk, Value.int IntKind.i64 rA, Value.int IntKind.i64 rB, Value.int IntKind.i64 rC] 53, Obj.cells #[Value.int IntKind.i64 x1] 3, Obj.cells #[Value.string { data := #[43] }, Value.string { data := #[45] }, Value.string { data := #[42] }, Value.string { data := #[60] }, Value.string { data := #[61, 61] }, Value.string { data := #[47] }] 9, Obj.cells #[Value.int IntKind.i64 x2, Value.int IntKind.i64 x3] 3, Obj.cells #[Value.int IntKind.i64 3, Value.slice (some ⟨wr.heap.size + 1, 0, none⟩) 1 1, Value.slice (some ⟨wr.heap.size + 1 + 1 + 1, 0, none⟩) 2 2, Value.int IntKind.i64 0, Value.string { data := sx.toArray }, Value.slice none 0 0] 42] = W1 := hW1.symm
            rw [e0] at hal hat
            have hW1s : W1.heap.size = wr.heap.size + 1 + 1 + 1 + 1 + 1 := by rw [hal.2]; rfl
            have HW1S : Hid (W1 = _) := hW1
            have HS1 : Hid (W1.heap.size = wr.heap.size + 1 + 1 + 1 + 1 + 1) := hW1s
            have HB1 : Hid (Below wr.heap.size wr W1) := hal.1
            have HNW : Hid (∀ jj u, [Value.int IntKind.i64 3, Value.slice (some ⟨wr.heap.size + 1, 0, none⟩) 1 1, Value.slice (some ⟨wr.heap.size + 1 + 1 + 1, 0, none⟩) 2 2, Value.int IntKind.i64 0, Value.string { data := sx.toArray }, Value.slice none 0 0][jj]? = some u → W1.cell? ((⟨wr.heap.size + 1 + 1 + 1 + 1, 0, none⟩ : Addr).add jj) = some u) := World.news_of_block (by have h9 := hat 4 (by simp); exact h9)
            have HPI : Hid (PIn (fun g => wr.heap.size ≤ g) W1 [Value.int IntKind.i64 3, Value.slice (some ⟨wr.heap.size + 1, 0, none⟩) 1 1, Value.slice (some ⟨wr.heap.size + 1 + 1 + 1, 0, none⟩) 2 2, Value.int IntKind.i64 0, Value.string { data := sx.toArray }, Value.slice none 0 0] ⟨3, [x1], [x2, x3], 0, sx, []⟩) := by
              have hxb := HXB.out
              refine ⟨_, _, _, rfl, ⟨by simp [maxLen], (by intro x hx; simp at hx; subst hx; exact hxb.1), .inr ⟨wr.heap.size + 1, _, rfl, by omega, by omega, 3, by have h9 := hat 1 (by simp); exact h9⟩⟩, ⟨by simp [maxLen], (by intro x hx; simp at hx; rcases hx with rfl | rfl; exact hxb.2.1; exact hxb.2.2.1), .inr ⟨wr.heap.size + 1 + 1 + 1, _, rfl, by omega, by omega, 3, by have h9 := hat 3 (by simp); exact h9⟩⟩, ⟨by simp [maxLen], (fun _ h => by cases h), .inl ⟨rfl, rfl⟩⟩, by unfold maxLen; simp only; omega, (show I64 0 from ⟨by decide, by decide⟩)⟩
            have HO1 : Hid (W1.ownsRow 0 42 6 (.slice ao j ko) j xs.flatten) := own_same HOX.out fun g hg => hal.1.block g (own0_lt HOX.out hg)
            clear hal hat e0 hW1 hW1s
            go_wp2_with (at_builtin; rw [← HW1S.out]; refine wpList_append_lies _ rfl _ _ 40 (by rfl) 0 42 iI _ 6 104 Try.underlying40 hI0 hI1 hI2 hI3 rfl (by decide) (.slice ao j ko) j _ (by rfl) HO1.out ⟨wr.heap.size + 1 + 1 + 1 + 1, 0, none⟩ 1 1 [Value.int IntKind.i64 3, Value.slice (some ⟨wr.heap.size + 1, 0, none⟩) 1 1, Value.slice (some ⟨wr.heap.size + 1 + 1 + 1, 0, none⟩) 2 2, Value.int IntKind.i64 0, Value.string { data := sx.toArray }, Value.slice none 0 0] (by rfl) rfl HNW.out (by intro u hu; simp at hu; rcases hu with rfl | rfl | rfl | rfl | rfl | rfl <;> rfl) (by decide) (by unfold maxLen; omega) (by omega) (Nat.zero_le _) (wr.heap.size + 1 + 1 + 1 + 1 + 1) HS1.out ?_)
            intro g cp w1 hown hgrow hat hlt1
            have hpush := push_ins HXX.out.1 HXX.out.2.1 HXX.out.2.2.1 HOX.out hoj HXX.out.2.2.2 HB1.out HPI.out rfl hgrow (by rcases hat with h | h; exact .inl h; exact .inr (by rw [h, HS1.out])) hown HBX.out.size
            have HN : Hid (OwnL 6 42 PIn (fun g => wz.heap.size ≤ g) w1 (.slice (some ⟨g, 0, none⟩) (j + 1) cp) (ob ++ [⟨3, [x1], [x2, x3], 0, sx, []⟩])) := hpush.1
            have HBN : Hid (Below wz.heap.size wz w1) := HBX.out.trans hpush.2
            clear hown hgrow hat hlt1 hpush
            go_wp2_with fail
            go_roundg gj
            case measure => omega
            case rel => exact ⟨j + 1, _, by go_num, by omega, HBN, HN, by simp [hoj]⟩
          · obtain ⟨sx, hsx, hsl⟩ := str_at k5 hk56
            have pS : (((wr.alloc (Obj.cells #[Value.int IntKind.i64 rk, Value.int IntKind.i64 rA, Value.int IntKind.i64 rB, Value.int IntKind.i64 rC] 53)).alloc (Obj.cells #[Value.int IntKind.i64 x1] 3)).alloc (Obj.cells #[Value.string { data := #[43] }, Value.string { data := #[45] }, Value.string { data := #[42] }, Value.string { data := #[60] }, Value.string { data := #[61, 61] }, Value.string { data := #[47] }] 9)).cell? ⟨wr.heap.size + 1 + 1, k5, none⟩ = some (.string ⟨sx.toArray⟩) := by
              have h9 := allocs_at [Obj.cells #[Value.int IntKind.i64 rk, Value.int IntKind.i64 rA, Value.int IntKind.i64 rB, Value.int IntKind.i64 rC] 53, Obj.cells #[Value.int IntKind.i64 x1] 3, Obj.cells #[Value.string { data := #[43] }, Value.string { data := #[45] }, Value.string { data := #[42] }, Value.string { data := #[60] }, Value.string { data := #[61, 61] }, Value.string { data := #[47] }] 9] wr 2 (by simp)
              have h10 : (((wr.alloc (Obj.cells #[Value.int IntKind.i64 rk, Value.int IntKind.i64 rA, Value.int IntKind.i64 rB, Value.int IntKind.i64 rC] 53)).alloc (Obj.cells #[Value.int IntKind.i64 x1] 3)).alloc (Obj.cells #[Value.string { data := #[43] }, Value.string { data := #[45] }, Value.string { data := #[42] }, Value.string { data := #[60] }, Value.string { data := #[61, 61] }, Value.string { data := #[47] }] 9)).heap[wr.heap.size + 1 + 1]? = some (Obj.cells #[Value.string { data := #[43] }, Value.string { data := #[45] }, Value.string { data := #[42] }, Value.string { data := #[60] }, Value.string { data := #[61, 61] }, Value.string { data := #[47] }] 9) := h9
              simp only [World.cell?, h10]
              exact hsx
            clear hsx
            go_wp2_with fail
            refine Calls.mono (HPK.out _).2.2.2.2.2 ?_
            rintro e w5 ⟨rfl, rfl⟩
            obtain ⟨W1, hW1⟩ : ∃ W1, W1 = (((((wr.alloc (Obj.cells #[Value.int IntKind.i64 rk, Value.int IntKind.i64 rA, Value.int IntKind.i64 rB, Value.int IntKind.i64 rC] 53)).alloc (Obj.cells #[Value.int IntKind.i64 x1] 3)).alloc (Obj.cells #[Value.string { data := #[43] }, Value.string { data := #[45] }, Value.string { data := #[42] }, Value.string { data := #[60] }, Value.string { data := #[61, 61] }, Value.string { data := #[47] }] 9)).alloc (Obj.cells #[Value.int IntKind.i64 x2, Value.int IntKind.i64 x3] 3)).alloc (Obj.cells #[Value.int IntKind.i64 3, Value.slice (some ⟨wr.heap.size + 1, 0, none⟩) 1 1, Value.slice (some ⟨wr.heap.size + 1 + 1 + 1, 0, none⟩) 2 2, Value.int IntKind.i64 0, Value.string { data := sx.toArray }, Value.slice none 0 0] 42)) := ⟨_, rfl⟩
            have hal := allocs_below [Obj.cells #[Value.int IntKind.i64 rk, Value.int IntKind.i64 rA, Value.int IntKind.i64 rB, Value.int IntKind.i64 rC] 53, Obj.cells #[Value.int IntKind.i64 x1] 3, Obj.cells #[Value.string { data := #[43] }, Value.string { data := #[45] }, Value.string { data := #[42] }, Value.string { data := #[60] }, Value.string { data := #[61, 61] }, Value.string { data := #[47] }] 9, Obj.cells #[Value.int IntKind.i64 x2, Value.int IntKind.i64 x3] 3, Obj.cells #[Value.int IntKind.i64 3, Value.slice (some ⟨wr.heap.size + 1, 0, none⟩) 1 1, Value.slice (some ⟨wr.heap.size + 1 + 1 + 1, 0, none⟩) 2 2, Value.int IntKind.i64 0, Value.string { data := sx.toArray }, Value.slice none 0 0] 42] wr
            have hat := allocs_at [Obj.cells #[Value.int IntKind.i64 rk, Value.int IntKind.i64 rA, Value.int IntKind.i64 rB, Value.int IntKind.i64 rC] 53, Obj.cells #[Value.int IntKind.i64 x1] 3, Obj.cells #[Value.string { data := #[43] }, Value.string { data := #[45] }, Value.string { data := #[42] }, Value.string { data := #[60] }, Value.string { data := #[61, 61] }, Value.string { data := #[47] }] 9, Obj.cells #[Value.int IntKind.i64 x2, Value.int IntKind.i64 x3] 3, Obj.cells #[Value.int IntKind.i64 3, Value.slice (some ⟨wr.heap.size + 1, 0, none⟩) 1 1, Value.slice (some ⟨wr.heap.size + 1 + 1 + 1, 0, none⟩) 2 2, Value.int IntKind.i64 0, Value.string { data := sx.toArray }, Value.slice none 0 0] 42] wr
            have e0 : List.foldl World.alloc wr [Obj.cells #[Value.int IntKind.i64 rk, Value.int IntKind.i64 rA, Value.int IntKind.i64 rB, Value.int IntKind.i64 rC] 53, Obj.cells #[Value.int IntKind.i64 x1] 3, Obj.cells #[Value.string { data := #[43] }, Value.string { data := #[45] }, Value.string { data := #[42] }, Value.string { data := #[60] }, Value.string { data := #[61, 61] }, Value.string { data := #[47] }] 9, Obj.cells #[Value.int IntKind.i64 x2, Value.int IntKind.i64 x3] 3, Obj.cells #[Value.int IntKind.i64 3, Value.slice (some ⟨wr.heap.size + 1, 0, none⟩) 1 1, Value.slice (some ⟨wr.heap.size + 1 + 1 + 1, 0, none⟩) 2 2, Value.int IntKind.i64 0, Value.string { data := sx.toArray }, Value.slice none 0 0] 42] = W1 := hW1.symm
            rw [e0] at hal hat
            have hW1s : W1.heap.size = wr.heap.size + 1 + 1 + 1 + 1 + 1 := by rw [hal.2]; rfl
            have HW1S : Hid (W1 = _) := hW1
            have HS1 : Hid (W1.heap.size = wr.heap.size + 1 + 1 + 1 + 1 + 1) := hW1s
            have HB1 : Hid (Below wr.heap.size wr W1) := hal.1
            have HNW : Hid (∀ jj u, [Value.int IntKind.i64 3, Value.slice (some ⟨wr.heap.size + 1, 0, none⟩) 1 1, Value.slice (some ⟨wr.heap.size + 1 + 1 + 1, 0, none⟩) 2 2, Value.int IntKind.i64 0, Value.string { data := sx.toArray }, Value.slice none 0 0][jj]? = some u → W1.cell? ((⟨wr.heap.size + 1 + 1 + 1 + 1, 0, none⟩ : Addr).add jj) = some u) := World.news_of_block (by have h9 := hat 4 (by simp); exact h9)
            have HPI : Hid (PIn (fun g => wr.heap.size ≤ g) W1 [Value.int IntKind.i64 3, Value.slice (some ⟨wr.heap.size + 1, 0, none⟩) 1 1, Value.slice (some ⟨wr.heap.size + 1 + 1 + 1, 0, none⟩) 2 2, Value.int IntKind.i64 0, Value.string { data := sx.toArray }, Value.slice none 0 0] ⟨3, [x1], [x2, x3], 0, sx, []⟩) := by
              have hxb := HXB.out
              refine ⟨_, _, _, rfl, ⟨by simp [maxLen], (by intro x hx; simp at hx; subst hx; exact hxb.1), .inr ⟨wr.heap.size + 1, _, rfl, by omega, by omega, 3, by have h9 := hat 1 (by simp); exact h9⟩⟩, ⟨by simp [maxLen], (by intro x hx; simp at hx; rcases hx with rfl | rfl; exact hxb.2.1; exact hxb.2.2.1), .inr ⟨wr.heap.size + 1 + 1 + 1, _, rfl, by omega, by omega, 3, by have h9 := hat 3 (by simp); exact h9⟩⟩, ⟨by simp [maxLen], (fun _ h => by cases h), .inl ⟨rfl, rfl⟩⟩, by unfold maxLen; simp only; omega, (show I64 0 from ⟨by decide, by decide⟩)⟩
            have HO1 : Hid (W1.ownsRow 0 42 6 (.slice ao j ko) j xs.flatten) := own_same HOX.out fun g hg => hal.1.block g (own0_lt HOX.out hg)
            clear hal hat e0 hW1 hW1s
            go_wp2_with (at_builtin; rw [← HW1S.out]; refine wpList_append_lies _ rfl _ _ 40 (by rfl) 0 42 iI _ 6 104 Try.underlying40 hI0 hI1 hI2 hI3 rfl (by decide) (.slice ao j ko) j _ (by rfl) HO1.out ⟨wr.heap.size + 1 + 1 + 1 + 1, 0, none⟩ 1 1 [Value.int IntKind.i64 3, Value.slice (some ⟨wr.heap.size + 1, 0, none⟩) 1 1, Value.slice (some ⟨wr.heap.size + 1 + 1 + 1, 0, none⟩) 2 2, Value.int IntKind.i64 0, Value.string { data := sx.toArray }, Value.slice none 0 0] (by rfl) rfl HNW.out (by intro u hu; simp at hu; rcases hu with rfl | rfl | rfl | rfl | rfl | rfl <;> rfl) (by decide) (by unfold maxLen; omega) (by omega) (Nat.zero_le _) (wr.heap.size + 1 + 1 + 1 + 1 + 1) HS1.out ?_)
            intro g cp w1 hown hgrow hat hlt1
            have hpush := push_ins HXX.out.1 HXX.out.2.1 HXX.out.2.2.1 HOX.out hoj HXX.out.2.2.2 HB1.out HPI.out rfl hgrow (by rcases hat with h | h; exact .inl h; exact .inr (by rw [h, HS1.out])) hown HBX.out.size
            have HN : Hid (OwnL 6 42 PIn (fun g => wz.heap.size ≤ g) w1 (.slice (some ⟨g, 0, none⟩) (j + 1) cp) (ob ++ [⟨3, [x1], [x2, x3], 0, sx, []⟩])) := hpush.1
            have HBN : Hid (Below wz.heap.size wz w1) := HBX.out.trans hpush.2
            clear hown hgrow hat hlt1 hpush
            go_wp2_with fail
            go_roundg gj
            case measure => omega
            case rel => exact ⟨j + 1, _, by go_num, by omega, HBN, HN, by simp [hoj]⟩
          · obtain ⟨sx, hsx, hsl⟩ := str_at k5 hk56
            have pS : (((wr.alloc (Obj.cells #[Value.int IntKind.i64 rk, Value.int IntKind.i64 rA, Value.int IntKind.i64 rB, Value.int IntKind.i64 rC] 53)).alloc (Obj.cells #[Value.int IntKind.i64 x1] 3)).alloc (Obj.cells #[Value.string { data := #[43] }, Value.string { data := #[45] }, Value.string { data := #[42] }, Value.string { data := #[60] }, Value.string { data := #[61, 61] }, Value.string { data := #[47] }] 9)).cell? ⟨wr.heap.size + 1 + 1, k5, none⟩ = some (.string ⟨sx.toArray⟩) := by
              have h9 := allocs_at [Obj.cells #[Value.int IntKind.i64 rk, Value.int IntKind.i64 rA, Value.int IntKind.i64 rB, Value.int IntKind.i64 rC] 53, Obj.cells #[Value.int IntKind.i64 x1] 3, Obj.cells #[Value.string { data := #[43] }, Value.string { data := #[45] }, Value.string { data := #[42] }, Value.string { data := #[60] }, Value.string { data := #[61, 61] }, Value.string { data := #[47] }] 9] wr 2 (by simp)
              have h10 : (((wr.alloc (Obj.cells #[Value.int IntKind.i64 rk, Value.int IntKind.i64 rA, Value.int IntKind.i64 rB, Value.int IntKind.i64 rC] 53)).alloc (Obj.cells #[Value.int IntKind.i64 x1] 3)).alloc (Obj.cells #[Value.string { data := #[43] }, Value.string { data := #[45] }, Value.string { data := #[42] }, Value.string { data := #[60] }, Value.string { data := #[61, 61] }, Value.string { data := #[47] }] 9)).heap[wr.heap.size + 1 + 1]? = some (Obj.cells #[Value.string { data := #[43] }, Value.string { data := #[45] }, Value.string { data := #[42] }, Value.string { data := #[60] }, Value.string { data := #[61, 61] }, Value.string { data := #[47] }] 9) := h9
              simp only [World.cell?, h10]
              exact hsx
            clear hsx
            go_wp2_with fail
            refine Calls.mono (HPK.out _).2.2.2.2.2 ?_
            rintro e w5 ⟨rfl, rfl⟩
            obtain ⟨W1, hW1⟩ : ∃ W1, W1 = (((((wr.alloc (Obj.cells #[Value.int IntKind.i64 rk, Value.int IntKind.i64 rA, Value.int IntKind.i64 rB, Value.int IntKind.i64 rC] 53)).alloc (Obj.cells #[Value.int IntKind.i64 x1] 3)).alloc (Obj.cells #[Value.string { data := #[43] }, Value.string { data := #[45] }, Value.string { data := #[42] }, Value.string { data := #[60] }, Value.string { data := #[61, 61] }, Value.string { data := #[47] }] 9)).alloc (Obj.cells #[Value.int IntKind.i64 x2, Value.int IntKind.i64 x3] 3)).alloc (Obj.cells #[Value.int IntKind.i64 3, Value.slice (some ⟨wr.heap.size + 1, 0, none⟩) 1 1, Value.slice (some ⟨wr.heap.size + 1 + 1 + 1, 0, none⟩) 2 2, Value.int IntKind.i64 0, Value.string { data := sx.toArray }, Value.slice none 0 0] 42)) := ⟨_, rfl⟩
            have hal := allocs_below [Obj.cells #[Value.int IntKind.i64 rk, Value.int IntKind.i64 rA, Value.int IntKind.i64 rB, Value.int IntKind.i64 rC] 53, Obj.cells #[Value.int IntKind.i64 x1] 3, Obj.cells #[Value.string { data := #[43] }, Value.string { data := #[45] }, Value.string { data := #[42] }, Value.string { data := #[60] }, Value.string { data := #[61, 61] }, Value.string { data := #[47] }] 9, Obj.cells #[Value.int IntKind.i64 x2, Value.int IntKind.i64 x3] 3, Obj.cells #[Value.int IntKind.i64 3, Value.slice (some ⟨wr.heap.size + 1, 0, none⟩) 1 1, Value.slice (some ⟨wr.heap.size + 1 + 1 + 1, 0, none⟩) 2 2, Value.int IntKind.i64 0, Value.string { data := sx.toArray }, Value.slice none 0 0] 42] wr
            have hat := allocs_at [Obj.cells #[Value.int IntKind.i64 rk, Value.int IntKind.i64 rA, Value.int IntKind.i64 rB, Value.int IntKind.i64 rC] 53, Obj.cells #[Value.int IntKind.i64 x1] 3, Obj.cells #[Value.string { data := #[43] }, Value.string { data := #[45] }, Value.string { data := #[42] }, Value.string { data := #[60] }, Value.string { data := #[61, 61] }, Value.string { data := #[47] }] 9, Obj.cells #[Value.int IntKind.i64 x2, Value.int IntKind.i64 x3] 3, Obj.cells #[Value.int IntKind.i64 3, Value.slice (some ⟨wr.heap.size + 1, 0, none⟩) 1 1, Value.slice (some ⟨wr.heap.size + 1 + 1 + 1, 0, none⟩) 2 2, Value.int IntKind.i64 0, Value.string { data := sx.toArray }, Value.slice none 0 0] 42] wr
            have e0 : List.foldl World.alloc wr [Obj.cells #[Value.int IntKind.i64 rk, Value.int IntKind.i64 rA, Value.int IntKind.i64 rB, Value.int IntKind.i64 rC] 53, Obj.cells #[Value.int IntKind.i64 x1] 3, Obj.cells #[Value.string { data := #[43] }, Value.string { data := #[45] }, Value.string { data := #[42] }, Value.string { data := #[60] }, Value.string { data := #[61, 61] }, Value.string { data := #[47] }] 9, Obj.cells #[Value.int IntKind.i64 x2, Value.int IntKind.i64 x3] 3, Obj.cells #[Value.int IntKind.i64 3, Value.slice (some ⟨wr.heap.size + 1, 0, none⟩) 1 1, Value.slice (some ⟨wr.heap.size + 1 + 1 + 1, 0, none⟩) 2 2, Value.int IntKind.i64 0, Value.string { data := sx.toArray }, Value.slice none 0 0] 42] = W1 := hW1.symm
            rw [e0] at hal hat
            have hW1s : W1.heap.size = wr.heap.size + 1 + 1 + 1 + 1 + 1 := by rw [hal.2]; rfl
            have HW1S : Hid (W1 = _) := hW1
            have HS1 : Hid (W1.heap.size = wr.heap.size + 1 + 1 + 1 + 1 + 1) := hW1s
            have HB1 : Hid (Below wr.heap.size wr W1) := hal.1
            have HNW : Hid (∀ jj u, [Value.int IntKind.i64 3, Value.slice (some ⟨wr.heap.size + 1, 0, none⟩) 1 1, Value.slice (some ⟨wr.heap.size + 1 + 1 + 1, 0, none⟩) 2 2, Value.int IntKind.i64 0, Value.string { data := sx.toArray }, Value.slice none 0 0][jj]? = some u → W1.cell? ((⟨wr.heap.size + 1 + 1 + 1 + 1, 0, none⟩ : Addr).add jj) = some u) := World.news_of_block (by have h9 := hat 4 (by simp); exact h9)
            have HPI : Hid (PIn (fun g => wr.heap.size ≤ g) W1 [Value.int IntKind.i64 3, Value.slice (some ⟨wr.heap.size + 1, 0, none⟩) 1 1, Value.slice (some ⟨wr.heap.size + 1 + 1 + 1, 0, none⟩) 2 2, Value.int IntKind.i64 0, Value.string { data := sx.toArray }, Value.slice none 0 0] ⟨3, [x1], [x2, x3], 0, sx, []⟩) := by
              have hxb := HXB.out
              refine ⟨_, _, _, rfl, ⟨by simp [maxLen], (by intro x hx; simp at hx; subst hx; exact hxb.1), .inr ⟨wr.heap.size + 1, _, rfl, by omega, by omega, 3, by have h9 := hat 1 (by simp); exact h9⟩⟩, ⟨by simp [maxLen], (by intro x hx; simp at hx; rcases hx with rfl | rfl; exact hxb.2.1; exact hxb.2.2.1), .inr ⟨wr.heap.size + 1 + 1 + 1, _, rfl, by omega, by omega, 3, by have h9 := hat 3 (by simp); exact h9⟩⟩, ⟨by simp [maxLen], (fun _ h => by cases h), .inl ⟨rfl, rfl⟩⟩, by unfold maxLen; simp only; omega, (show I64 0 from ⟨by decide, by decide⟩)⟩
            have HO1 : Hid (W1.ownsRow 0 42 6 (.slice ao j ko) j xs.flatten) := own_same HOX.out fun g hg => hal.1.block g (own0_lt HOX.out hg)
            clear hal hat e0 hW1 hW1s
            go_wp2_with (at_builtin; rw [← HW1S.out]; refine wpList_append_lies _ rfl _ _ 40 (by rfl) 0 42 iI _ 6 104 Try.underlying40 hI0 hI1 hI2 hI3 rfl (by decide) (.slice ao j ko) j _ (by rfl) HO1.out ⟨wr.heap.size + 1 + 1 + 1 + 1, 0, none⟩ 1 1 [Value.int IntKind.i64 3, Value.slice (some ⟨wr.heap.size + 1, 0, none⟩) 1 1, Value.slice (some ⟨wr.heap.size + 1 + 1 + 1, 0, none⟩) 2 2, Value.int IntKind.i64 0, Value.string { data := sx.toArray }, Value.slice none 0 0] (by rfl) rfl HNW.out (by intro u hu; simp at hu; rcases hu with rfl | rfl | rfl | rfl | rfl | rfl <;> rfl) (by decide) (by unfold maxLen; omega) (by omega) (Nat.zero_le _) (wr.heap.size + 1 + 1 + 1 + 1 + 1) HS1.out ?_)
            intro g cp w1 hown hgrow hat hlt1
            have hpush := push_ins HXX.out.1 HXX.out.2.1 HXX.out.2.2.1 HOX.out hoj HXX.out.2.2.2 HB1.out HPI.out rfl hgrow (by rcases hat with h | h; exact .inl h; exact .inr (by rw [h, HS1.out])) hown HBX.out.size
            have HN : Hid (OwnL 6 42 PIn (fun g => wz.heap.size ≤ g) w1 (.slice (some ⟨g, 0, none⟩) (j + 1) cp) (ob ++ [⟨3, [x1], [x2, x3], 0, sx, []⟩])) := hpush.1
            have HBN : Hid (Below wz.heap.size wz w1) := HBX.out.trans hpush.2
            clear hown hgrow hat hlt1 hpush
            go_wp2_with fail
            go_roundg gj
            case measure => omega
            case rel => exact ⟨j + 1, _, by go_num, by omega, HBN, HN, by simp [hoj]⟩
          · obtain ⟨sx, hsx, hsl⟩ := str_at k5 hk56
            have pS : (((wr.alloc (Obj.cells #[Value.int IntKind.i64 rk, Value.int IntKind.i64 rA, Value.int IntKind.i64 rB, Value.int IntKind.i64 rC] 53)).alloc (Obj.cells #[Value.int IntKind.i64 x1] 3)).alloc (Obj.cells #[Value.string { data := #[43] }, Value.string { data := #[45] }, Value.string { data := #[42] }, Value.string { data := #[60] }, Value.string { data := #[61, 61] }, Value.string { data := #[47] }] 9)).cell? ⟨wr.heap.size + 1 + 1, k5, none⟩ = some (.string ⟨sx.toArray⟩) := by
              have h9 := allocs_at [Obj.cells #[Value.int IntKind.i64 rk, Value.int IntKind.i64 rA, Value.int IntKind.i64 rB, Value.int IntKind.i64 rC] 53, Obj.cells #[Value.int IntKind.i64 x1] 3, Obj.cells #[Value.string { data := #[43] }, Value.string { data := #[45] }, Value.string { data := #[42] }, Value.string { data := #[60] }, Value.string { data := #[61, 61] }, Value.string { data := #[47] }] 9] wr 2 (by simp)
              have h10 : (((wr.alloc (Obj.cells #[Value.int IntKind.i64 rk, Value.int IntKind.i64 rA, Value.int IntKind.i64 rB, Value.int IntKind.i64 rC] 53)).alloc (Obj.cells #[Value.int IntKind.i64 x1] 3)).alloc (Obj.cells #[Value.string { data := #[43] }, Value.string { data := #[45] }, Value.string { data := #[42] }, Value.string { data := #[60] }, Value.string { data := #[61, 61] }, Value.string { data := #[47] }] 9)).heap[wr.heap.size + 1 + 1]? = some (Obj.cells #[Value.string { data := #[43] }, Value.string { data := #[45] }, Value.string { data := #[42] }, Value.string { data := #[60] }, Value.string { data := #[61, 61] }, Value.string { data := #[47] }] 9) := h9
              simp only [World.cell?, h10]
              exact hsx
            clear hsx
            go_wp2_with fail
            refine Calls.mono (HPK.out _).2.2.2.2.2 ?_
            rintro e w5 ⟨rfl, rfl⟩
            obtain ⟨W1, hW1⟩ : ∃ W1, W1 = (((((wr.alloc (Obj.cells #[Value.int IntKind.i64 rk, Value.int IntKind.i64 rA, Value.int IntKind.i64 rB, Value.int IntKind.i64 rC] 53)).alloc (Obj.cells #[Value.int IntKind.i64 x1] 3)).alloc (Obj.cells #[Value.string { data := #[43] }, Value.string { data := #[45] }, Value.string { data := #[42] }, Value.string { data := #[60] }, Value.string { data := #[61, 61] }, Value.string { data := #[47] }] 9)).alloc (Obj.cells #[Value.int IntKind.i64 x2, Value.int IntKind.i64 x3] 3)).alloc (Obj.cells #[Value.int IntKind.i64 3, Value.slice (some ⟨wr.heap.size + 1, 0, none⟩) 1 1, Value.slice (some ⟨wr.heap.size + 1 + 1 + 1, 0, none⟩) 2 2, Value.int IntKind.i64 0, Value.string { data := sx.toArray }, Value.slice none 0 0] 42)) := ⟨_, rfl⟩
            have hal := allocs_below [Obj.cells #[Value.int IntKind.i64 rk, Value.int IntKind.i64 rA, Value.int IntKind.i64 rB, Value.int IntKind.i64 rC] 53, Obj.cells #[Value.int IntKind.i64 x1] 3, Obj.cells #[Value.string { data := #[43] }, Value.string { data := #[45] }, Value.string { data := #[42] }, Value.string { data := #[60] }, Value.string { data := #[61, 61] }, Value.string { data := #[47] }] 9, Obj.cells #[Value.int IntKind.i64 x2, Value.int IntKind.i64 x3] 3, Obj.cells #[Value.int IntKind.i64 3, Value.slice (some ⟨wr.heap.size + 1, 0, none⟩) 1 1, Value.slice (some ⟨wr.heap.size + 1 + 1 + 1, 0, none⟩) 2 2, Value.int IntKind.i64 0, Value.string { data := sx.toArray }, Value.slice none 0 0] 42] wr
            have hat := allocs_at [Obj.cells #[Value.int IntKind.i64 rk, Value.int IntKind.i64 rA, Value.int IntKind.i64 rB, Value.int IntKind.i64 rC] 53, Obj.cells #[Value.int IntKind.i64 x1] 3, Obj.cells #[Value.string { data := #[43] }, Value.string { data := #[45] }, Value.string { data := #[42] }, Value.string { data := #[60] }, Value.string { data := #[61, 61] }, Value.string { data := #[47] }] 9, Obj.cells #[Value.int IntKind.i64 x2, Value.int IntKind.i64 x3] 3, Obj.cells #[Value.int IntKind.i64 3, Value.slice (some ⟨wr.heap.size + 1, 0, none⟩) 1 1, Value.slice (some ⟨wr.heap.size + 1 + 1 + 1, 0, none⟩) 2 2, Value.int IntKind.i64 0, Value.string { data := sx.toArray }, Value.slice none 0 0] 42] wr
            have e0 : List.foldl World.alloc wr [Obj.cells #[Value.int IntKind.i64 rk, Value.int IntKind.i64 rA, Value.int IntKind.i64 rB, Value.int IntKind.i64 rC] 53, Obj.cells #[Value.int IntKind.i64 x1] 3, Obj.cells #[Value.string { data := #[43] }, Value.string { data := #[45] }, Value.string { data := #[42] }, Value.string { data := #[60] }, Value.string { data := #[61, 61] }, Value.string { data := #[47] }] 9, Obj.cells #[Value.int IntKind.i64 x2, Value.int IntKind.i64 x3] 3, Obj.cells #[Value.int IntKind.i64 3, Value.slice (some ⟨wr.heap.size + 1, 0, none⟩) 1 1, Value.slice (some ⟨wr.heap.size + 1 + 1 + 1, 0, none⟩) 2 2, Value.int IntKind.i64 0, Value.string { data := sx.toArray }, Value.slice none 0 0] 42] = W1 := hW1.symm
            rw [e0] at hal hat
            have hW1s : W1.heap.size = wr.heap.size + 1 + 1 + 1 + 1 + 1 := by rw [hal.2]; rfl
            have HW1S : Hid (W1 = _) := hW1
            have HS1 : Hid (W1.heap.size = wr.heap.size + 1 + 1 + 1 + 1 + 1) := hW1s
            have HB1 : Hid (Below wr.heap.size wr W1) := hal.1
            have HNW : Hid (∀ jj u, [Value.int IntKind.i64 3, Value.slice (some ⟨wr.heap.size + 1, 0, none⟩) 1 1, Value.slice (some ⟨wr.heap.size + 1 + 1 + 1, 0, none⟩) 2 2, Value.int IntKind.i64 0, Value.string { data := sx.toArray }, Value.slice none 0 0][jj]? = some u → W1.cell? ((⟨wr.heap.size + 1 + 1 + 1 + 1, 0, none⟩ : Addr).add jj) = some u) := World.news_of_block (by have h9 := hat 4 (by simp); exact h9)
            have HPI : Hid (PIn (fun g => wr.heap.size ≤ g) W1 [Value.int IntKind.i64 3, Value.slice (some ⟨wr.heap.size + 1, 0, none⟩) 1 1, Value.slice (some ⟨wr.heap.size + 1 + 1 + 1, 0, none⟩) 2 2, Value.int IntKind.i64 0, Value.string { data := sx.toArray }, Value.slice none 0 0] ⟨3, [x1], [x2, x3], 0, sx, []⟩) := by
              have hxb := HXB.out
              refine ⟨_, _, _, rfl, ⟨by simp [maxLen], (by intro x hx; simp at hx; subst hx; exact hxb.1), .inr ⟨wr.heap.size + 1, _, rfl, by omega, by omega, 3, by have h9 := hat 1 (by simp); exact h9⟩⟩, ⟨by simp [maxLen], (by intro x hx; simp at hx; rcases hx with rfl | rfl; exact hxb.2.1; exact hxb.2.2.1), .inr ⟨wr.heap.size + 1 + 1 + 1, _, rfl, by omega, by omega, 3, by have h9 := hat 3 (by simp); exact h9⟩⟩, ⟨by simp [maxLen], (fun _ h => by cases h), .inl ⟨rfl, rfl⟩⟩, by unfold maxLen; simp only; omega, (show I64 0 from ⟨by decide, by decide⟩)⟩
            have HO1 : Hid (W1.ownsRow 0 42 6 (.slice ao j ko) j xs.flatten) := own_same HOX.out fun g hg => hal.1.block g (own0_lt HOX.out hg)
            clear hal hat e0 hW1 hW1s
            go_wp2_with (at_builtin; rw [← HW1S.out]; refine wpList_append_lies _ rfl _ _ 40 (by rfl) 0 42 iI _ 6 104 Try.underlying40 hI0 hI1 hI2 hI3 rfl (by decide) (.slice ao j ko) j _ (by rfl) HO1.out ⟨wr.heap.size + 1 + 1 + 1 + 1, 0, none⟩ 1 1 [Value.int IntKind.i64 3, Value.slice (some ⟨wr.heap.size + 1, 0, none⟩) 1 1, Value.slice (some ⟨wr.heap.size + 1 + 1 + 1, 0, none⟩) 2 2, Value.int IntKind.i64 0, Value.string { data := sx.toArray }, Value.slice none 0 0] (by rfl) rfl HNW.out (by intro u hu; simp at hu; rcases hu with rfl | rfl | rfl | rfl | rfl | rfl <;> rfl) (by decide) (by unfold maxLen; omega) (by omega) (Nat.zero_le _) (wr.heap.size + 1 + 1 + 1 + 1 + 1) HS1.out ?_)
            intro g cp w1 hown hgrow hat hlt1
            have hpush := push_ins HXX.out.1 HXX.out.2.1 HXX.out.2.2.1 HOX.out hoj HXX.out.2.2.2 HB1.out HPI.out rfl hgrow (by rcases hat with h | h; exact .inl h; exact .inr (by rw [h, HS1.out])) hown HBX.out.size
            have HN : Hid (OwnL 6 42 PIn (fun g => wz.heap.size ≤ g) w1 (.slice (some ⟨g, 0, none⟩) (j + 1) cp) (ob ++ [⟨3, [x1], [x2, x3], 0, sx, []⟩])) := hpush.1
            have HBN : Hid (Below wz.heap.size wz w1) := HBX.out.trans hpush.2
            clear hown hgrow hat hlt1 hpush
            go_wp2_with fail
            go_roundg gj
            case measure => omega
            case rel => exact ⟨j + 1, _, by go_num, by omega, HBN, HN, by simp [hoj]⟩
          · obtain ⟨W1, hW1⟩ : ∃ W1, W1 = ((((wr.alloc (Obj.cells #[Value.int IntKind.i64 rk, Value.int IntKind.i64 rA, Value.int IntKind.i64 rB, Value.int IntKind.i64 rC] 53)).alloc (Obj.cells #[Value.int IntKind.i64 x1] 3)).alloc (Obj.cells #[Value.int IntKind.i64 x2] 3)).alloc (Obj.cells #[Value.int IntKind.i64 2, Value.slice (some ⟨wr.heap.size + 1, 0, none⟩) 1 1, Value.slice (some ⟨wr.heap.size + 1 + 1, 0, none⟩) 1 1, Value.int IntKind.i64 0, Value.string { data := #[] }, Value.slice none 0 0] 42)) := ⟨_, rfl⟩
            have hal := allocs_below [Obj.cells #[Value.int IntKind.i64 rk, Value.int IntKind.i64 rA, Value.int IntKind.i64 rB, Value.int IntKind.i64 rC] 53, Obj.cells #[Value.int IntKind.i64 x1] 3, Obj.cells #[Value.int IntKind.i64 x2] 3, Obj.cells #[Value.int IntKind.i64 2, Value.slice (some ⟨wr.heap.size + 1, 0, none⟩) 1 1, Value.slice (some ⟨wr.heap.size + 1 + 1, 0, none⟩) 1 1, Value.int IntKind.i64 0, Value.string { data := #[] }, Value.slice none 0 0] 42] wr
            have hat := allocs_at [Obj.cells #[Value.int IntKind.i64 rk, Value.int IntKind.i64 rA, Value.int IntKind.i64 rB, Value.int IntKind.i64 rC] 53, Obj.cells #[Value.int IntKind.i64 x1] 3, Obj.cells #[Value.int IntKind.i64 x2] 3, Obj.cells #[Value.int IntKind.i64 2, Value.slice (some ⟨wr.heap.size + 1, 0, none⟩) 1 1, Value.slice (some ⟨wr.heap.size + 1 + 1, 0, none⟩) 1 1, Value.int IntKind.i64 0, Value.string { data := #[] }, Value.slice none 0 0] 42] wr
            have e0 : List.foldl World.alloc wr [Obj.cells #[Value.int IntKind.i64 rk, Value.int IntKind.i64 rA, Value.int IntKind.i64 rB, Value.int IntKind.i64 rC] 53, Obj.cells #[Value.int IntKind.i64 x1] 3, Obj.cells #[Value.int IntKind.i64 x2] 3, Obj.cells #[Value.int IntKind.i64 2, Value.slice (some ⟨wr.heap.size + 1, 0, none⟩) 1 1, Value.slice (some ⟨wr.heap.size + 1 + 1, 0, none⟩) 1 1, Value.int IntKind.i64 0, Value.string { data := #[] }, Value.slice none 0 0] 42] = W1 := hW1.symm
            rw [e0] at hal hat
            have hW1s : W1.heap.size = wr.heap.size + 1 + 1 + 1 + 1 := by rw [hal.2]; rfl
            have HW1S : Hid (W1 = _) := hW1
            have HS1 : Hid (W1.heap.size = wr.heap.size + 1 + 1 + 1 + 1) := hW1s
            have HB1 : Hid (Below wr.heap.size wr W1) := hal.1
            have HNW : Hid (∀ jj u, [Value.int IntKind.i64 2, Value.slice (some ⟨wr.heap.size + 1, 0, none⟩) 1 1, Value.slice (some ⟨wr.heap.size + 1 + 1, 0, none⟩) 1 1, Value.int IntKind.i64 0, Value.string { data := #[] }, Value.slice none 0 0][jj]? = some u → W1.cell? ((⟨wr.heap.size + 1 + 1 + 1, 0, none⟩ : Addr).add jj) = some u) := World.news_of_block (by have h9 := hat 3 (by simp); exact h9)
            have HPI : Hid (PIn (fun g => wr.heap.size ≤ g) W1 [Value.int IntKind.i64 2, Value.slice (some ⟨wr.heap.size + 1, 0, none⟩) 1 1, Value.slice (some ⟨wr.heap.size + 1 + 1, 0, none⟩) 1 1, Value.int IntKind.i64 0, Value.string { data := #[] }, Value.slice none 0 0] ⟨2, [x1], [x2], 0, [], []⟩) := by
              have hxb := HXB.out
              refine ⟨_, _, _, rfl, ⟨by simp [maxLen], (by intro x hx; simp at hx; subst hx; exact hxb.1), .inr ⟨wr.heap.size + 1, _, rfl, by omega, by omega, 3, by have h9 := hat 1 (by simp); exact h9⟩⟩, ⟨by simp [maxLen], (by intro x hx; simp at hx; subst hx; exact hxb.2.1), .inr ⟨wr.heap.size + 1 + 1, _, rfl, by omega, by omega, 3, by have h9 := hat 2 (by simp); exact h9⟩⟩, ⟨by simp [maxLen], (fun _ h => by cases h), .inl ⟨rfl, rfl⟩⟩, by simp [maxLen], (show I64 0 from ⟨by decide, by decide⟩)⟩
            have HO1 : Hid (W1.ownsRow 0 42 6 (.slice ao j ko) j xs.flatten) := own_same HOX.out fun g hg => hal.1.block g (own0_lt HOX.out hg)
            clear hal hat e0 hW1 hW1s
            go_wp2_with (at_builtin; rw [← HW1S.out]; refine wpList_append_lies _ rfl _ _ 40 (by rfl) 0 42 iI _ 6 104 Try.underlying40 hI0 hI1 hI2 hI3 rfl (by decide) (.slice ao j ko) j _ (by rfl) HO1.out ⟨wr.heap.size + 1 + 1 + 1, 0, none⟩ 1 1 [Value.int IntKind.i64 2, Value.slice (some ⟨wr.heap.size + 1, 0, none⟩) 1 1, Value.slice (some ⟨wr.heap.size + 1 + 1, 0, none⟩) 1 1, Value.int IntKind.i64 0, Value.string { data := #[] }, Value.slice none 0 0] (by rfl) rfl HNW.out (by intro u hu; simp at hu; rcases hu with rfl | rfl | rfl | rfl | rfl | rfl <;> rfl) (by decide) (by unfold maxLen; omega) (by omega) (Nat.zero_le _) (wr.heap.size + 1 + 1 + 1 + 1) HS1.out ?_)
            intro g cp w1 hown hgrow hat hlt1
            have hpush := push_ins HXX.out.1 HXX.out.2.1 HXX.out.2.2.1 HOX.out hoj HXX.out.2.2.2 HB1.out HPI.out rfl hgrow (by rcases hat with h | h; exact .inl h; exact .inr (by rw [h, HS1.out])) hown HBX.out.size
            have HN : Hid (OwnL 6 42 PIn (fun g => wz.heap.size ≤ g) w1 (.slice (some ⟨g, 0, none⟩) (j + 1) cp) (ob ++ [⟨2, [x1], [x2], 0, [], []⟩])) := hpush.1
            have HBN : Hid (Below wz.heap.size wz w1) := HBX.out.trans hpush.2
            clear hown hgrow hat hlt1 hpush
            go_wp2_with fail
            go_roundg gj
            case measure => omega
            case rel => exact ⟨j + 1, _, by go_num, by omega, HBN, HN, by simp [hoj]⟩
          · obtain ⟨W1, hW1⟩ : ∃ W1, W1 = ((((wr.alloc (Obj.cells #[Value.int IntKind.i64 rk, Value.int IntKind.i64 rA, Value.int IntKind.i64 rB, Value.int IntKind.i64 rC] 53)).alloc (Obj.cells #[Value.int IntKind.i64 x1] 3)).alloc (Obj.cells #[Value.int IntKind.i64 x2, Value.int IntKind.i64 x3] 3)).alloc (Obj.cells #[Value.int IntKind.i64 7, Value.slice (some ⟨wr.heap.size + 1, 0, none⟩) 1 1, Value.slice (some ⟨wr.heap.size + 1 + 1, 0, none⟩) 2 2, Value.int IntKind.i64 0, Value.string { data := #[103] }, Value.slice none 0 0] 42)) := ⟨_, rfl⟩
            have hal := allocs_below [Obj.cells #[Value.int IntKind.i64 rk, Value.int IntKind.i64 rA, Value.int IntKind.i64 rB, Value.int IntKind.i64 rC] 53, Obj.cells #[Value.int IntKind.i64 x1] 3, Obj.cells #[Value.int IntKind.i64 x2, Value.int IntKind.i64 x3] 3, Obj.cells #[Value.int IntKind.i64 7, Value.slice (some ⟨wr.heap.size + 1, 0, none⟩) 1 1, Value.slice (some ⟨wr.heap.size + 1 + 1, 0, none⟩) 2 2, Value.int IntKind.i64 0, Value.string { data := #[103] }, Value.slice none 0 0] 42] wr
            have hat := allocs_at [Obj.cells #[Value.int IntKind.i64 rk, Value.int IntKind.i64 rA, Value.int IntKind.i64 rB, Value.int IntKind.i64 rC] 53, Obj.cells #[Value.int IntKind.i64 x1] 3, Obj.cells #[Value.int IntKind.i64 x2, Value.int IntKind.i64 x3] 3, Obj.cells #[Value.int IntKind.i64 7, Value.slice (some ⟨wr.heap.size + 1, 0, none⟩) 1 1, Value.slice (some ⟨wr.heap.size + 1 + 1, 0, none⟩) 2 2, Value.int IntKind.i64 0, Value.string { data := #[103] }, Value.slice none 0 0] 42] wr
            have e0 : List.foldl World.alloc wr [Obj.cells #[Value.int IntKind.i64 rk, Value.int IntKind.i64 rA, Value.int IntKind.i64 rB, Value.int IntKind.i64 rC] 53, Obj.cells #[Value.int IntKind.i64 x1] 3, Obj.cells #[Value.int IntKind.i64 x2, Value.int IntKind.i64 x3] 3, Obj.cells #[Value.int IntKind.i64 7, Value.slice (some ⟨wr.heap.size + 1, 0, none⟩) 1 1, Value.slice (some ⟨wr.heap.size + 1 + 1, 0, none⟩) 2 2, Value.int IntKind.i64 0, Value.string { data := #[103] }, Value.slice none 0 0] 42] = W1 := hW1.symm
            rw [e0] at hal hat
            have hW1s : W1.heap.size = wr.heap.size + 1 + 1 + 1 + 1 := by rw [hal.2]; rfl
            have HW1S : Hid (W1 = _) := hW1
            have HS1 : Hid (W1.heap.size = wr.heap.size + 1 + 1 + 1 + 1) := hW1s
            have HB1 : Hid (Below wr.heap.size wr W1) := hal.1
            have HNW : Hid (∀ jj u, [Value.int IntKind.i64 7, Value.slice (some ⟨wr.heap.size + 1, 0, none⟩) 1 1, Value.slice (some ⟨wr.heap.size + 1 + 1, 0, none⟩) 2 2, Value.int IntKind.i64 0, Value.string { data := #[103] }, Value.slice none 0 0][jj]? = some u → W1.cell? ((⟨wr.heap.size + 1 + 1 + 1, 0, none⟩ : Addr).add jj) = some u) := World.news_of_block (by have h9 := hat 3 (by simp); exact h9)
            have HPI : Hid (PIn (fun g => wr.heap.size ≤ g) W1 [Value.int IntKind.i64 7, Value.slice (some ⟨wr.heap.size + 1, 0, none⟩) 1 1, Value.slice (some ⟨wr.heap.size + 1 + 1, 0, none⟩) 2 2, Value.int IntKind.i64 0, Value.string { data := #[103] }, Value.slice none 0 0] ⟨7, [x1], [x2, x3], 0, [103], []⟩) := by
              have hxb := HXB.out
              refine ⟨_, _, _, rfl, ⟨by simp [maxLen], (by intro x hx; simp at hx; subst hx; exact hxb.1), .inr ⟨wr.heap.size + 1, _, rfl, by omega, by omega, 3, by have h9 := hat 1 (by simp); exact h9⟩⟩, ⟨by simp [maxLen], (by intro x hx; simp at hx; rcases hx with rfl | rfl; exact hxb.2.1; exact hxb.2.2.1), .inr ⟨wr.heap.size + 1 + 1, _, rfl, by omega, by omega, 3, by have h9 := hat 2 (by simp); exact h9⟩⟩, ⟨by simp [maxLen], (fun _ h => by cases h), .inl ⟨rfl, rfl⟩⟩, by simp [maxLen], (show I64 0 from ⟨by decide, by decide⟩)⟩
            have HO1 : Hid (W1.ownsRow 0 42 6 (.slice ao j ko) j xs.flatten) := own_same HOX.out fun g hg => hal.1.block g (own0_lt HOX.out hg)
            clear hal hat e0 hW1 hW1s
            go_wp2_with (at_builtin; rw [← HW1S.out]; refine wpList_append_lies _ rfl _ _ 40 (by rfl) 0 42 iI _ 6 104 Try.underlying40 hI0 hI1 hI2 hI3 rfl (by decide) (.slice ao j ko) j _ (by rfl) HO1.out ⟨wr.heap.size + 1 + 1 + 1, 0, none⟩ 1 1 [Value.int IntKind.i64 7, Value.slice (some ⟨wr.heap.size + 1, 0, none⟩) 1 1, Value.slice (some ⟨wr.heap.size + 1 + 1, 0, none⟩) 2 2, Value.int IntKind.i64 0, Value.string { data := #[103] }, Value.slice none 0 0] (by rfl) rfl HNW.out (by intro u hu; simp at hu; rcases hu with rfl | rfl | rfl | rfl | rfl | rfl <;> rfl) (by decide) (by unfold maxLen; omega) (by omega) (Nat.zero_le _) (wr.heap.size + 1 + 1 + 1 + 1) HS1.out ?_)
            intro g cp w1 hown hgrow hat hlt1
            have hpush := push_ins HXX.out.1 HXX.out.2.1 HXX.out.2.2.1 HOX.out hoj HXX.out.2.2.2 HB1.out HPI.out rfl hgrow (by rcases hat with h | h; exact .inl h; exact .inr (by rw [h, HS1.out])) hown HBX.out.size
            have HN : Hid (OwnL 6 42 PIn (fun g => wz.heap.size ≤ g) w1 (.slice (some ⟨g, 0, none⟩) (j + 1) cp) (ob ++ [⟨7, [x1], [x2, x3], 0, [103], []⟩])) := hpush.1
            have HBN : Hid (Below wz.heap.size wz w1) := HBX.out.trans hpush.2
            clear hown hgrow hat hlt1 hpush
            go_wp2_with fail
            go_roundg gj
            case measure => omega
            case rel => exact ⟨j + 1, _, by go_num, by omega, HBN, HN, by simp [hoj]⟩
          · go_wp2_with fail
            refine Calls.mono (HPK.out _).2.2.2.2.1 ?_
            rintro e w5 ⟨rfl, rfl⟩
            obtain ⟨W1, hW1⟩ : ∃ W1, W1 = ((((wr.alloc (Obj.cells #[Value.int IntKind.i64 rk, Value.int IntKind.i64 rA, Value.int IntKind.i64 rB, Value.int IntKind.i64 rC] 53)).alloc (Obj.cells #[Value.int IntKind.i64 x1] 3)).alloc (Obj.cells #[Value.int IntKind.i64 x2] 3)).alloc (Obj.cells #[Value.int IntKind.i64 4, Value.slice (some ⟨wr.heap.size + 1, 0, none⟩) 1 1, Value.slice (some ⟨wr.heap.size + 1 + 1, 0, none⟩) 1 1, Value.int IntKind.i64 x4, Value.string { data := #[] }, Value.slice none 0 0] 42)) := ⟨_, rfl⟩
            have hal := allocs_below [Obj.cells #[Value.int IntKind.i64 rk, Value.int IntKind.i64 rA, Value.int IntKind.i64 rB, Value.int IntKind.i64 rC] 53, Obj.cells #[Value.int IntKind.i64 x1] 3, Obj.cells #[Value.int IntKind.i64 x2] 3, Obj.cells #[Value.int IntKind.i64 4, Value.slice (some ⟨wr.heap.size + 1, 0, none⟩) 1 1, Value.slice (some ⟨wr.heap.size + 1 + 1, 0, none⟩) 1 1, Value.int IntKind.i64 x4, Value.string { data := #[] }, Value.slice none 0 0] 42] wr
            have hat := allocs_at [Obj.cells #[Value.int IntKind.i64 rk, Value.int IntKind.i64 rA, Value.int IntKind.i64 rB, Value.int IntKind.i64 rC] 53, Obj.cells #[Value.int IntKind.i64 x1] 3, Obj.cells #[Value.int IntKind.i64 x2] 3, Obj.cells #[Value.int IntKind.i64 4, Value.slice (some ⟨wr.heap.size + 1, 0, none⟩) 1 1, Value.slice (some ⟨wr.heap.size + 1 + 1, 0, none⟩) 1 1, Value.int IntKind.i64 x4, Value.string { data := #[] }, Value.slice none 0 0] 42] wr
            have e0 : List.foldl World.alloc wr [Obj.cells #[Value.int IntKind.i64 rk, Value.int IntKind.i64 rA, Value.int IntKind.i64 rB, Value.int IntKind.i64 rC] 53, Obj.cells #[Value.int IntKind.i64 x1] 3, Obj.cells #[Value.int IntKind.i64 x2] 3, Obj.cells #[Value.int IntKind.i64 4, Value.slice (some ⟨wr.heap.size + 1, 0, none⟩) 1 1, Value.slice (some ⟨wr.heap.size + 1 + 1, 0, none⟩) 1 1, Value.int IntKind.i64 x4, Value.string { data := #[] }, Value.slice none 0 0] 42] = W1 := hW1.symm
            rw [e0] at hal hat
            have hW1s : W1.heap.size = wr.heap.size + 1 + 1 + 1 + 1 := by rw [hal.2]; rfl
            have HW1S : Hid (W1 = _) := hW1
            have HS1 : Hid (W1.heap.size = wr.heap.size + 1 + 1 + 1 + 1) := hW1s
            have HB1 : Hid (Below wr.heap.size wr W1) := hal.1
            have HNW : Hid (∀ jj u, [Value.int IntKind.i64 4, Value.slice (some ⟨wr.heap.size + 1, 0, none⟩) 1 1, Value.slice (some ⟨wr.heap.size + 1 + 1, 0, none⟩) 1 1, Value.int IntKind.i64 x4, Value.string { data := #[] }, Value.slice none 0 0][jj]? = some u → W1.cell? ((⟨wr.heap.size + 1 + 1 + 1, 0, none⟩ : Addr).add jj) = some u) := World.news_of_block (by have h9 := hat 3 (by simp); exact h9)
            have HPI : Hid (PIn (fun g => wr.heap.size ≤ g) W1 [Value.int IntKind.i64 4, Value.slice (some ⟨wr.heap.size + 1, 0, none⟩) 1 1, Value.slice (some ⟨wr.heap.size + 1 + 1, 0, none⟩) 1 1, Value.int IntKind.i64 x4, Value.string { data := #[] }, Value.slice none 0 0] ⟨4, [x1], [x2], x4, [], []⟩) := by
              have hxb := HXB.out
              refine ⟨_, _, _, rfl, ⟨by simp [maxLen], (by intro x hx; simp at hx; subst hx; exact hxb.1), .inr ⟨wr.heap.size + 1, _, rfl, by omega, by omega, 3, by have h9 := hat 1 (by simp); exact h9⟩⟩, ⟨by simp [maxLen], (by intro x hx; simp at hx; subst hx; exact hxb.2.1), .inr ⟨wr.heap.size + 1 + 1, _, rfl, by omega, by omega, 3, by have h9 := hat 2 (by simp); exact h9⟩⟩, ⟨by simp [maxLen], (fun _ h => by cases h), .inl ⟨rfl, rfl⟩⟩, by simp [maxLen], hxb.2.2.2⟩
            have HO1 : Hid (W1.ownsRow 0 42 6 (.slice ao j ko) j xs.flatten) := own_same HOX.out fun g hg => hal.1.block g (own0_lt HOX.out hg)
            clear hal hat e0 hW1 hW1s
            go_wp2_with (at_builtin; rw [← HW1S.out]; refine wpList_append_lies _ rfl _ _ 40 (by rfl) 0 42 iI _ 6 104 Try.underlying40 hI0 hI1 hI2 hI3 rfl (by decide) (.slice ao j ko) j _ (by rfl) HO1.out ⟨wr.heap.size + 1 + 1 + 1, 0, none⟩ 1 1 [Value.int IntKind.i64 4, Value.slice (some ⟨wr.heap.size + 1, 0, none⟩) 1 1, Value.slice (some ⟨wr.heap.size + 1 + 1, 0, none⟩) 1 1, Value.int IntKind.i64 x4, Value.string { data := #[] }, Value.slice none 0 0] (by rfl) rfl HNW.out (by intro u hu; simp at hu; rcases hu with rfl | rfl | rfl | rfl | rfl | rfl <;> rfl) (by decide) (by unfold maxLen; omega) (by omega) (Nat.zero_le _) (wr.heap.size + 1 + 1 + 1 + 1) HS1.out ?_)
            intro g cp w1 hown hgrow hat hlt1
            have hpush := push_ins HXX.out.1 HXX.out.2.1 HXX.out.2.2.1 HOX.out hoj HXX.out.2.2.2 HB1.out HPI.out rfl hgrow (by rcases hat with h | h; exact .inl h; exact .inr (by rw [h, HS1.out])) hown HBX.out.size
            have HN : Hid (OwnL 6 42 PIn (fun g => wz.heap.size ≤ g) w1 (.slice (some ⟨g, 0, none⟩) (j + 1) cp) (ob ++ [⟨4, [x1], [x2], x4, [], []⟩])) := hpush.1
            have HBN : Hid (Below wz.heap.size wz w1) := HBX.out.trans hpush.2
            clear hown hgrow hat hlt1 hpush
            go_wp2_with fail
            go_roundg gj
            case measure => omega
            case rel => exact ⟨j + 1, _, by go_num, by omega, HBN, HN, by simp [hoj]⟩
          · obtain ⟨W1, hW1⟩ : ∃ W1, W1 = ((((wr.alloc (Obj.cells #[Value.int IntKind.i64 rk, Value.int IntKind.i64 rA, Value.int IntKind.i64 rB, Value.int IntKind.i64 rC] 53)).alloc (Obj.cells #[Value.int IntKind.i64 x1] 3)).alloc (Obj.cells #[Value.int IntKind.i64 x2, Value.int IntKind.i64 x3] 3)).alloc (Obj.cells #[Value.int IntKind.i64 5, Value.slice none 0 0, Value.slice (some ⟨wr.heap.size + 1 + 1, 0, none⟩) 2 2, Value.int IntKind.i64 0, Value.string { data := #[] }, Value.slice none 0 0] 42)) := ⟨_, rfl⟩
            have hal := allocs_below [Obj.cells #[Value.int IntKind.i64 rk, Value.int IntKind.i64 rA, Value.int IntKind.i64 rB, Value.int IntKind.i64 rC] 53, Obj.cells #[Value.int IntKind.i64 x1] 3, Obj.cells #[Value.int IntKind.i64 x2, Value.int IntKind.i64 x3] 3, Obj.cells #[Value.int IntKind.i64 5, Value.slice none 0 0, Value.slice (some ⟨wr.heap.size + 1 + 1, 0, none⟩) 2 2, Value.int IntKind.i64 0, Value.string { data := #[] }, Value.slice none 0 0] 42] wr
            have hat := allocs_at [Obj.cells #[Value.int IntKind.i64 rk, Value.int IntKind.i64 rA, Value.int IntKind.i64 rB, Value.int IntKind.i64 rC] 53, Obj.cells #[Value.int IntKind.i64 x1] 3, Obj.cells #[Value.int IntKind.i64 x2, Value.int IntKind.i64 x3] 3, Obj.cells #[Value.int IntKind.i64 5, Value.slice none 0 0, Value.slice (some ⟨wr.heap.size + 1 + 1, 0, none⟩) 2 2, Value.int IntKind.i64 0, Value.string { data := #[] }, Value.slice none 0 0] 42] wr
            have e0 : List.foldl World.alloc wr [Obj.cells #[Value.int IntKind.i64 rk, Value.int IntKind.i64 rA, Value.int IntKind.i64 rB, Value.int IntKind.i64 rC] 53, Obj.cells #[Value.int IntKind.i64 x1] 3, Obj.cells #[Value.int IntKind.i64 x2, Value.int IntKind.i64 x3] 3, Obj.cells #[Value.int IntKind.i64 5, Value.slice none 0 0, Value.slice (some ⟨wr.heap.size + 1 + 1, 0, none⟩) 2 2, Value.int IntKind.i64 0, Value.string { data := #[] }, Value.slice none 0 0] 42] = W1 := hW1.symm
            rw [e0] at hal hat
            have hW1s : W1.heap.size = wr.heap.size + 1 + 1 + 1 + 1 := by rw [hal.2]; rfl
            have HW1S : Hid (W1 = _) := hW1
            have HS1 : Hid (W1.heap.size = wr.heap.size + 1 + 1 + 1 + 1) := hW1s
            have HB1 : Hid (Below wr.heap.size wr W1) := hal.1
            have HNW : Hid (∀ jj u, [Value.int IntKind.i64 5, Value.slice none 0 0, Value.slice (some ⟨wr.heap.size + 1 + 1, 0, none⟩) 2 2, Value.int IntKind.i64 0, Value.string { data := #[] }, Value.slice none 0 0][jj]? = some u → W1.cell? ((⟨wr.heap.size + 1 + 1 + 1, 0, none⟩ : Addr).add jj) = some u) := World.news_of_block (by have h9 := hat 3 (by simp); exact h9)
            have HPI : Hid (PIn (fun g => wr.heap.size ≤ g) W1 [Value.int IntKind.i64 5, Value.slice none 0 0, Value.slice (some ⟨wr.heap.size + 1 + 1, 0, none⟩) 2 2, Value.int IntKind.i64 0, Value.string { data := #[] }, Value.slice none 0 0] ⟨5, [], [x2, x3], 0, [], []⟩) := by
              have hxb := HXB.out
              refine ⟨_, _, _, rfl, ⟨by simp [maxLen], (fun _ h => by cases h), .inl ⟨rfl, rfl⟩⟩, ⟨by simp [maxLen], (by intro x hx; simp at hx; rcases hx with rfl | rfl; exact hxb.2.1; exact hxb.2.2.1), .inr ⟨wr.heap.size + 1 + 1, _, rfl, by omega, by omega, 3, by have h9 := hat 2 (by simp); exact h9⟩⟩, ⟨by simp [maxLen], (fun _ h => by cases h), .inl ⟨rfl, rfl⟩⟩, by simp [maxLen], (show I64 0 from ⟨by decide, by decide⟩)⟩
            have HO1 : Hid (W1.ownsRow 0 42 6 (.slice ao j ko) j xs.flatten) := own_same HOX.out fun g hg => hal.1.block g (own0_lt HOX.out hg)
            clear hal hat e0 hW1 hW1s
            go_wp2_with (at_builtin; rw [← HW1S.out]; refine wpList_append_lies _ rfl _ _ 40 (by rfl) 0 42 iI _ 6 104 Try.underlying40 hI0 hI1 hI2 hI3 rfl (by decide) (.slice ao j ko) j _ (by rfl) HO1.out ⟨wr.heap.size + 1 + 1 + 1, 0, none⟩ 1 1 [Value.int IntKind.i64 5, Value.slice none 0 0, Value.slice (some ⟨wr.heap.size + 1 + 1, 0, none⟩) 2 2, Value.int IntKind.i64 0, Value.string { data := #[] }, Value.slice none 0 0] (by rfl) rfl HNW.out (by intro u hu; simp at hu; rcases hu with rfl | rfl | rfl | rfl | rfl | rfl <;> rfl) (by decide) (by unfold maxLen; omega) (by omega) (Nat.zero_le _) (wr.heap.size + 1 + 1 + 1 + 1) HS1.out ?_)
            intro g cp w1 hown hgrow hat hlt1
            have hpush := push_ins HXX.out.1 HXX.out.2.1 HXX.out.2.2.1 HOX.out hoj HXX.out.2.2.2 HB1.out HPI.out rfl hgrow (by rcases hat with h | h; exact .inl h; exact .inr (by rw [h, HS1.out])) hown HBX.out.size
            have HN : Hid (OwnL 6 42 PIn (fun g => wz.heap.size ≤ g) w1 (.slice (some ⟨g, 0, none⟩) (j + 1) cp) (ob ++ [⟨5, [], [x2, x3], 0, [], []⟩])) := hpush.1
            have HBN : Hid (Below wz.heap.size wz w1) := HBX.out.trans hpush.2
            clear hown hgrow hat hlt1 hpush
            go_wp2_with fail
            go_roundg gj
            case measure => omega
            case rel => exact ⟨j + 1, _, by go_num, by omega, HBN, HN, by simp [hoj]⟩
          · obtain ⟨W1, hW1⟩ : ∃ W1, W1 = ((((wr.alloc (Obj.cells #[Value.int IntKind.i64 rk, Value.int IntKind.i64 rA, Value.int IntKind.i64 rB, Value.int IntKind.i64 rC] 53)).alloc (Obj.cells #[Value.int IntKind.i64 x1] 3)).alloc (Obj.cells #[Value.int IntKind.i64 x2] 3)).alloc (Obj.cells #[Value.int IntKind.i64 8, Value.slice none 0 0, Value.slice (some ⟨wr.heap.size + 1 + 1, 0, none⟩) 1 1, Value.int IntKind.i64 0, Value.string { data := #[105, 110, 116] }, Value.slice none 0 0] 42)) := ⟨_, rfl⟩
            have hal := allocs_below [Obj.cells #[Value.int IntKind.i64 rk, Value.int IntKind.i64 rA, Value.int IntKind.i64 rB, Value.int IntKind.i64 rC] 53, Obj.cells #[Value.int IntKind.i64 x1] 3, Obj.cells #[Value.int IntKind.i64 x2] 3, Obj.cells #[Value.int IntKind.i64 8, Value.slice none 0 0, Value.slice (some ⟨wr.heap.size + 1 + 1, 0, none⟩) 1 1, Value.int IntKind.i64 0, Value.string { data := #[105, 110, 116] }, Value.slice none 0 0] 42] wr
            have hat := allocs_at [Obj.cells #[Value.int IntKind.i64 rk, Value.int IntKind.i64 rA, Value.int IntKind.i64 rB, Value.int IntKind.i64 rC] 53, Obj.cells #[Value.int IntKind.i64 x1] 3, Obj.cells #[Value.int IntKind.i64 x2] 3, Obj.cells #[Value.int IntKind.i64 8, Value.slice none 0 0, Value.slice (some ⟨wr.heap.size + 1 + 1, 0, none⟩) 1 1, Value.int IntKind.i64 0, Value.string { data := #[105, 110, 116] }, Value.slice none 0 0] 42] wr
            have e0 : List.foldl World.alloc wr [Obj.cells #[Value.int IntKind.i64 rk, Value.int IntKind.i64 rA, Value.int IntKind.i64 rB, Value.int IntKind.i64 rC] 53, Obj.cells #[Value.int IntKind.i64 x1] 3, Obj.cells #[Value.int IntKind.i64 x2] 3, Obj.cells #[Value.int IntKind.i64 8, Value.slice none 0 0, Value.slice (some ⟨wr.heap.size + 1 + 1, 0, none⟩) 1 1, Value.int IntKind.i64 0, Value.string { data := #[105, 110, 116] }, Value.slice none 0 0] 42] = W1 := hW1.symm
            rw [e0] at hal hat
            have hW1s : W1.heap.size = wr.heap.size + 1 + 1 + 1 + 1 := by rw [hal.2]; rfl
            have HW1S : Hid (W1 = _) := hW1
            have HS1 : Hid (W1.heap.size = wr.heap.size + 1 + 1 + 1 + 1) := hW1s
            have HB1 : Hid (Below wr.heap.size wr W1) := hal.1
            have HNW : Hid (∀ jj u, [Value.int IntKind.i64 8, Value.slice none 0 0, Value.slice (some ⟨wr.heap.size + 1 + 1, 0, none⟩) 1 1, Value.int IntKind.i64 0, Value.string { data := #[105, 110, 116] }, Value.slice none 0 0][jj]? = some u → W1.cell? ((⟨wr.heap.size + 1 + 1 + 1, 0, none⟩ : Addr).add jj) = some u) := World.news_of_block (by have h9 := hat 3 (by simp); exact h9)
            have HPI : Hid (PIn (fun g => wr.heap.size ≤ g) W1 [Value.int IntKind.i64 8, Value.slice none 0 0, Value.slice (some ⟨wr.heap.size + 1 + 1, 0, none⟩) 1 1, Value.int IntKind.i64 0, Value.string { data := #[105, 110, 116] }, Value.slice none 0 0] ⟨8, [], [x2], 0, [105, 110, 116], []⟩) := by
              have hxb := HXB.out
              refine ⟨_, _, _, rfl, ⟨by simp [maxLen], (fun _ h => by cases h), .inl ⟨rfl, rfl⟩⟩, ⟨by simp [maxLen], (by intro x hx; simp at hx; subst hx; exact hxb.2.1), .inr ⟨wr.heap.size + 1 + 1, _, rfl, by omega, by omega, 3, by have h9 := hat 2 (by simp); exact h9⟩⟩, ⟨by simp [maxLen], (fun _ h => by cases h), .inl ⟨rfl, rfl⟩⟩, by simp [maxLen], (show I64 0 from ⟨by decide, by decide⟩)⟩
            have HO1 : Hid (W1.ownsRow 0 42 6 (.slice ao j ko) j xs.flatten) := own_same HOX.out fun g hg => hal.1.block g (own0_lt HOX.out hg)
            clear hal hat e0 hW1 hW1s
            go_wp2_with (at_builtin; rw [← HW1S.out]; refine wpList_append_lies _ rfl _ _ 40 (by rfl) 0 42 iI _ 6 104 Try.underlying40 hI0 hI1 hI2 hI3 rfl (by decide) (.slice ao j ko) j _ (by rfl) HO1.out ⟨wr.heap.size + 1 + 1 + 1, 0, none⟩ 1 1 [Value.int IntKind.i64 8, Value.slice none 0 0, Value.slice (some ⟨wr.heap.size + 1 + 1, 0, none⟩) 1 1, Value.int IntKind.i64 0, Value.string { data := #[105, 110, 116] }, Value.slice none 0 0] (by rfl) rfl HNW.out (by intro u hu; simp at hu; rcases hu with rfl | rfl | rfl | rfl | rfl | rfl <;> rfl) (by decide) (by unfold maxLen; omega) (by omega) (Nat.zero_le _) (wr.heap.size + 1 + 1 + 1 + 1) HS1.out ?_)
            intro g cp w1 hown hgrow hat hlt1
            have hpush := push_ins HXX.out.1 HXX.out.2.1 HXX.out.2.2.1 HOX.out hoj HXX.out.2.2.2 HB1.out HPI.out rfl hgrow (by rcases hat with h | h; exact .inl h; exact .inr (by rw [h, HS1.out])) hown HBX.out.size
            have HN : Hid (OwnL 6 42 PIn (fun g => wz.heap.size ≤ g) w1 (.slice (some ⟨g, 0, none⟩) (j + 1) cp) (ob ++ [⟨8, [], [x2], 0, [105, 110, 116], []⟩])) := hpush.1
            have HBN : Hid (Below wz.heap.size wz w1) := HBX.out.trans hpush.2
            clear hown hgrow hat hlt1 hpush
            go_wp2_with fail
            go_roundg gj
            case measure => omega
            case rel => exact ⟨j + 1, _, by go_num, by omega, HBN, HN, by simp [hoj]⟩
          · obtain ⟨W1, hW1⟩ : ∃ W1, W1 = ((((wr.alloc (Obj.cells #[Value.int IntKind.i64 rk, Value.int IntKind.i64 rA, Value.int IntKind.i64 rB, Value.int IntKind.i64 rC] 53)).alloc (Obj.cells #[Value.int IntKind.i64 x1] 3)).alloc (Obj.cells #[Value.int IntKind.i64 x2] 3)).alloc (Obj.cells #[Value.int IntKind.i64 8, Value.slice none 0 0, Value.slice (some ⟨wr.heap.size + 1 + 1, 0, none⟩) 1 1, Value.int IntKind.i64 0, Value.string { data := #[105, 110, 116] }, Value.slice none 0 0] 42)) := ⟨_, rfl⟩
            have hal := allocs_below [Obj.cells #[Value.int IntKind.i64 rk, Value.int IntKind.i64 rA, Value.int IntKind.i64 rB, Value.int IntKind.i64 rC] 53, Obj.cells #[Value.int IntKind.i64 x1] 3, Obj.cells #[Value.int IntKind.i64 x2] 3, Obj.cells #[Value.int IntKind.i64 8, Value.slice none 0 0, Value.slice (some ⟨wr.heap.size + 1 + 1, 0, none⟩) 1 1, Value.int IntKind.i64 0, Value.string { data := #[105, 110, 116] }, Value.slice none 0 0] 42] wr
            have hat := allocs_at [Obj.cells #[Value.int IntKind.i64 rk, Value.int IntKind.i64 rA, Value.int IntKind.i64 rB, Value.int IntKind.i64 rC] 53, Obj.cells #[Value.int IntKind.i64 x1] 3, Obj.cells #[Value.int IntKind.i64 x2] 3, Obj.cells #[Value.int IntKind.i64 8, Value.slice none 0 0, Value.slice (some ⟨wr.heap.size + 1 + 1, 0, none⟩) 1 1, Value.int IntKind.i64 0, Value.string { data := #[105, 110, 116] }, Value.slice none 0 0] 42] wr
            have e0 : List.foldl World.alloc wr [Obj.cells #[Value.int IntKind.i64 rk, Value.int IntKind.i64 rA, Value.int IntKind.i64 rB, Value.int IntKind.i64 rC] 53, Obj.cells #[Value.int IntKind.i64 x1] 3, Obj.cells #[Value.int IntKind.i64 x2] 3, Obj.cells #[Value.int IntKind.i64 8, Value.slice none 0 0, Value.slice (some ⟨wr.heap.size + 1 + 1, 0, none⟩) 1 1, Value.int IntKind.i64 0, Value.string { data := #[105, 110, 116] }, Value.slice none 0 0] 42] = W1 := hW1.symm
            rw [e0] at hal hat
            have hW1s : W1.heap.size = wr.heap.size + 1 + 1 + 1 + 1 := by rw [hal.2]; rfl
            have HW1S : Hid (W1 = _) := hW1
            have HS1 : Hid (W1.heap.size = wr.heap.size + 1 + 1 + 1 + 1) := hW1s
            have HB1 : Hid (Below wr.heap.size wr W1) := hal.1
            have HNW : Hid (∀ jj u, [Value.int IntKind.i64 8, Value.slice none 0 0, Value.slice (some ⟨wr.heap.size + 1 + 1, 0, none⟩) 1 1, Value.int IntKind.i64 0, Value.string { data := #[105, 110, 116] }, Value.slice none 0 0][jj]? = some u → W1.cell? ((⟨wr.heap.size + 1 + 1 + 1, 0, none⟩ : Addr).add jj) = some u) := World.news_of_block (by have h9 := hat 3 (by simp); exact h9)
            have HPI : Hid (PIn (fun g => wr.heap.size ≤ g) W1 [Value.int IntKind.i64 8, Value.slice none 0 0, Value.slice (some ⟨wr.heap.size + 1 + 1, 0, none⟩) 1 1, Value.int IntKind.i64 0, Value.string { data := #[105, 110, 116] }, Value.slice none 0 0] ⟨8, [], [x2], 0, [105, 110, 116], []⟩) := by
              have hxb := HXB.out
              refine ⟨_, _, _, rfl, ⟨by simp [maxLen], (fun _ h => by cases h), .inl ⟨rfl, rfl⟩⟩, ⟨by simp [maxLen], (by intro x hx; simp at hx; subst hx; exact hxb.2.1), .inr ⟨wr.heap.size + 1 + 1, _, rfl, by omega, by omega, 3, by have h9 := hat 2 (by simp); exact h9⟩⟩, ⟨by simp [maxLen], (fun _ h => by cases h), .inl ⟨rfl, rfl⟩⟩, by simp [maxLen], (show I64 0 from ⟨by decide, by decide⟩)⟩
            have HO1 : Hid (W1.ownsRow 0 42 6 (.slice ao j ko) j xs.flatten) := own_same HOX.out fun g hg => hal.1.block g (own0_lt HOX.out hg)
            clear hal hat e0 hW1 hW1s
            go_wp2_with (at_builtin; rw [← HW1S.out]; refine wpList_append_lies _ rfl _ _ 40 (by rfl) 0 42 iI _ 6 104 Try.underlying40 hI0 hI1 hI2 hI3 rfl (by decide) (.slice ao j ko) j _ (by rfl) HO1.out ⟨wr.heap.size + 1 + 1 + 1, 0, none⟩ 1 1 [Value.int IntKind.i64 8, Value.slice none 0 0, Value.slice (some ⟨wr.heap.size + 1 + 1, 0, none⟩) 1 1, Value.int IntKind.i64 0, Value.string { data := #[105, 110, 116] }, Value.slice none 0 0] (by rfl) rfl HNW.out (by intro u hu; simp at hu; rcases hu with rfl | rfl | rfl | rfl | rfl | rfl <;> rfl) (by decide) (by unfold maxLen; omega) (by omega) (Nat.zero_le _) (wr.heap.size + 1 + 1 + 1 + 1) HS1.out ?_)
            intro g cp w1 hown hgrow hat hlt1
            have hpush := push_ins HXX.out.1 HXX.out.2.1 HXX.out.2.2.1 HOX.out hoj HXX.out.2.2.2 HB1.out HPI.out rfl hgrow (by rcases hat with h | h; exact .inl h; exact .inr (by rw [h, HS1.out])) hown HBX.out.size
            have HN : Hid (OwnL 6 42 PIn (fun g => wz.heap.size ≤ g) w1 (.slice (some ⟨g, 0, none⟩) (j + 1) cp) (ob ++ [⟨8, [], [x2], 0, [105, 110, 116], []⟩])) := hpush.1
            have HBN : Hid (Below wz.heap.size wz w1) := HBX.out.trans hpush.2
            clear hown hgrow hat hlt1 hpush
            go_wp2_with fail
            go_roundg gj
            case measure => omega
            case rel => exact ⟨j + 1, _, by go_num, by omega, HBN, HN, by simp [hoj]⟩

end Go.Proofs.Ytjdedfgdofceeaa
