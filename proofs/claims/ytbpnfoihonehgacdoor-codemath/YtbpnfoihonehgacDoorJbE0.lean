/-
  What the laws on numbers use beside the machine: a number that is picked, a map of truths, lists of one text that are the same.
-/
import Derived.Test.YtbpnfoihonehgacDoorJbB
namespace Go.Proofs.YtbpnfoihonehgacDoor
open Go.RowKit
set_option linter.unusedSimpArgs false
set_option linter.unusedVariables false

def pickI (n many : Int) : Int := (if n < 0 then -(n + 1) else n) % many

theorem picked_any (n many : Int) (hn : I64 n) (hm : 1 ≤ many) (hm2 : many ≤ 1000000) (w : World) : Calls Tryd.prog 15 #[.int .i64 n, .int .i64 many] w fun e w' => e = .returned (.int .i64 (pickI n many)) ∧ w' = w := by
  obtain ⟨h1, h2⟩ := hn
  unfold pickI
  by_cases h : n < 0
  · rw [if_pos h]
    go_enter Tryd.func15, Tryd.ntmps15
    go_wp2
    go_ret
    exact ⟨by rw [← Int.neg_tmod, Int.tmod_eq_emod_of_nonneg (by omega)]; rfl, rfl⟩
  · rw [if_neg h]
    go_enter Tryd.func15, Tryd.ntmps15
    go_wp2
    go_ret
    exact ⟨rfl, rfl⟩

def truthEs : Array MapEntry := #[{ key := .bool true, val := .int .i64 1, born := 0 }]

theorem push_set (a : Array Obj) (o o' : Obj) : (a.push o).setIfInBounds a.size o' = a.push o' := by
  apply Array.ext_getElem?
  intro i
  simp [Array.getElem?_setIfInBounds, Array.getElem?_push]
  split
  · rename_i h; subst h; simp
  · rename_i h
    have : ¬ i = a.size := fun e => h e.symm
    simp [this]

theorem ins_truth (w : World) : (Instr.mapUpdate 41 (.map (some w.heap.size)) (.bool true) (.int .i64 1)).run Tryd.prog (w.alloc (.map #[] 0)) = .ok () (w.alloc (.map truthEs 1)) := by
  have hb : (w.alloc (.map #[] 0)).heap[w.heap.size]? = some (.map #[] 0) := heap_alloc_new w _
  have hc : (Instr.checkKey false 10000 4 (.bool true)).run Tryd.prog (w.alloc (.map #[] 0)) = .ok () (w.alloc (.map #[] 0)) := MapKept.run_checkKey (k := .bool true) Tryd.underlying4 (by simp [MapKept.IsKey]) false 9999
  have e : { (w.alloc (.map #[] 0)) with heap := (w.alloc (.map #[] 0)).heap.setIfInBounds w.heap.size (.map truthEs 1) } = w.alloc (.map truthEs 1) := by
    have := push_set w.heap (.map #[] 0) (.map truthEs 1)
    unfold World.alloc
    simp only [this]
  rw [← e]
  have hf : Instr.findNow .bool (.bool true) (#[] : Array MapEntry).toList 0 = some none := rfl
  simp [Instr.mapUpdate, run_underlying Tryd.underlying41, MapKept.run_getObj_map hb, hc, MapKept.run_findKey Tryd.underlying4 hf, MapKept.run_setObj_map _ hb, Result.andThen, truthEs]

theorem zeroInt (w : World) : (zeroValue 3).run Tryd.prog w = .ok (.int .i64 0) w := by kernel_rfl

theorem look_truth (W : World) (g : Nat) (b : Bool) (hb : W.heap[g]? = some (.map truthEs 1)) : (Instr.lookup 41 (.map (some g)) (.bool b) false).run Tryd.prog W = .ok (.int .i64 (truthI b)) W := by
  have hc : ∀ e, (Instr.checkKey e 10000 4 (.bool b)).run Tryd.prog W = .ok () W := fun e => MapKept.run_checkKey (k := .bool b) Tryd.underlying4 (by simp [MapKept.IsKey]) e 9999
  have hf : Instr.findNow .bool (.bool b) truthEs.toList 0 = some (if b then some (0, .int .i64 1) else none) := by cases b <;> rfl
  have hf2 := MapKept.run_findKey (P := Tryd.prog) (w := W) Tryd.underlying4 hf
  unfold truthI
  cases b <;> simp only [Bool.false_eq_true, if_true, if_false] at hf2 ⊢ <;>
    simp [Instr.lookup, run_underlying Tryd.underlying41, MapKept.run_getObj_map hb, hc, hf2, zeroInt, Result.andThen]

set_option maxHeartbeats 1000000 in
set_option maxRecDepth 20000 in
theorem equal_one (g1 o1 c1 g2 o2 c2 : Nat) (s : ByteArray) (w : World) (h1 : w.cell? ⟨g1, o1, none⟩ = some (.string s)) (h2 : w.cell? ⟨g2, o2, none⟩ = some (.string s)) :
    Calls Tryd.prog 17 #[.slice (some ⟨g1, o1, none⟩) 1 c1, .slice (some ⟨g2, o2, none⟩) 1 c2] w fun e w' => e = .returned (.bool true) ∧ ∃ n, w' = w.drewN n := by
  go_enter Tryd.func17, Tryd.ntmps17
  go_wp2_with fail
  go_loopg [13] 1 (fun g s13 wr => ∃ (i : Nat), s13 = .int .i64 (i : Nat) ∧ i + g = 1 ∧ Hid (∃ n, wr = w.drewN n))
  case atStart => exact ⟨0, rfl, rfl, 0, rfl⟩
  case round =>
    obtain ⟨i, rfl, hig, HW⟩ := hrel
    obtain ⟨n, hn⟩ := HW.out
    subst hn
    cases gk with
    | zero =>
      have hi : i = 1 := by omega
      subst hi
      go_wp2_with fail
      go_ret
      exact ⟨rfl, _, rfl⟩
    | succ g =>
      have hi : i = 0 := by omega
      have hg : g = 0 := by omega
      subst hi
      subst hg
      go_wp2_with fail
      go_quiet (fail)
      go_wp2_with fail
      go_roundg 0
      case measure => omega
      case rel => exact ⟨1, by go_num, rfl, _, rfl⟩

end Go.Proofs.YtbpnfoihonehgacDoor
