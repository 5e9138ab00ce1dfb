/-
  inBounds.
-/
import Derived.Test.YtbpnfoihonehgadDoorIaC
namespace Go.Proofs.YtbpnfoihonehgadDoor
open Go.RowKit
set_option linter.unusedSimpArgs false
set_option linter.unusedVariables false

theorem all_true {A : Type} {l : List A} {P : A → Bool} (h : ∀ (j : Nat) (x : A), l[j]? = some x → P x = true) : l.all P = true := by
  rw [List.all_eq_true]
  intro x hx
  obtain ⟨j, hj⟩ := List.getElem?_of_mem hx
  exact h j x hj

theorem all_false {A : Type} {l : List A} {P : A → Bool} {j : Nat} {x : A} (h : l[j]? = some x) (hp : P x = false) : l.all P = false := by
  rw [List.all_eq_false]
  exact ⟨x, List.mem_of_getElem? h, by simp [hp]⟩

theorem outside_any (n most : Int) (mb : Nat) (w : World) (hc : w.cell? ⟨mb, 0, none⟩ = some (.int .i64 most)) : Calls Tryd.prog 66 #[.int .i64 n, .pointer (some ⟨mb, 0, none⟩)] w fun e w' => e = .returned (.bool (!(decide (0 ≤ n) && decide (n < most)))) ∧ w' = w := by
  by_cases h1 : n < 0
  · have h1' : ¬ (0 ≤ n) := by omega
    go_enter Tryd.func66, Tryd.ntmps66
    go_wp2_with fail
    go_ret
    exact ⟨by simp [h1'], rfl⟩
  · have h1' : 0 ≤ n := by omega
    by_cases h2 : n ≥ most
    · have h2' : ¬ (n < most) := by omega
      go_enter Tryd.func66, Tryd.ntmps66
      go_wp2_with fail
      go_ret
      exact ⟨by simp [h2', h1'], rfl⟩
    · have h2' : n < most := by omega
      go_enter Tryd.func66, Tryd.ntmps66
      go_wp2_with fail
      go_ret
      exact ⟨by simp [h2', h1'], rfl⟩

set_option maxHeartbeats 2000000 in
theorem indexFunc_any (most : Int) (mb B : Nat) (v : Value) (l : List Int) (w : World) (hc : w.cell? ⟨mb, 0, none⟩ = some (.int .i64 most)) (hl : Nums B w v l) :
    Calls Tryd.prog 69 #[v, .func (.func 66) #[] #[.pointer (some ⟨mb, 0, none⟩)]] w fun e w' => (∃ r : Int, e = .returned (.int .i64 r) ∧ decide (r ≥ 0) = !belowB most l) ∧ w' = w := by
  obtain ⟨a, c, rfl⟩ := Lies.slice hl
  have hlm := hl.len
  unfold maxLen at hlm
  have HL : Hid (Nums B w (.slice a l.length c) l) := hl
  have HC : Hid (_) := hc
  clear hl hc
  go_enter Tryd.func69, Tryd.ntmps69
  go_wp2_with fail
  go_loopg [8] l.length (fun g s8 wr => ∃ i : Nat, s8 = .int .i64 (i : Nat) ∧ i + g = l.length ∧ wr = w ∧ Hid (∀ j x, j < i → l[j]? = some x → (decide (0 ≤ x) && decide (x < most)) = true))
  case atStart => exact ⟨0, rfl, by omega, rfl, fun j x hj => absurd hj (by omega)⟩
  case round =>
    obtain ⟨i, rfl, hi, rfl, HJ⟩ := hrel
    cases gk with
    | zero =>
      have hlt : ¬ (i : Int) < (l.length : Int) := by omega
      have HA : Hid (belowB most l = true) := all_true fun j x hx => HJ.out j x (by have := (List.getElem?_eq_some_iff.1 hx).1; omega) hx
      go_wp2_with fail
      go_ret
      exact ⟨⟨_, rfl, by rw [HA.out]; rfl⟩, rfl⟩
    | succ g =>
      have hlt : (i : Int) < (l.length : Int) := by omega
      have hilt : i < l.length := by omega
      have hget : l[i]? = some l[i] := List.getElem?_eq_getElem hilt
      generalize l[i] = x at hget
      obtain ⟨ga, o, cs, rfl, hgB, hcs, hP, hcell⟩ := Lies.at HL.out hget
      obtain ⟨rfl, hx⟩ := hP
      have q0 := hcell 0 (by decide)
      simp at q0
      have HG : Hid (_) := hget
      clear hcell hget hcs
      go_wp2_with fail
      refine (outside_any x most mb _ HC.out).mono ?_
      rintro e w1 ⟨rfl, hw1⟩
      have hw1' := hw1.symm
      subst hw1'
      rcases hb : (decide (0 ≤ x) && decide (x < most)) with _ | _
      · have HA : Hid (belowB most l = false) := all_false HG.out hb
        go_wp2_with fail
        go_ret
        exact ⟨⟨_, rfl, by rw [HA.out]; simp⟩, rfl⟩
      · go_wp2_with fail
        go_roundg g
        case measure => omega
        case rel =>
          refine ⟨i + 1, by go_num, by omega, rfl, fun j y hj hy => ?_⟩
          rcases Nat.lt_or_ge j i with h | h
          · exact HJ.out j y h hy
          · have : j = i := by omega
            subst this
            rw [HG.out] at hy
            cases hy
            exact hb

set_option maxHeartbeats 1000000 in
theorem containsFunc_any (most : Int) (mb B : Nat) (v : Value) (l : List Int) (w : World) (hc : w.cell? ⟨mb, 0, none⟩ = some (.int .i64 most)) (hl : Nums B w v l) :
    Calls Tryd.prog 65 #[v, .func (.func 66) #[] #[.pointer (some ⟨mb, 0, none⟩)]] w fun e w' => e = .returned (.bool (!belowB most l)) ∧ w' = w := by
  have HL : Hid (_) := hl
  have HC : Hid (_) := hc
  clear hl hc
  go_enter Tryd.func65, Tryd.ntmps65
  go_wp2_with fail
  refine (indexFunc_any most mb B v l _ HC.out HL.out).mono ?_
  rintro e w1 ⟨⟨r, rfl, hr⟩, hw1⟩
  have hw1' := hw1.symm
  subst hw1'
  have HR : Hid (_) := hr
  clear hr
  go_wp2_with fail
  go_ret
  exact ⟨by rw [← HR.out]; rfl, rfl⟩

theorem new_cell (w : World) (T : TypeId) (v : Value) : (w.alloc (.cells #[v] T)).cell? ⟨w.heap.size, 0, none⟩ = some v := by
  unfold World.cell?
  rw [heap_alloc_new]
  rfl

set_option maxHeartbeats 1000000 in
theorem below_any (most : Int) (B : Nat) (v : Value) (l : List Int) (w : World) (hB : B ≤ w.heap.size) (hl : Nums B w v l) :
    Calls Tryd.prog 64 #[.int .i64 most, v] w fun e w' => e = .returned (.bool (belowB most l)) ∧ Below w.heap.size w w' := by
  have HL : Hid (Nums B (w.alloc (.cells #[.int .i64 most] 3)) v l) := hl.below ((Below.refl _ _).alloc hB _)
  have HC : Hid ((w.alloc (.cells #[.int .i64 most] 3)).cell? ⟨w.heap.size, 0, none⟩ = some (.int .i64 most)) := new_cell w _ _
  obtain ⟨a, c, rfl⟩ := Lies.slice hl
  clear hl
  go_enter Tryd.func64, Tryd.ntmps64
  go_wp2_with fail
  refine (containsFunc_any most _ B _ l _ HC.out HL.out).mono ?_
  rintro e w1 ⟨rfl, hw1⟩
  have hw1' := hw1.symm
  subst hw1'
  go_wp2_with fail
  go_ret
  exact ⟨by simp, below_alloc _ _⟩

theorem cells6 {w : World} {x : Nat} {T : TypeId} {f : Nat × Nat} {c0 c1 c2 c3 c4 c5 : Value} (h : w.heap[x]? = some (.cells #[c0, c1, c2, c3, c4, c5] T f)) :
    w.cell? ⟨x, 0, none⟩ = some c0 ∧ w.cell? ⟨x, 1, none⟩ = some c1 ∧ w.cell? ⟨x, 2, none⟩ = some c2 ∧ w.cell? ⟨x, 3, none⟩ = some c3 ∧ w.cell? ⟨x, 4, none⟩ = some c4 ∧ w.cell? ⟨x, 5, none⟩ = some c5 := by
  simp [World.cell?, h]

theorem cells8 {w : World} {x : Nat} {T : TypeId} {f : Nat × Nat} {c0 c1 c2 c3 c4 c5 c6 c7 : Value} (h : w.heap[x]? = some (.cells #[c0, c1, c2, c3, c4, c5, c6, c7] T f)) :
    w.cell? ⟨x, 0, none⟩ = some c0 ∧ w.cell? ⟨x, 1, none⟩ = some c1 ∧ w.cell? ⟨x, 2, none⟩ = some c2 ∧ w.cell? ⟨x, 3, none⟩ = some c3 ∧ w.cell? ⟨x, 4, none⟩ = some c4 ∧ w.cell? ⟨x, 5, none⟩ = some c5 ∧ w.cell? ⟨x, 6, none⟩ = some c6 ∧ w.cell? ⟨x, 7, none⟩ = some c7 := by
  simp [World.cell?, h]

/-- the value of a checker -/
def chkV (vf : Value) (mp : Nat) (c : Cod) (vb : Value) : Value := .agg #[vf, .map (some mp), .string ⟨c.name.toArray⟩, .int .i64 c.params, .int .i64 c.results, .int .i64 c.vars, .int .i64 c.slots, vb]

set_option maxHeartbeats 4000000 in
theorem inBounds_any (i : Ins) (c : Cod) (vf vb vd va vt : Value) (mp B : Nat) (w : World) (hB : B ≤ w.heap.size) (hvf : ∃ a n k, vf = .slice a n k) (hvb : ∃ a k, vb = .slice a c.blocks.length k) (hd : Nums B w vd i.ds) (ha : Nums B w va i.ar) (ht : Nums B w vt i.to) (hbl : c.blocks.length ≤ 2000) :
    Calls Tryd.prog 54 #[chkV vf mp c vb, insV i vd va vt] w fun e w' => e = .returned (.bool (belowB c.vars i.ds && (belowB c.vars i.ar && belowB c.blocks.length i.to))) ∧ Below w.heap.size w w' := by
  obtain ⟨a1, n1, k1, rfl⟩ := hvf
  obtain ⟨a2, k2, rfl⟩ := hvb
  obtain ⟨ad, cd, rfl⟩ := Lies.slice hd
  obtain ⟨aa, ca, rfl⟩ := Lies.slice ha
  obtain ⟨at', ct, rfl⟩ := Lies.slice ht
  have HD : Hid (Nums B w _ _) := hd
  have HA : Hid (Nums B w _ _) := ha
  have HT : Hid (Nums B w _ _) := ht
  clear hd ha ht
  obtain ⟨op, ds, ar, nn, s, to⟩ := i
  obtain ⟨name, params, results, vars, slots, blocks⟩ := c
  unfold chkV insV
  simp only at HD HA HT hbl ⊢
  obtain ⟨n2, hn2⟩ : ∃ n, n = blocks.length := ⟨_, rfl⟩
  rw [← hn2] at hbl ⊢
  clear hn2
  go_enter Tryd.func54, Tryd.ntmps54
  go_wp2_with fail
  obtain ⟨W, hW⟩ : ∃ W, W = (w.alloc (Obj.cells #[Value.slice a1 n1 k1, Value.map (some mp), Value.string ⟨name.toArray⟩, Value.int IntKind.i64 params, Value.int IntKind.i64 results, Value.int IntKind.i64 vars, Value.int IntKind.i64 slots, Value.slice a2 n2 k2] 62)).alloc (Obj.cells #[Value.int IntKind.i64 op, Value.slice ad ds.length cd, Value.slice aa ar.length ca, Value.int IntKind.i64 nn, Value.string ⟨s.toArray⟩, Value.slice at' to.length ct] 25) := ⟨_, rfl⟩
  have HW : Hid (Below w.heap.size w W) := by rw [hW]; exact below_after (below_alloc _ _) (below_alloc _ _)
  have HC1 : Hid (W.heap[w.heap.size]? = some (Obj.cells #[Value.slice a1 n1 k1, Value.map (some mp), Value.string ⟨name.toArray⟩, Value.int IntKind.i64 params, Value.int IntKind.i64 results, Value.int IntKind.i64 vars, Value.int IntKind.i64 slots, Value.slice a2 n2 k2] 62)) := by rw [hW]; exact blk_alloc (heap_alloc_new w _) _
  have HC2 : Hid (W.heap[w.heap.size + 1]? = some (Obj.cells #[Value.int IntKind.i64 op, Value.slice ad ds.length cd, Value.slice aa ar.length ca, Value.int IntKind.i64 nn, Value.string ⟨s.toArray⟩, Value.slice at' to.length ct] 25)) := by rw [hW]; exact (heap_alloc2 w _ _).2
  have hWs : W.heap.size = w.heap.size + 2 := by rw [hW]; simp
  rw [← hW]
  have HWB : Hid (Below B w W) := HW.out.mono hB
  clear hW
  refine (below_any vars B _ ds W (by omega) (HD.out.below HWB.out)).mono ?_
  rintro e w1 ⟨rfl, hb1⟩
  have HB1 : Hid (Below w.heap.size w w1) := below_after HW.out hb1
  have p1 := cells8 ((hb1.block _ (by omega)).trans HC1.out)
  have p2 := cells6 ((hb1.block _ (by omega)).trans HC2.out)
  have hs1 := hb1.size
  have HK1 : Hid (w1.heap[w.heap.size]? = _) := (hb1.block _ (by omega)).trans HC1.out
  have HK2 : Hid (w1.heap[w.heap.size + 1]? = _) := (hb1.block _ (by omega)).trans HC2.out
  clear hb1 HC1 HC2
  rcases hb1 : belowB vars ds with _ | _
  · skip
    go_wp2_with fail
    go_ret
    exact ⟨by simp [hb1], HB1.out⟩
  · go_wp2_with fail
    refine (below_any vars B _ ar w1 (by omega) (HA.out.below (HB1.out.mono hB))).mono ?_
    rintro e w2 ⟨rfl, hb2⟩
    have HB2 : Hid (Below w.heap.size w w2) := below_after HB1.out hb2
    clear p1 p2
    have p1 := cells8 ((hb2.block _ (by omega)).trans HK1.out)
    have p2 := cells6 ((hb2.block _ (by omega)).trans HK2.out)
    have hs2 := hb2.size
    clear hb2
    rcases hb2 : belowB vars ar with _ | _
    · skip
      go_wp2_with fail
      go_ret
      exact ⟨by simp [hb1, hb2], HB2.out⟩
    · go_wp2_with fail
      refine (below_any n2 B _ to w2 (by omega) (HT.out.below (HB2.out.mono hB))).mono ?_
      rintro e w3 ⟨rfl, hb3⟩
      have HB3 : Hid (Below w.heap.size w w3) := below_after HB2.out hb3
      clear hb3 p1 p2
      go_wp2_with fail
      go_ret
      exact ⟨by simp [hb1, hb2], HB3.out⟩

end Go.Proofs.YtbpnfoihonehgadDoor
