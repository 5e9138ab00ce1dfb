/-
  Package ssa: the look for an order (orderOf): a block comes on the way (its closure).
-/
import Derived.Test.YtjdedfgdofceeaaSbG
namespace Go.Proofs.Ytjdedfgdofceeaa
open Go.RowKit
set_option linter.unusedSimpArgs false
set_option linter.unusedVariables false

theorem cellOne {w : World} {x : Nat} {T : TypeId} {f : Nat × Nat} {c0 : Value} (h : w.heap[x]? = some (.cells #[c0] T f)) : w.cell? ⟨x, 0, none⟩ = some c0 := by simp [World.cell?, h]
theorem thawOne {w : World} {x : Nat} {T : TypeId} {c0 : Value} (h : w.heap[x]? = some (.cells #[c0] T)) : w.frozen? ⟨x, 0, none⟩ = false := by simp [World.frozen?, h]

/-- is the place a block that has not been met -/
def newB (n : Nat) (met : Nat → Bool) (y : Int) : Bool := decide (0 ≤ y) && decide (y < n) && !met y.toNat

set_option maxHeartbeats 4000000 in
set_option maxRecDepth 20000 in
theorem come_new (n S M y : Nat) (aL : Option Addr) (kL : Nat) (vw vo : Value) (way order lk : List Int) (met : Nat → Bool) (w : World) (hn : n ≤ maxLen) (hS : S ≤ w.heap.size)
    (h : OD w n S M (.slice aL n kL) vw vo way order lk met) (hy : y < n) (hm : met y = false) (hl : way.length < 4611686018427387904) (hl2 : (way.length + 1) * 8 ≤ 140737488351232) :
    Calls Try.prog 33 #[.int .i64 (y : Int), .pointer (some ⟨S, 0, none⟩), .pointer (some ⟨M, 0, none⟩), .pointer (some ⟨S + 1, 0, none⟩)] w fun e w' =>
      ∃ vw', e = .returned (.tuple #[]) ∧ OD w' n S M (.slice aL n kL) vw' vo (way ++ [(y : Int)]) order lk (metAt met y) ∧ Below S w w' := by
  have HD : Hid (OD w n S M (.slice aL n kL) vw vo way order lk met) := h
  have hlt0 := h.lt
  have pL := cellOne h.bL
  have pW := cellOne h.bW
  have pM := cellOne h.bM
  obtain ⟨r1, r2⟩ := h.met? hy
  rw [hm] at r1
  have hy1 : (0 : Int) ≤ (y : Int) := by omega
  have hy2 : (y : Int) < (n : Int) := by omega
  have HD1 : Hid (OD (w.setCell ⟨S + 2, y, none⟩ (.bool true)) n S M (.slice aL n kL) vw vo way order lk (metAt met y)) := h.meet hy
  have HB1 : Hid (Below S w (w.setCell ⟨S + 2, y, none⟩ (.bool true))) := by
    refine ⟨rfl, rfl, rfl, by simp [World.setCell], fun k hk => Below.heap_setCell _ _ _ _ (by show k ≠ S + 2; omega)⟩
  obtain ⟨i1, hi1, hy0, hy1', hyb⟩ := infoParts infoInt
  obtain ⟨aw, cw, hvw⟩ := own_slice h.rW
  subst hvw
  clear h
  obtain ⟨W0, hW0⟩ : ∃ W0, W0 = w.setCell ⟨S + 2, y, none⟩ (.bool true) := ⟨_, rfl⟩
  have hs0 : W0.heap.size = w.heap.size := by rw [hW0]; simp [World.setCell]
  rw [← hW0] at HD1 HB1
  obtain ⟨W1, hW1⟩ : ∃ W1, W1 = W0.alloc (.cells #[.int .i64 (y : Int)] 3) := ⟨_, rfl⟩
  have hb1 : Below W0.heap.size W0 W1 := by rw [hW1]; exact below_alloc _ _
  have hs1 : W1.heap.size = w.heap.size + 1 := by rw [hW1, ← hs0]; simp
  have HS1 : Hid (W1.heap.size = w.heap.size + 1) := hs1
  have HNW : Hid (∀ j u, [Value.int .i64 (y : Int)][j]? = some u → W1.cell? ((⟨w.heap.size, 0, none⟩ : Addr).add j) = some u) := by
    rw [← hs0]; exact World.news_of_block (by rw [hW1]; exact heap_alloc_new W0 _)
  have HD2 : Hid (OD W1 n S M (.slice aL n kL) (.slice aw way.length cw) vo way order lk (metAt met y)) := HD1.out.keep hb1
  have HB2 : Hid (Below S w W1) := HB1.out.trans (hb1.mono (by omega))
  have HLE : Hid (M + 2 ≤ W1.heap.size) := HD2.out.sz
  have HWE : Hid (W1 = (w.setCell ⟨S + 2, y, none⟩ (.bool true)).alloc (.cells #[.int .i64 (y : Int)] 3)) := by unfold Hid; rw [hW1, hW0]
  have HHB : Hid (Below S w W1) := HB2
  clear hs0 hW0 hW1 hb1 hs1 HD1 HB1
  go_enter Try.func33, Try.ntmps33
  go_wp2_with (at_builtin; rw [← HWE.out]; refine wpList_append_lies _ rfl _ _ 31 (by rfl) (M + 2) 3 i1 _ 1 8 Try.underlying31 hi1 hy0 hy1' hyb rfl (by decide) (.slice aw way.length cw) way.length _ (by rfl) HD2.out.rW ⟨w.heap.size, 0, none⟩ 1 1 [.int .i64 (y : Int)] (by rfl) rfl HNW.out (by intro u hu; simp at hu; subst hu; rfl) (by decide) (by unfold maxLen; omega) (by omega) HLE.out (w.heap.size + 1) HS1.out ?_)
  intro g cp w1 hown hgrow hat hlt1
  have hat2 : (Value.slice (some ⟨g, 0, none⟩) (way.length + 1) cp).ownBlock = (Value.slice aw way.length cw).ownBlock ∨ (Value.slice (some ⟨g, 0, none⟩) (way.length + 1) cp).ownBlock = some W1.heap.size := by
    rcases hat with h1 | h1
    · exact .inl h1.symm
    · right; rw [HS1.out]; simp [Value.ownBlock, h1]
  have HE : Hid (OD (w1.setCell ⟨S + 1, 0, none⟩ (.slice (some ⟨g, 0, none⟩) (way.length + 1) cp)) n S M (.slice aL n kL) (.slice (some ⟨g, 0, none⟩) (way.length + 1) cp) vo (way ++ [(y : Int)]) order lk (metAt met y)) := HD2.out.come hgrow hat2 hown
  have hne : (Value.slice aw way.length cw).ownBlock ≠ some (S + 1) := fun e => by have := (own_lt HD2.out.rW e).1; omega
  have hw1B : w1.heap[S + 1]? = some (.cells #[.slice aw way.length cw] 31) := (hgrow.block (S + 1) (by have := HLE.out; omega) fun e => hne e.symm).trans HD2.out.bW
  have s1 := cellOne hw1B
  have s2 := thawOne hw1B
  have HBF : Hid (Below S w (w1.setCell ⟨S + 1, 0, none⟩ (.slice (some ⟨g, 0, none⟩) (way.length + 1) cp))) := by
    refine HB2.out.trans ⟨hgrow.os, hgrow.tape, hgrow.output, by have := hgrow.size; simpa [World.setCell] using this, fun k hk => ?_⟩
    rw [Below.heap_setCell _ _ _ _ (show k ≠ S + 1 by omega)]
    exact hgrow.block k (by have := HLE.out; omega) fun e => by have := (own_lt HD2.out.rW e.symm).1; omega
  clear hown hgrow hat hat2 hne hw1B
  go_wp2_with fail
  go_end0
  exact ⟨_, rfl, HE.out, HBF.out⟩

set_option maxHeartbeats 4000000 in
set_option maxRecDepth 20000 in
theorem come_old (n S M : Nat) (y : Int) (aL : Option Addr) (kL : Nat) (vw vo : Value) (way order lk : List Int) (met : Nat → Bool) (w : World)
    (h : OD w n S M (.slice aL n kL) vw vo way order lk met) (hy : ¬ (0 ≤ y ∧ y < n ∧ met y.toNat = false)) :
    Calls Try.prog 33 #[.int .i64 y, .pointer (some ⟨S, 0, none⟩), .pointer (some ⟨M, 0, none⟩), .pointer (some ⟨S + 1, 0, none⟩)] w fun e w' => e = .returned (.tuple #[]) ∧ w' = w := by
  have pL := cellOne h.bL
  have pM := cellOne h.bM
  by_cases h1 : 0 ≤ y
  · by_cases h2 : y < (n : Int)
    · obtain ⟨z, rfl⟩ : ∃ z : Nat, y = z := ⟨y.toNat, by omega⟩
      have hz : z < n := by omega
      obtain ⟨r1, _⟩ := h.met? hz
      have hm : met z = true := by
        rcases hm : met z with _ | _
        · exact absurd ⟨h1, h2, by simpa using hm⟩ hy
        · rfl
      rw [hm] at r1
      clear h hy hm
      go_enter Try.func33, Try.ntmps33
      go_wp2_with fail
      go_end0
      exact ⟨rfl, rfl⟩
    · clear h hy
      go_enter Try.func33, Try.ntmps33
      go_wp2_with fail
      go_end0
      exact ⟨rfl, rfl⟩
  · clear h hy
    go_enter Try.func33, Try.ntmps33
    go_wp2_with fail
    go_end0
    exact ⟨rfl, rfl⟩

end Go.Proofs.Ytjdedfgdofceeaa
