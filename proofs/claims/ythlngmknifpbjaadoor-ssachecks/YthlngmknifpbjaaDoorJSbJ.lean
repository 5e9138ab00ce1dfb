/-
  Package ssa: the look for an order (orderOf): its walk.
-/
import Derived.Test.YthlngmknifpbjaaDoorJSbC
import Derived.Test.YthlngmknifpbjaaDoorSaE
namespace Go.Proofs.YthlngmknifpbjaaDoor
section
open Go.RowKit
set_option linter.unusedSimpArgs false
set_option linter.unusedVariables false

theorem own_base' {w : World} {base base' size n : Nat} {e : TypeId} {v : Value} {xs : List Value} (h : w.ownsRow base e size v n xs) (hb : base' ≤ base) : w.ownsRow base' e size v n xs := by
  refine ⟨h.1, ?_⟩
  rcases h.2 with h2 | ⟨g, cap, cur, h1, h2, h3⟩
  · exact .inl h2
  · exact .inr ⟨g, cap, cur, h1, Nat.le_trans hb h2, h3⟩

/-- the look for an order in memory: S: the size of the heap at its start -/
structure OD (wr : World) (n S M : Nat) (vL vw vo : Value) (way order lk : List Int) (met : Nat → Bool) : Prop where
  bL : wr.heap[S]? = some (.cells #[vL] 34)
  bW : wr.heap[S + 1]? = some (.cells #[vw] 23)
  bM : wr.heap[M]? = some (.cells #[.slice (some ⟨S + 2, 0, none⟩) n n] 53)
  rM : wr.ownsRow (S + 2) 4 1 (.slice (some ⟨S + 2, 0, none⟩) n n) n (bools n met)
  rK : wr.ownsRow (M + 1) 3 1 (.slice (some ⟨M + 1, 0, none⟩) n n) n (numsL lk)
  rW : wr.ownsRow (M + 2) 3 1 vw way.length (numsL way)
  rO : wr.ownsRow (M + 2) 3 1 vo order.length (numsL order)
  wo : ∀ g, vw.ownBlock = some g → vo.ownBlock ≠ some g
  sz : M + 2 ≤ wr.heap.size
  lt : S + 2 < M

variable {w wr w' w1 : World} {n S M : Nat} {vL vw vo : Value} {way order lk : List Int} {met : Nat → Bool}

theorem OD.keep (h : OD wr n S M vL vw vo way order lk met) (k : Below wr.heap.size wr w') : OD w' n S M vL vw vo way order lk met := by
  have hs := h.sz
  have hm := h.lt
  refine ⟨(k.block _ (by omega)).trans h.bL, (k.block _ (by omega)).trans h.bW, (k.block _ (by omega)).trans h.bM, own_same h.rM fun g hg => k.block g (own_lt h.rM hg).2, own_same h.rK fun g hg => k.block g (own_lt h.rK hg).2, own_same h.rW fun g hg => k.block g (own_lt h.rW hg).2, own_same h.rO fun g hg => k.block g (own_lt h.rO hg).2, h.wo, by have := k.size; omega, h.lt⟩

theorem OD.meet (h : OD wr n S M vL vw vo way order lk met) {i : Nat} (hi : i < n) : OD (wr.setCell ⟨S + 2, i, none⟩ (.bool true)) n S M vL vw vo way order lk (metAt met i) := by
  have hs := h.sz
  have hm := h.lt
  have hk : ∀ k, k ≠ S + 2 → (wr.setCell ⟨S + 2, i, none⟩ (.bool true)).heap[k]? = wr.heap[k]? := fun k hk => Below.heap_setCell _ _ _ _ hk
  have h1 := own_set h.rM i (.bool true) (by omega)
  rw [bools_set met hi] at h1
  refine ⟨(hk _ (by omega)).trans h.bL, (hk _ (by omega)).trans h.bW, (hk _ (by omega)).trans h.bM, h1, own_same h.rK fun g hg => hk g ?_, own_same h.rW fun g hg => hk g ?_, own_same h.rO fun g hg => hk g ?_, h.wo, by simpa [World.setCell] using hs, h.lt⟩
  · have := (own_lt h.rK hg).1; omega
  · have := (own_lt h.rW hg).1; omega
  · have := (own_lt h.rO hg).1; omega

/-- the way grows by one -/
theorem OD.come (h : OD wr n S M vL vw vo way order lk met) {vw' : Value} {x : Int} (hg : wr.grownBy w1 vw.ownBlock) (hat : vw'.ownBlock = vw.ownBlock ∨ vw'.ownBlock = some wr.heap.size) (ho : w1.ownsRow (M + 2) 3 1 vw' (way.length + 1) (numsL way ++ [numV x])) :
    OD (w1.setCell ⟨S + 1, 0, none⟩ vw') n S M vL vw' vo (way ++ [x]) order lk met := by
  have hs := h.sz
  have hm := h.lt
  have hk : ∀ k, k ≠ S + 1 → (w1.setCell ⟨S + 1, 0, none⟩ vw').heap[k]? = w1.heap[k]? := fun k hk => Below.heap_setCell _ _ _ _ hk
  have hw : ∀ g, vw.ownBlock = some g → M + 2 ≤ g := fun g hg => (own_lt h.rW hg).1
  have hb : ∀ k, k < wr.heap.size → k ≠ S + 1 → (∀ g, vw.ownBlock = some g → g ≠ k) → (w1.setCell ⟨S + 1, 0, none⟩ vw').heap[k]? = wr.heap[k]? := fun k h1 h2 h3 => (hk k h2).trans (hg.block k h1 fun e => h3 k e.symm rfl)
  have hl : ∀ k, k < M + 2 → k ≠ S + 1 → (w1.setCell ⟨S + 1, 0, none⟩ vw').heap[k]? = wr.heap[k]? := fun k h1 h2 => hb k (by omega) h2 fun g hgg e => by have := hw g hgg; omega
  have hb1 : w1.heap[S + 1]? = some (.cells #[vw] 23) := (hg.block _ (by omega) fun e => by have := hw _ e.symm; omega).trans h.bW
  refine ⟨(hl _ (by omega) (by omega)).trans h.bL, ?_, (hl _ (by omega) (by omega)).trans h.bM, own_same h.rM fun g hgg => ?_, own_same h.rK fun g hgg => ?_, ?_, own_same h.rO fun g hgg => ?_, fun g hgg e => ?_, by have := hg.size; simp [World.setCell]; omega, h.lt⟩
  · have := heap_setCell_same (o := 0) hb1 vw'
    simpa using this
  · have : g = S + 2 := by simpa [Value.ownBlock] using hgg.symm
    exact hl g (by omega) (by omega)
  · have : g = M + 1 := by simpa [Value.ownBlock] using hgg.symm
    exact hl g (by omega) (by omega)
  · rw [List.length_append, ← numsL_append]
    refine own_same ho fun g hgg => hk g ?_
    have := (own_lt ho hgg).1
    omega
  · have := own_lt h.rO hgg
    exact hb g this.2 (by omega) fun g' hg' e => h.wo g' hg' (by rw [e]; exact hgg)
  · rcases hat with e2 | e2
    · exact h.wo g (by rw [← e2]; exact hgg) e
    · rw [e2] at hgg
      have := (own_lt h.rO e).2
      have : wr.heap.size = g := by simpa using hgg
      omega

theorem OD.met? (h : OD wr n S M vL vw vo way order lk met) {i : Nat} (hi : i < n) : wr.cell? ⟨S + 2, i, none⟩ = some (.bool (met i)) ∧ wr.frozen? ⟨S + 2, i, none⟩ = false := by
  obtain ⟨g, c, he, _, _, _, _, hfz, hat⟩ := own_at h.rM (by omega)
  cases he
  exact ⟨hat i _ (bools_get met hi), hfz i⟩
end

section
open Go.RowKit
set_option linter.unusedSimpArgs false
set_option linter.unusedVariables false

theorem cellOne {w : World} {x : Nat} {T : TypeId} {f : Nat × Nat} {c0 : Value} (h : w.heap[x]? = some (.cells #[c0] T f)) : w.cell? ⟨x, 0, none⟩ = some c0 := by simp [World.cell?, h]
theorem thawOne {w : World} {x : Nat} {T : TypeId} {c0 : Value} (h : w.heap[x]? = some (.cells #[c0] T)) : w.frozen? ⟨x, 0, none⟩ = false := by simp [World.frozen?, h]

/-- is the place a block that has not been met -/
def newB (n : Nat) (met : Nat → Bool) (y : Int) : Bool := decide (0 ≤ y) && decide (y < n) && !met y.toNat

set_option maxHeartbeats 4000000 in
set_option maxRecDepth 20000 in
theorem come_new (n S M y : Nat) (aL : Option Addr) (kL : Nat) (vw vo : Value) (way order lk : List Int) (met : Nat → Bool) (w : World) (hn : n ≤ maxLen) (hS : S ≤ w.heap.size)
    (h : OD w n S M (.slice aL n kL) vw vo way order lk met) (hy : y < n) (hm : met y = false) (hl : way.length < 4611686018427387904) (hl2 : (way.length + 1) * 8 ≤ 140737488351232) :
    Calls Tryd.prog 44 #[.int .i64 (y : Int), .pointer (some ⟨S, 0, none⟩), .pointer (some ⟨M, 0, none⟩), .pointer (some ⟨S + 1, 0, none⟩)] w fun e w' =>
      ∃ vw', e = .returned (.tuple #[]) ∧ OD w' n S M (.slice aL n kL) vw' vo (way ++ [(y : Int)]) order lk (metAt met y) ∧ Below S w w' := by
  have HD : Hid (OD w n S M (.slice aL n kL) vw vo way order lk met) := h
  have hlt0 := h.lt
  have pL := cellOne h.bL
  have pW := cellOne h.bW
  have pM := cellOne h.bM
  obtain ⟨r1, r2⟩ := h.met? hy
  rw [hm] at r1
  have hy1 : (0 : Int) ≤ (y : Int) := by omega
  have hy2 : (y : Int) < (n : Int) := by omega
  have HD1 : Hid (OD (w.setCell ⟨S + 2, y, none⟩ (.bool true)) n S M (.slice aL n kL) vw vo way order lk (metAt met y)) := h.meet hy
  have HB1 : Hid (Below S w (w.setCell ⟨S + 2, y, none⟩ (.bool true))) := by
    refine ⟨rfl, rfl, rfl, by simp [World.setCell], fun k hk => Below.heap_setCell _ _ _ _ (by show k ≠ S + 2; omega)⟩
  obtain ⟨i1, hi1, hy0, hy1', hyb⟩ := infoParts infoInt
  obtain ⟨aw, cw, hvw⟩ := own_slice h.rW
  subst hvw
  clear h
  obtain ⟨W0, hW0⟩ : ∃ W0, W0 = w.setCell ⟨S + 2, y, none⟩ (.bool true) := ⟨_, rfl⟩
  have hs0 : W0.heap.size = w.heap.size := by rw [hW0]; simp [World.setCell]
  rw [← hW0] at HD1 HB1
  obtain ⟨W1, hW1⟩ : ∃ W1, W1 = W0.alloc (.cells #[.int .i64 (y : Int)] 3) := ⟨_, rfl⟩
  have hb1 : Below W0.heap.size W0 W1 := by rw [hW1]; exact below_alloc _ _
  have hs1 : W1.heap.size = w.heap.size + 1 := by rw [hW1, ← hs0]; simp
  have HS1 : Hid (W1.heap.size = w.heap.size + 1) := hs1
  have HNW : Hid (∀ j u, [Value.int .i64 (y : Int)][j]? = some u → W1.cell? ((⟨w.heap.size, 0, none⟩ : Addr).add j) = some u) := by
    rw [← hs0]; exact World.news_of_block (by rw [hW1]; exact heap_alloc_new W0 _)
  have HD2 : Hid (OD W1 n S M (.slice aL n kL) (.slice aw way.length cw) vo way order lk (metAt met y)) := HD1.out.keep hb1
  have HB2 : Hid (Below S w W1) := HB1.out.trans (hb1.mono (by omega))
  have HLE : Hid (M + 2 ≤ W1.heap.size) := HD2.out.sz
  have HWE : Hid (W1 = (w.setCell ⟨S + 2, y, none⟩ (.bool true)).alloc (.cells #[.int .i64 (y : Int)] 3)) := by unfold Hid; rw [hW1, hW0]
  have HHB : Hid (Below S w W1) := HB2
  clear hs0 hW0 hW1 hb1 hs1 HD1 HB1
  go_enter Tryd.func44, Tryd.ntmps44
  go_wp2_with (at_builtin; rw [← HWE.out]; refine wpList_append_lies _ rfl _ _ 23 (by rfl) (M + 2) 3 i1 _ 1 8 Tryd.underlying23 hi1 hy0 hy1' hyb rfl (by decide) (.slice aw way.length cw) way.length _ (by rfl) HD2.out.rW ⟨w.heap.size, 0, none⟩ 1 1 [.int .i64 (y : Int)] (by rfl) rfl HNW.out (by intro u hu; simp at hu; subst hu; rfl) (by decide) (by unfold maxLen; omega) (by omega) HLE.out (w.heap.size + 1) HS1.out ?_)
  intro g cp w1 hown hgrow hat hlt1
  have hat2 : (Value.slice (some ⟨g, 0, none⟩) (way.length + 1) cp).ownBlock = (Value.slice aw way.length cw).ownBlock ∨ (Value.slice (some ⟨g, 0, none⟩) (way.length + 1) cp).ownBlock = some W1.heap.size := by
    rcases hat with h1 | h1
    · exact .inl h1.symm
    · right; rw [HS1.out]; simp [Value.ownBlock, h1]
  have HE : Hid (OD (w1.setCell ⟨S + 1, 0, none⟩ (.slice (some ⟨g, 0, none⟩) (way.length + 1) cp)) n S M (.slice aL n kL) (.slice (some ⟨g, 0, none⟩) (way.length + 1) cp) vo (way ++ [(y : Int)]) order lk (metAt met y)) := HD2.out.come hgrow hat2 hown
  have hne : (Value.slice aw way.length cw).ownBlock ≠ some (S + 1) := fun e => by have := (own_lt HD2.out.rW e).1; omega
  have hw1B : w1.heap[S + 1]? = some (.cells #[.slice aw way.length cw] 23) := (hgrow.block (S + 1) (by have := HLE.out; omega) fun e => hne e.symm).trans HD2.out.bW
  have s1 := cellOne hw1B
  have s2 := thawOne hw1B
  have HBF : Hid (Below S w (w1.setCell ⟨S + 1, 0, none⟩ (.slice (some ⟨g, 0, none⟩) (way.length + 1) cp))) := by
    refine HB2.out.trans ⟨hgrow.os, hgrow.tape, hgrow.output, by have := hgrow.size; simpa [World.setCell] using this, fun k hk => ?_⟩
    rw [Below.heap_setCell _ _ _ _ (show k ≠ S + 1 by omega)]
    exact hgrow.block k (by have := HLE.out; omega) fun e => by have := (own_lt HD2.out.rW e.symm).1; omega
  clear hown hgrow hat hat2 hne hw1B
  go_wp2_with fail
  go_end0
  exact ⟨_, rfl, HE.out, HBF.out⟩

set_option maxHeartbeats 4000000 in
set_option maxRecDepth 20000 in
theorem come_old (n S M : Nat) (y : Int) (aL : Option Addr) (kL : Nat) (vw vo : Value) (way order lk : List Int) (met : Nat → Bool) (w : World)
    (h : OD w n S M (.slice aL n kL) vw vo way order lk met) (hy : ¬ (0 ≤ y ∧ y < n ∧ met y.toNat = false)) :
    Calls Tryd.prog 44 #[.int .i64 y, .pointer (some ⟨S, 0, none⟩), .pointer (some ⟨M, 0, none⟩), .pointer (some ⟨S + 1, 0, none⟩)] w fun e w' => e = .returned (.tuple #[]) ∧ w' = w := by
  have pL := cellOne h.bL
  have pM := cellOne h.bM
  by_cases h1 : 0 ≤ y
  · by_cases h2 : y < (n : Int)
    · obtain ⟨z, rfl⟩ : ∃ z : Nat, y = z := ⟨y.toNat, by omega⟩
      have hz : z < n := by omega
      obtain ⟨r1, _⟩ := h.met? hz
      have hm : met z = true := by
        rcases hm : met z with _ | _
        · exact absurd ⟨h1, h2, by simpa using hm⟩ hy
        · rfl
      rw [hm] at r1
      clear h hy hm
      go_enter Tryd.func44, Tryd.ntmps44
      go_wp2_with fail
      go_end0
      exact ⟨rfl, rfl⟩
    · clear h hy
      go_enter Tryd.func44, Tryd.ntmps44
      go_wp2_with fail
      go_end0
      exact ⟨rfl, rfl⟩
  · clear h hy
    go_enter Tryd.func44, Tryd.ntmps44
    go_wp2_with fail
    go_end0
    exact ⟨rfl, rfl⟩
end

section
open Go.RowKit
set_option linter.unusedSimpArgs false
set_option linter.unusedVariables false

def lkL (n : Nat) (f : Nat → Nat) : List Int := (List.range n).map fun i => ((f i : Nat) : Int)
theorem lkL_len (n : Nat) (f : Nat → Nat) : (lkL n f).length = n := by simp [lkL]
theorem lkL_get {n i : Nat} (f : Nat → Nat) (h : i < n) : (numsL (lkL n f))[i]? = some (.int .i64 ((f i : Nat) : Int)) := by
  refine numsL_get _ _ _ ?_
  unfold lkL; rw [List.getElem?_map, List.getElem?_range h]; rfl
theorem lkL_set {n i : Nat} (f : Nat → Nat) (h : i < n) : (numsL (lkL n f)).set i (.int .i64 ((f i : Nat) + 1 : Int)) = numsL (lkL n (lookAt f i)) := by
  refine List.ext_getElem? fun k => ?_
  by_cases hk : k < n
  · by_cases e : i = k
    · subst e
      rw [List.getElem?_set_self (by rw [numsL_len, lkL_len]; exact h), lkL_get _ hk]; unfold lookAt; rw [if_pos rfl]; simp
    · rw [List.getElem?_set_ne e, lkL_get _ hk, lkL_get _ hk]; unfold lookAt; rw [if_neg (fun h => e h.symm)]
  · rw [List.getElem?_eq_none (by rw [List.length_set, numsL_len, lkL_len]; omega), List.getElem?_eq_none (by rw [numsL_len, lkL_len]; omega)]
theorem lkL_zero (n : Nat) : numsL (lkL n (fun _ => 0)) = List.replicate n (.int .i64 0) := by
  unfold numsL lkL; rw [List.map_map]; refine List.ext_getElem? fun k => ?_
  by_cases hk : k < n
  · rw [List.getElem?_map, List.getElem?_range hk, List.getElem?_replicate, if_pos hk]; rfl
  · rw [List.getElem?_eq_none (by simp; omega), List.getElem?_eq_none (by simp; omega)]

/-- how many places have not been looked at -/
def leftL (L : List (List Int)) : Nat → (Nat → Nat) → Nat
  | 0, _ => 0
  | n + 1, f => leftL L n f + ((L.getD n []).length - f n)
theorem leftL_off {L : List (List Int)} {b : Nat} (f : Nat → Nat) : ∀ n, n ≤ b → leftL L n (lookAt f b) = leftL L n f
  | 0, _ => rfl
  | n + 1, h => by
    unfold leftL
    rw [leftL_off f n (by omega)]
    have : lookAt f b n = f n := by unfold lookAt; rw [if_neg (by omega)]
    rw [this]
theorem leftL_look {L : List (List Int)} {b : Nat} (f : Nat → Nat) (hb : f b < (L.getD b []).length) : ∀ n, b < n → leftL L n (lookAt f b) + 1 = leftL L n f
  | 0, h => by omega
  | n + 1, h => by
    unfold leftL
    by_cases e : n = b
    · subst e
      rw [leftL_off f n (Nat.le_refl _)]
      have : lookAt f n n = f n + 1 := by unfold lookAt; rw [if_pos rfl]
      rw [this]
      omega
    · have : lookAt f b n = f n := by unfold lookAt; rw [if_neg e]
      rw [this, ← leftL_look f hb n (by omega)]
      omega

variable {w wr w' w1 : World} {n S M : Nat} {vL vw vo : Value} {way order lk : List Int} {met : Nat → Bool}

theorem OD.look? {f : Nat → Nat} (h : OD wr n S M vL vw vo way order (lkL n f) met) {i : Nat} (hi : i < n) : wr.cell? ⟨M + 1, i, none⟩ = some (.int .i64 ((f i : Nat) : Int)) ∧ wr.frozen? ⟨M + 1, i, none⟩ = false := by
  obtain ⟨g, c, he, _, _, _, _, hfz, hat⟩ := own_at h.rK (by omega)
  cases he
  exact ⟨hat i _ (lkL_get f hi), hfz i⟩

theorem OD.looked {f : Nat → Nat} (h : OD wr n S M vL vw vo way order (lkL n f) met) {i : Nat} (hi : i < n) : OD (wr.setCell ⟨M + 1, i, none⟩ (.int .i64 ((f i : Nat) + 1 : Int))) n S M vL vw vo way order (lkL n (lookAt f i)) met := by
  have hs := h.sz
  have hm := h.lt
  have hk : ∀ k, k ≠ M + 1 → (wr.setCell ⟨M + 1, i, none⟩ (.int .i64 ((f i : Nat) + 1 : Int))).heap[k]? = wr.heap[k]? := fun k hk => Below.heap_setCell _ _ _ _ hk
  have h1 := own_set h.rK i (.int .i64 ((f i : Nat) + 1 : Int)) (by omega)
  rw [lkL_set f hi] at h1
  refine ⟨(hk _ (by omega)).trans h.bL, (hk _ (by omega)).trans h.bW, (hk _ (by omega)).trans h.bM, own_same h.rM fun g hg => hk g ?_, h1, own_same h.rW fun g hg => hk g ?_, own_same h.rO fun g hg => hk g ?_, h.wo, by simpa [World.setCell] using hs, h.lt⟩
  · have : g = S + 2 := by simpa [Value.ownBlock] using hg.symm
    omega
  · have := (own_lt h.rW hg).1; omega
  · have := (own_lt h.rO hg).1; omega

/-- the last one of the way -/
theorem OD.top {ws : List Int} {b : Int} (h : OD wr n S M vL vw vo (ws ++ [b]) order lk met) : ∃ g c, vw = .slice (some ⟨g, 0, none⟩) (ws.length + 1) c ∧ M + 2 ≤ g ∧ wr.cell? ⟨g, ws.length, none⟩ = some (.int .i64 b) := by
  obtain ⟨g, c, he, hg, _, _, _, _, hat⟩ := own_at h.rW (by simp)
  refine ⟨g, c, by simpa using he, hg, hat _ _ (numsL_get _ _ b (by simp))⟩

theorem OD.pop {ws : List Int} {b : Int} {g c : Nat} (h : OD wr n S M vL (.slice (some ⟨g, 0, none⟩) (ws.length + 1) c) vo (ws ++ [b]) order lk met) :
    OD (wr.setCell ⟨S + 1, 0, none⟩ (.slice (some ⟨g, 0, none⟩) ws.length c)) n S M vL (.slice (some ⟨g, 0, none⟩) ws.length c) vo ws order lk met := by
  have hs := h.sz
  have hm := h.lt
  have hk : ∀ k, k ≠ S + 1 → (wr.setCell ⟨S + 1, 0, none⟩ (.slice (some ⟨g, 0, none⟩) ws.length c)).heap[k]? = wr.heap[k]? := fun k hk => Below.heap_setCell _ _ _ _ hk
  have hW := h.rW
  rw [List.length_append, List.length_singleton] at hW
  have hc := own_cut hW (k := ws.length) (by omega)
  have e : (numsL (ws ++ [b])).take (ws.length * 1) = numsL ws := by
    rw [← numsL_append, Nat.mul_one, List.take_append_of_le_length (by rw [numsL_len]; omega), List.take_of_length_le (by rw [numsL_len]; omega)]
  rw [e] at hc
  refine ⟨(hk _ (by omega)).trans h.bL, ?_, (hk _ (by omega)).trans h.bM, own_same h.rM fun g hg => hk g ?_, own_same h.rK fun g hg => hk g ?_, own_same hc fun g hg => hk g ?_, own_same h.rO fun g hg => hk g ?_, fun g hg => h.wo g hg, by simpa [World.setCell] using hs, h.lt⟩
  · have := heap_setCell_same (o := 0) h.bW (.slice (some ⟨g, 0, none⟩) ws.length c)
    simpa using this
  · have : g = S + 2 := by simpa [Value.ownBlock] using hg.symm
    omega
  · have : g = M + 1 := by simpa [Value.ownBlock] using hg.symm
    omega
  · have := (own_lt hc hg).1; omega
  · have := (own_lt h.rO hg).1; omega

/-- a block is in order -/
theorem OD.out (h : OD wr n S M vL vw vo way order lk met) {vo' : Value} {x : Int} (hg : wr.grownBy w1 vo.ownBlock) (hat : vo'.ownBlock = vo.ownBlock ∨ vo'.ownBlock = some wr.heap.size) (ho : w1.ownsRow (M + 2) 3 1 vo' (order.length + 1) (numsL order ++ [numV x])) :
    OD w1 n S M vL vw vo' way (order ++ [x]) lk met := by
  have hs := h.sz
  have hm := h.lt
  have hb : ∀ k, k < wr.heap.size → (∀ g, vo.ownBlock = some g → g ≠ k) → w1.heap[k]? = wr.heap[k]? := fun k h1 h3 => hg.block k h1 fun e => h3 k e.symm rfl
  have hl : ∀ k, k < M + 2 → w1.heap[k]? = wr.heap[k]? := fun k h1 => hb k (by omega) fun g hgg e => by have := (own_lt h.rO hgg).1; omega
  refine ⟨(hl _ (by omega)).trans h.bL, (hl _ (by omega)).trans h.bW, (hl _ (by omega)).trans h.bM, own_same h.rM fun g hgg => ?_, own_same h.rK fun g hgg => ?_, own_same h.rW fun g hgg => ?_, ?_, fun g hgg e => ?_, by have := hg.size; omega, h.lt⟩
  · have : g = S + 2 := by simpa [Value.ownBlock] using hgg.symm
    exact hl g (by omega)
  · have : g = M + 1 := by simpa [Value.ownBlock] using hgg.symm
    exact hl g (by omega)
  · exact hb g (own_lt h.rW hgg).2 fun g' hg' e => h.wo g hgg (by rw [← e]; exact hg')
  · rw [List.length_append, ← numsL_append]; exact ho
  · rcases hat with e2 | e2
    · exact h.wo g hgg (by rw [← e2]; exact e)
    · rw [e2] at e
      have := (own_lt h.rW hgg).2
      have : wr.heap.size = g := by simpa using e
      omega
end

section
open Go.RowKit
set_option linter.unusedSimpArgs false
set_option linter.unusedVariables false

def natsL (l : List Nat) : List Int := l.map fun i => ((i : Nat) : Int)

set_option maxHeartbeats 600000 in
set_option maxRecDepth 20000 in
theorem orderOf_any (L : List (List Int)) (v : Value) (B : Nat) (w : World) (hB : B ≤ w.heap.size) (hb : Rws B w v L) (hsz : L.length * 24 ≤ 140737488351232)
    (hrev : ∀ (base : Nat) (u : Value) (l : List Int) (W : World), W.ownsRow base 3 1 u l.length (numsL l) → Calls Tryd.prog 45 #[u] W fun e w' => e = .returned (.tuple #[]) ∧ w'.ownsRow base 3 1 u l.length (numsL l.reverse) ∧ Below base W w') :
    Calls Tryd.prog 29 #[v] w fun e w' => ∃ u o, e = .returned u ∧ w'.ownsRow w.heap.size 3 1 u o.length (numsL (natsL o)) ∧ (0 < L.length → Ordered L o) ∧ (L.length = 0 → o = []) ∧ Below w.heap.size w w' := by
  obtain ⟨a3, k3, rfl⟩ := Lies.slice hb
  have HBK : Hid (Rws B w (.slice a3 L.length k3) L) := hb
  obtain ⟨n, hn⟩ : ∃ n, n = L.length := ⟨_, rfl⟩
  rw [← hn] at hsz HBK ⊢
  have HN : Hid (n = L.length) := hn
  have HREV : Hid (_) := hrev
  obtain ⟨i0, hi0, hz0, hz1, hzb⟩ := infoParts infoBool
  obtain ⟨i1, hi1, hy0, hy1, hyb⟩ := infoParts infoInt
  obtain ⟨S, hS⟩ : ∃ S, S = w.heap.size := ⟨_, rfl⟩
  obtain ⟨W1, hW1⟩ : ∃ W1, W1 = w.alloc (.cells #[.slice a3 n k3] 34) := ⟨_, rfl⟩
  obtain ⟨W2, hW2⟩ : ∃ W2, W2 = W1.alloc (.cells #[.slice none 0 0] 23) := ⟨_, rfl⟩
  have hs1 : W1.heap.size = S + 1 := by rw [hW1, hS]; simp
  have hs2 : W2.heap.size = S + 2 := by rw [hW2]; simp [hs1]
  have hb1 : Below w.heap.size w W1 := by rw [hW1]; exact below_alloc _ _
  have hb2 : Below W1.heap.size W1 W2 := by rw [hW2]; exact below_alloc _ _
  have HBW2 : Hid (Below S w W2) := by rw [hS]; exact hb1.trans (hb2.mono hb1.size)
  have HL2 : Hid (W2.heap[S]? = some (.cells #[.slice a3 n k3] 34)) := (hb2.block S (by omega)).trans (by rw [hW1, hS]; exact heap_alloc_new w _)
  have HW2 : Hid (W2.heap[S + 1]? = some (.cells #[.slice none 0 0] 23)) := by rw [hW2, ← hs1]; exact heap_alloc_new W1 _
  have HWE : Hid (W2 = (w.alloc (.cells #[.slice a3 n k3] 34)).alloc (.cells #[.slice none 0 0] 23)) := by unfold Hid; rw [hW2, hW1]
  have HSE : Hid (S = w.heap.size) := hS
  clear hb hn hrev hW1 hW2 hb1 hb2
  rw [← hS]
  go_enter Tryd.func29, Tryd.ntmps29
  go_wp2_with (at_make; rw [← HWE.out]; refine wpList_make_full _ rfl _ _ _ rfl W2.heap.size 4 i0 _ 1 Tryd.underlying53 hi0 hz0 hz1 .i64 .i64 _ _ n (by rfl) (by rfl) rfl rfl (by rw [hzb]; omega) (by unfold maxLen; omega) (Nat.le_refl _) ?_)
  intro w0 hown hgrow
  obtain ⟨M, hM⟩ : ∃ M, M = w0.heap.size := ⟨_, rfl⟩
  have hM2 : S + 2 < M := by have := (own_lt hown (g := w.heap.size + 2) rfl).2; omega
  have hb0 : Below W2.heap.size W2 w0 := (Below.refl _ _).grown hgrow (Nat.le_refl _) (fun k hk => by cases hk)
  obtain ⟨W3, hW3⟩ : ∃ W3, W3 = w0.alloc (.cells #[.slice (some ⟨S + 2, 0, none⟩) n n] 53) := ⟨_, rfl⟩
  have hs3 : W3.heap.size = M + 1 := by rw [hW3, hM]; simp
  have hb3 : Below w0.heap.size w0 W3 := by rw [hW3]; exact below_alloc _ _
  have h1 : (madeCells #[Value.bool false] n).toList = List.replicate n (.bool false) := toList_madeCells_one _ _
  rw [h1, ← bools_none, ← HSE.out] at hown
  have HOM : Hid (W3.ownsRow (S + 2) 4 1 (.slice (some ⟨S + 2, 0, none⟩) n n) n (bools n (fun _ => false))) := own_same hown fun g hg => hb3.block g (own_lt hown hg).2
  have HBW3 : Hid (Below S w W3) := HBW2.out.trans ((hb0.mono (by omega)).trans (hb3.mono (by omega)))
  have HL3 : Hid (W3.heap[S]? = some (.cells #[.slice a3 n k3] 34)) := (hb3.block S (by omega)).trans ((hb0.block S (by omega)).trans HL2.out)
  have HW3 : Hid (W3.heap[S + 1]? = some (.cells #[.slice none 0 0] 23)) := (hb3.block _ (by omega)).trans ((hb0.block _ (by omega)).trans HW2.out)
  have HM3 : Hid (W3.heap[M]? = some (.cells #[.slice (some ⟨S + 2, 0, none⟩) n n] 53)) := by rw [hW3, hM]; exact heap_alloc_new w0 _
  have HWE3 : Hid (W3 = w0.alloc (.cells #[.slice (some ⟨w.heap.size + 2, 0, none⟩) n n] 53)) := by unfold Hid; rw [hW3, HSE.out]
  have p3 := cellOne HL3.out
  rw [HSE.out, HWE3.out] at p3
  have HMM : Hid (M = w0.heap.size) := hM
  clear hW3 hb0 hb3 hown hgrow HW2 HL2 HWE HBW2 h1 hM
  go_wp2_with (at_make; rw [← HWE3.out]; refine wpList_make_full _ rfl _ _ _ rfl W3.heap.size 3 i1 _ 1 Tryd.underlying23 hi1 hy0 hy1 .i64 .i64 _ _ n (by rfl) (by rfl) rfl rfl (by rw [hyb]; omega) (by unfold maxLen; omega) (Nat.le_refl _) ?_)
  intro w4 hown hgrow
  have hs3' : W3.heap.size = w0.heap.size + 1 := by rw [hs3, HMM.out]
  have HD0 : Hid (OD w4 n S M (.slice a3 n k3) (.slice none 0 0) (.slice none 0 0) [] [] (lkL n (fun _ => 0)) (fun _ => false) ∧ Below S w w4) := by
    have hb4 : Below W3.heap.size W3 w4 := (Below.refl _ _).grown hgrow (Nat.le_refl _) (fun k hk => by cases hk)
    have h1 : (madeCells #[Value.int .i64 0] n).toList = List.replicate n (.int .i64 0) := toList_madeCells_one _ _
    rw [h1, ← lkL_zero] at hown
    have hlt := (own_lt hown (g := M + 1) rfl).2
    refine ⟨⟨(hb4.block _ (by omega)).trans HL3.out, (hb4.block _ (by omega)).trans HW3.out, (hb4.block _ (by omega)).trans HM3.out, own_same HOM.out fun g hg => hb4.block g (own_lt HOM.out hg).2, hown, World.ownsRow_nil _ _ _ _, World.ownsRow_nil _ _ _ _, fun g hg => (by cases hg), by omega, by omega⟩, HBW3.out.trans (hb4.mono (by omega))⟩
  clear hown hgrow HBW3 HL3 HW3 HM3 HOM HWE3 p3 hs3' hs3
  rw [← HSE.out, ← HMM.out]
  clear hS
  have hcome : ∃ ws0 met0 looked0, Hid (Calls Tryd.prog 44 #[.int .i64 0, .pointer (some ⟨S, 0, none⟩), .pointer (some ⟨M, 0, none⟩), .pointer (some ⟨S + 1, 0, none⟩)] w4 fun e w' =>
      ∃ vw', e = .returned (.tuple #[]) ∧ OD w' n S M (.slice a3 n k3) vw' (.slice none 0 0) (natsL ws0) [] (lkL n looked0) met0 ∧ Below S w w') ∧ Hid ((0 < n → Dfs L [] ws0 met0 looked0) ∧ (n = 0 → ws0 = []) ∧ (∀ b, b < n → looked0 b ≤ (L.getD b []).length) ∧ ws0.length + unseen n met0 = n ∧ 2 * leftL L n looked0 + ws0.length ≤ 2 * leftL L n (fun _ => 0) + 1) := by
    by_cases hn0 : n = 0
    · refine ⟨[], fun _ => false, fun _ => 0, ?_, ⟨fun h => by omega, fun _ => rfl, fun b _ => Nat.zero_le _, ?_, by simp⟩⟩
      · refine (come_old n S M 0 a3 k3 _ _ _ _ _ _ w4 HD0.out.1 (fun h => by omega)).mono ?_
        rintro e w' ⟨rfl, rfl⟩
        exact ⟨_, rfl, HD0.out.1, HD0.out.2⟩
      · subst hn0; rfl
    · have hu : unseen n (metAt (fun _ => false) 0) + 1 = n := by
        have h1 : ∀ m, unseen m (fun _ => false) = m := fun m => by
          induction m with
          | zero => rfl
          | succ m ih => unfold unseen; rw [ih]; rfl
        have := unseen_met (y := 0) (fun _ => false) rfl n (by omega)
        rw [h1] at this; exact this
      refine ⟨[0], metAt (fun _ => false) 0, fun _ => 0, ?_, ⟨fun h => ?_, fun h => by omega, fun b _ => Nat.zero_le _, by simp; omega, by simp⟩⟩
      · have hSb : S ≤ w4.heap.size := by have := HD0.out.1.sz; have := HD0.out.1.lt; omega
        refine (come_new n S M 0 a3 k3 _ _ _ _ _ _ w4 (by unfold maxLen; omega) hSb HD0.out.1 (by omega) rfl (by simp) (by simp)).mono ?_
        rintro e w' ⟨vw', rfl, h1, h2⟩
        exact ⟨vw', rfl, h1, HD0.out.2.trans h2⟩
      · have e : metAt (fun _ => false) 0 = fun x => x == 0 := by funext x; unfold metAt; by_cases hx : x = 0 <;> simp [hx]
        rw [e]
        exact Dfs.start (by rw [← HN.out]; exact h)
  obtain ⟨ws0, met0, looked0, HC, HM0⟩ := hcome
  go_wp2_with fail
  refine HC.out.mono ?_
  rintro e w5 ⟨vw0, rfl, hd5, hb5⟩
  have HD5 : Hid (_) := hd5
  have HB5 : Hid (_) := hb5
  clear hd5 hb5 HC HD0
  go_wp2_with fail
  go_loopg [3] (2 * leftL L n (fun _ => 0) + 1) (fun g s3 wr => ∃ (vo vw : Value) (ord ws : List Nat) (met : Nat → Bool) (looked : Nat → Nat), s3 = vo ∧ 2 * leftL L n looked + ws.length ≤ g ∧ Hid (OD wr n S M (.slice a3 n k3) vw vo (natsL ws) (natsL ord) (lkL n looked) met) ∧ Hid (Below S w wr) ∧ Hid (0 < n → Dfs L ord ws met looked) ∧ Hid (n = 0 → ws = [] ∧ ord = []) ∧ Hid (∀ b, b < n → looked b ≤ (L.getD b []).length) ∧ ord.length + ws.length + unseen n met = n)
  case atStart => exact ⟨_, vw0, [], ws0, met0, looked0, rfl, HM0.out.2.2.2.2, HD5, HB5, HM0.out.1, fun h => ⟨HM0.out.2.1 h, rfl⟩, HM0.out.2.2.1, by have := HM0.out.2.2.2.1; simpa using this⟩
  case round =>
    clear HD5 HB5 HM0 vw0 ws0 met0 looked0
    obtain ⟨vo, vw, ord, ws, met, looked, rfl, hg, HD, HB, HF, HZ, HLK, hcnt⟩ := hrel
    have pL := cellOne HD.out.bL
    have pW := cellOne HD.out.bW
    have pW2 := thawOne HD.out.bW
    rcases List.eq_nil_or_concat ws with rfl | ⟨ws', b, rfl⟩
    · obtain ⟨aw, cw, hvw⟩ := own_slice HD.out.rW
      subst hvw
      have hz : ¬ ((0 : Int) > 0) := by omega
      have HRO : Hid (wr.ownsRow (M + 2) 3 1 u3 (natsL ord).length (numsL (natsL ord))) := HD.out.rO
      have HLT : Hid (S + 2 < M) := HD.out.lt
      go_wp2_with fail
      refine (HREV.out (M + 2) u3 (natsL ord) wr HRO.out).mono ?_
      rintro e w6 ⟨rfl, ho6, hb6⟩
      have HO6 : Hid (_) := ho6
      have HB6 : Hid (_) := hb6
      clear ho6 hb6 pL pW pW2
      go_wp2_with fail
      go_ret
      refine ⟨_, ord.reverse, rfl, ?_, fun h => ?_, fun h => ?_, HB.out.trans (HB6.out.mono (by have := HLT.out; omega))⟩
      · have e : natsL ord.reverse = (natsL ord).reverse := by unfold natsL; rw [List.map_reverse]
        rw [e, List.length_reverse]
        have e2 : (natsL ord).length = ord.length := by simp [natsL]
        have h6 := HO6.out
        rw [e2] at h6
        exact own_base' h6 (by have := HLT.out; omega)
      · exact (HF.out h).end
      · rw [(HZ.out h).2]; rfl
    · rw [List.concat_eq_append] at HD HF HZ hcnt hg
      have hlen : (ws' ++ [b]).length = ws'.length + 1 := by simp
      have hn0 : 0 < n := by rw [hlen] at hcnt; omega
      have HDF : Hid (Dfs L ord (ws' ++ [b]) met looked) := HF.out hn0
      have hbn : b < n := by rw [HN.out]; exact (HDF.out.ok b (.inr (by simp))).1
      have HD2 : Hid (OD wr n S M (.slice a3 n k3) vw u3 (natsL ws' ++ [((b : Nat) : Int)]) (natsL ord) (lkL n looked) met) := by
        have e : natsL (ws' ++ [b]) = natsL ws' ++ [((b : Nat) : Int)] := by simp [natsL]
        unfold Hid; rw [← e]; exact HD.out
      obtain ⟨gw, cw, hvw, hgw, r1⟩ := HD2.out.top
      have hml : (natsL ws').length = ws'.length := by simp [natsL]
      rw [hml] at hvw r1
      obtain ⟨m, hm⟩ : ∃ m, m = ws'.length := ⟨_, rfl⟩
      rw [← hm] at hvw r1
      subst hvw
      have HML : Hid (m = (natsL ws').length) := by unfold Hid; rw [hml, hm]
      have HM : Hid (m = ws'.length) := hm
      have hmb : m < n := by rw [hlen] at hcnt; omega
      have HCNT : Hid (ord.length + (m + 1) + unseen n met = n) := by rw [hlen, ← hm] at hcnt; exact hcnt
      have hg' : 2 * leftL L n looked + (m + 1) ≤ gk := by rw [hlen, ← hm] at hg; exact hg
      obtain ⟨r3, r4⟩ := HD2.out.look? hbn
      have hget : L[b]? = some L[b] := List.getElem?_eq_getElem (by have := HN.out; omega)
      generalize L[b] = l at hget
      have HGD : Hid (L.getD b [] = l) := by unfold Hid; rw [List.getD_eq_getElem?_getD, hget]; rfl
      have hlk := HLK.out b hbn
      rw [HGD.out] at hlk
      obtain ⟨gL, oL, cs, rfl, hgL, _, ⟨ul, rfl, hul⟩, hcl⟩ := Lies.at HBK.out hget
      obtain ⟨al, kl, rfl⟩ := Lies.slice hul
      have HBw : Hid (Below B w wr) := HB.out.mono (by rw [HSE.out]; exact hB)
      have q0 := (HBw.out.cell (p := ⟨gL, oL + b * 1 + 0, none⟩) (by show gL < _; omega)).trans (hcl 0 (by decide))
      have hq0 := hcl 0 (by decide)
      simp at q0
      have hll := hul.len
      unfold maxLen at hll
      have HUL : Hid (Nums B wr (.slice al l.length kl) l) := hul.below HBw.out
      have hm1 : ((m : Int) + 1 > 0) := by omega
      have hm2 : ((m : Int) + 1 - 1) = (m : Int) := by omega
      obtain ⟨ao, co, hu3⟩ := own_slice HD2.out.rO
      subst hu3
      have hol : (natsL ord).length + 1 ≤ n := by have := HCNT.out; simp [natsL]; omega
      have hcw : m + 1 ≤ cw := by
        have h1 := HD2.out.rW
        have e : (natsL ws' ++ [((b : Nat) : Int)]).length = m + 1 := by rw [List.length_append, List.length_singleton, HML.out]
        rw [e] at h1
        exact (own_cap h1).1
      clear hcl hget hul HD HF hml hlen hm hcnt hg
      rcases Nat.lt_or_ge (looked b) l.length with hlt | hge
      · have hltI : ((looked b : Nat) : Int) < (l.length : Int) := by omega
        go_wp2_with fail
        go_quiet (fail)
        have HD3 : Hid (OD (wr.drewN nq) n S M (.slice (some ⟨gL, oL, none⟩) n k3) (.slice (some ⟨gw, 0, none⟩) (m + 1) cw) (.slice ao (natsL ord).length co) (natsL ws' ++ [((b : Nat) : Int)]) (natsL ord) (lkL n looked) met) := HD2.out.keep (below_drewN (Below.refl _ _) nq)
        have HB3 : Hid (Below S w (wr.drewN nq)) := below_drewN HB.out nq
        obtain ⟨W9, hW9⟩ : ∃ W9, W9 = (wr.drewN nq).setCell ⟨M + 1, b, none⟩ (.int .i64 (((looked b : Nat) : Int) + 1)) := ⟨_, rfl⟩
        have HD9 : Hid (OD W9 n S M (.slice (some ⟨gL, oL, none⟩) n k3) (.slice (some ⟨gw, 0, none⟩) (m + 1) cw) (.slice ao (natsL ord).length co) (natsL ws' ++ [((b : Nat) : Int)]) (natsL ord) (lkL n (lookAt looked b)) met) := by
          unfold Hid; rw [hW9]; exact HD3.out.looked hbn
        have hb9 : Below S (wr.drewN nq) W9 := by
          have hlt0 := HD3.out.lt
          rw [hW9]; exact ⟨rfl, rfl, rfl, by simp [World.setCell], fun k hk => Below.heap_setCell _ _ _ _ (by show k ≠ M + 1; omega)⟩
        have HB9 : Hid (Below S w W9) := HB3.out.trans hb9
        have s0 : W9.cell? ⟨gL, oL + b, none⟩ = some (.slice al l.length kl) := by
          have := (HB9.out.cell (p := ⟨gL, oL + b * 1 + 0, none⟩) (by show gL < _; have := HSE.out; omega)).trans hq0
          simpa using this
        have s1 := cellOne HD9.out.bL
        obtain ⟨s2, _⟩ := HD9.out.look? hbn
        have hl9 : lookAt looked b b = looked b + 1 := by unfold lookAt; rw [if_pos rfl]
        rw [hl9] at s2
        have hgy : l[looked b]? = some l[looked b] := List.getElem?_eq_getElem hlt
        generalize l[looked b] = y at hgy
        obtain ⟨g5, o5, cs5, he5, hg5, _, ⟨rfl, _⟩, hcl5⟩ := Lies.at HUL.out hgy
        subst he5
        have s3 : W9.cell? ⟨g5, o5 + looked b, none⟩ = some (.int .i64 y) := by
          have h0 := hcl5 0 (by decide)
          have h1 : W9.cell? ⟨g5, o5 + looked b * 1 + 0, none⟩ = wr.cell? ⟨g5, o5 + looked b * 1 + 0, none⟩ := by
            have h2 := (below_drewN (Below.refl S wr) nq).trans hb9
            exact h2.cell (p := ⟨g5, o5 + looked b * 1 + 0, none⟩) (by show g5 < _; have := HSE.out; omega)
          rw [h0] at h1
          simpa using h1
        have hsub : ((looked b : Nat) : Int) + 1 - 1 = ((looked b : Nat) : Int) := by omega
        have hcast : (((looked b + 1 : Nat)) : Int) = ((looked b : Nat) : Int) + 1 := by omega
        rw [hcast] at s2
        have HGY : Hid ((L.getD b [])[looked b]? = some y) := by unfold Hid; rw [HGD.out]; exact hgy
        have HLE2 : Hid (∀ x, x < n → lookAt looked b x ≤ (L.getD x []).length) := by
          intro x hx
          unfold lookAt
          by_cases hxb : x = b
          · rw [if_pos hxb, hxb, HGD.out]; omega
          · rw [if_neg hxb]; exact HLK.out x hx
        have hleft := leftL_look (L := L) looked (b := b) (by rw [HGD.out]; exact hlt) n hbn
        have HSW : Hid (S ≤ W9.heap.size) := by have := HD9.out.sz; have := HD9.out.lt; unfold Hid; omega
        clear hb9 HB3 HD3 hcl5 hgy hl9 hcast hsub
        go_wp2_with fail
        rw [← hW9]
        clear hW9
        have hwr1 : IntKind.i64.wrap ((looked b : Nat) : Int) = ((looked b : Nat) : Int) := by rw [IntKind.wrap_i64]; omega
        by_cases hnew : 0 ≤ y ∧ y < (n : Int) ∧ met y.toNat = false
        · obtain ⟨z, rfl⟩ : ∃ z : Nat, y = z := ⟨y.toNat, by omega⟩
          have hzn : z < n := by omega
          have hmz : met z = false := by simpa using hnew.2.2
          have HMZ : Hid (met z = false) := hmz
          have HCA : Hid (∀ k, Calls Tryd.prog 44 #[.int .i64 ((z : Nat) : Int), .pointer (some ⟨S, 0, none⟩), .pointer (some ⟨M, 0, none⟩), .pointer (some ⟨S + 1, 0, none⟩)] (W9.drewN k) fun e w' =>
              ∃ vw', e = .returned (.tuple #[]) ∧ OD w' n S M (.slice (some ⟨gL, oL, none⟩) n k3) vw' (.slice ao (natsL ord).length co) (natsL (ws' ++ [b, z])) (natsL ord) (lkL n (lookAt looked b)) (metAt met z) ∧ Below S w w') := by
            intro k
            have e : natsL (ws' ++ [b, z]) = natsL ws' ++ [((b : Nat) : Int)] ++ [((z : Nat) : Int)] := by simp [natsL]
            have hwl : (natsL ws' ++ [((b : Nat) : Int)]).length ≤ n := by rw [List.length_append, List.length_singleton, ← HML.out]; omega
            rw [e]
            refine (come_new n S M z _ k3 _ _ _ _ _ _ (W9.drewN k) (by unfold maxLen; omega) HSW.out (HD9.out.keep (below_drewN (Below.refl _ _) k)) hzn HMZ.out (by omega) (by omega)).mono ?_
            rintro e' w' ⟨vw', rfl, h1, h2⟩
            exact ⟨vw', rfl, h1, (below_drewN HB9.out k).trans h2⟩
          have HFP : Hid (Dfs L ord (ws' ++ [b, z]) (metAt met z) (lookAt looked b)) := HDF.out.push HGY.out (by rw [← HN.out]; exact hzn) HMZ.out
          have hu := unseen_met met HMZ.out n hzn
          go_region_with (go_at_call 44; refine (HCA.out _).mono ?_; rintro e w13 ⟨vw', rfl, h13, hb13⟩; have HD13 : Hid (_) := h13; have HB13 : Hid (_) := hb13; clear h13 hb13)
          all_goals
            (go_wp2_with fail
             go_roundg (gk - 1)
             case measure => omega
             case rel => exact ⟨_, vw', ord, ws' ++ [b, z], metAt met z, lookAt looked b, rfl, by (have := HM.out; simp; omega), HD13.out, HB13.out, fun _ => HFP.out, fun h => by omega, HLE2.out, by (have := HM.out; have := HCNT.out; simp; omega)⟩)
        · have HNEW : Hid (¬ (0 ≤ y ∧ y < (n : Int) ∧ met y.toNat = false)) := hnew
          have HCA : Hid (∀ k, Calls Tryd.prog 44 #[.int .i64 y, .pointer (some ⟨S, 0, none⟩), .pointer (some ⟨M, 0, none⟩), .pointer (some ⟨S + 1, 0, none⟩)] (W9.drewN k) fun e w' =>
              ∃ w0, e = .returned (.tuple #[]) ∧ w' = w0 ∧ OD w0 n S M (.slice (some ⟨gL, oL, none⟩) n k3) (.slice (some ⟨gw, 0, none⟩) (m + 1) cw) (.slice ao (natsL ord).length co) (natsL (ws' ++ [b])) (natsL ord) (lkL n (lookAt looked b)) met ∧ Below S w w0) := by
            intro k
            have e : natsL (ws' ++ [b]) = natsL ws' ++ [((b : Nat) : Int)] := by simp [natsL]
            rw [e]
            refine (come_old n S M y _ k3 _ _ _ _ _ _ (W9.drewN k) (HD9.out.keep (below_drewN (Below.refl _ _) k)) HNEW.out).mono ?_
            rintro e' w' ⟨rfl, h1⟩
            exact ⟨w', rfl, rfl, by rw [h1]; exact HD9.out.keep (below_drewN (Below.refl _ _) k), by rw [h1]; exact below_drewN HB9.out k⟩
          have HFP : Hid (Dfs L ord (ws' ++ [b]) met (lookAt looked b)) := HDF.out.pass HGY.out (by rw [← HN.out]; exact HNEW.out)
          go_region_with (go_at_call 44; refine (HCA.out _).mono ?_; rintro e w13 ⟨w14, rfl, rfl, h13, hb13⟩; have HD13 : Hid (_) := h13; have HB13 : Hid (_) := hb13; clear h13 hb13)
          all_goals
            (go_wp2_with fail
             go_roundg (gk - 1)
             case measure => omega
             case rel => exact ⟨_, _, ord, ws' ++ [b], met, lookAt looked b, rfl, by (have := HM.out; simp; omega), HD13.out, HB13.out, fun _ => HFP.out, fun h => by omega, HLE2.out, by (have := HM.out; have := HCNT.out; simp; omega)⟩)
      · have hltI : ¬ ((looked b : Nat) : Int) < (l.length : Int) := by omega
        go_wp2_with fail
        go_quiet (fail)
        have HD3 : Hid (OD (wr.drewN nq) n S M (.slice (some ⟨gL, oL, none⟩) n k3) (.slice (some ⟨gw, 0, none⟩) (m + 1) cw) (.slice ao (natsL ord).length co) (natsL ws' ++ [((b : Nat) : Int)]) (natsL ord) (lkL n looked) met) := HD2.out.keep (below_drewN (Below.refl _ _) nq)
        have HB3 : Hid (Below S w (wr.drewN nq)) := below_drewN HB.out nq
        obtain ⟨W10, hW10⟩ : ∃ W10, W10 = (wr.drewN nq).setCell ⟨S + 1, 0, none⟩ (.slice (some ⟨gw, 0, none⟩) m cw) := ⟨_, rfl⟩
        have HD10 : Hid (OD W10 n S M (.slice (some ⟨gL, oL, none⟩) n k3) (.slice (some ⟨gw, 0, none⟩) m cw) (.slice ao (natsL ord).length co) (natsL ws') (natsL ord) (lkL n looked) met) := by
          have h3 := HD3.out
          rw [HML.out] at h3
          have h4 := h3.pop
          rw [← HML.out, ← hW10] at h4
          exact h4
        have HB10 : Hid (Below S w W10) := HB3.out.trans (by rw [hW10]; exact ⟨rfl, rfl, rfl, by simp [World.setCell], fun k hk => Below.heap_setCell _ _ _ _ (by show k ≠ S + 1; have := HB3.out.size; omega)⟩)
        obtain ⟨W11, hW11⟩ : ∃ W11, W11 = W10.alloc (.cells #[.int .i64 ((b : Nat) : Int)] 3) := ⟨_, rfl⟩
        have hs10 : W10.heap.size = wr.heap.size := by rw [hW10]; simp [World.setCell]
        have hb11 : Below W10.heap.size W10 W11 := by rw [hW11]; exact below_alloc _ _
        have HS11 : Hid (W11.heap.size = wr.heap.size + 1) := by unfold Hid; rw [hW11, ← hs10]; simp
        have HNW : Hid (∀ j u, [Value.int .i64 ((b : Nat) : Int)][j]? = some u → W11.cell? ((⟨wr.heap.size, 0, none⟩ : Addr).add j) = some u) := by
          rw [← hs10]; exact World.news_of_block (by rw [hW11]; exact heap_alloc_new W10 _)
        have HD11 : Hid (OD W11 n S M (.slice (some ⟨gL, oL, none⟩) n k3) (.slice (some ⟨gw, 0, none⟩) m cw) (.slice ao (natsL ord).length co) (natsL ws') (natsL ord) (lkL n looked) met) := HD10.out.keep hb11
        have HB11 : Hid (Below S w W11) := HB10.out.trans (hb11.mono (by have := HB10.out.size; have := HSE.out; omega))
        have HLE : Hid (M + 2 ≤ W11.heap.size) := HD11.out.sz
        have HWE : Hid (W11 = ((wr.drewN nq).setCell ⟨S + 1, 0, none⟩ (.slice (some ⟨gw, 0, none⟩) m cw)).alloc (.cells #[.int .i64 ((b : Nat) : Int)] 3)) := by unfold Hid; rw [hW11, hW10]
        clear hW10 hW11 hs10 hb11 HD10 HB10 HB3 HD3
        go_wp2_with (at_builtin; rw [← HWE.out]; refine wpList_append_lies _ rfl _ _ 23 (by rfl) (M + 2) 3 i1 _ 1 8 Tryd.underlying23 hi1 hy0 hy1 hyb rfl (by decide) (.slice ao (natsL ord).length co) (natsL ord).length _ (by rfl) HD11.out.rO ⟨wr.heap.size, 0, none⟩ 1 1 [.int .i64 ((b : Nat) : Int)] (by rfl) rfl HNW.out (by intro u hu; simp at hu; subst hu; rfl) (by decide) (by unfold maxLen; omega) (by omega) HLE.out (wr.heap.size + 1) HS11.out ?_)
        intro g cp w12 hown hgrow hat hlt1
        have hat2 : (Value.slice (some ⟨g, 0, none⟩) ((natsL ord).length + 1) cp).ownBlock = (Value.slice ao (natsL ord).length co).ownBlock ∨ (Value.slice (some ⟨g, 0, none⟩) ((natsL ord).length + 1) cp).ownBlock = some W11.heap.size := by
          rcases hat with h1 | h1
          · exact .inl h1.symm
          · right; rw [HS11.out]; simp [Value.ownBlock, h1]
        have HE : Hid (OD w12 n S M (.slice (some ⟨gL, oL, none⟩) n k3) (.slice (some ⟨gw, 0, none⟩) m cw) (.slice (some ⟨g, 0, none⟩) ((natsL ord).length + 1) cp) (natsL ws') (natsL (ord ++ [b])) (lkL n looked) met) := by
          have e : natsL (ord ++ [b]) = natsL ord ++ [((b : Nat) : Int)] := by simp [natsL]
          unfold Hid; rw [e]; exact HD11.out.out hgrow hat2 hown
        have HBF : Hid (Below S w w12) := by
          refine HB11.out.trans ⟨hgrow.os, hgrow.tape, hgrow.output, hgrow.size, fun k hk => ?_⟩
          exact hgrow.block k (by have := HLE.out; have := HD11.out.lt; omega) fun e => by have := (own_lt HD11.out.rO e.symm).1; have := HD11.out.lt; omega
        have HFP : Hid (Dfs L (ord ++ [b]) ws' met looked) := HDF.out.pop (by rw [HGD.out]; exact hge)
        clear hown hgrow hat hat2
        go_wp2_with fail
        go_roundg (gk - 1)
        case measure => omega
        case rel => exact ⟨_, _, ord ++ [b], ws', met, looked, rfl, by have := HM.out; omega, HE, HBF, fun _ => HFP.out, fun h => by omega, HLK, by have := HM.out; have := HCNT.out; simp; omega⟩
end

end Go.Proofs.YthlngmknifpbjaaDoor
