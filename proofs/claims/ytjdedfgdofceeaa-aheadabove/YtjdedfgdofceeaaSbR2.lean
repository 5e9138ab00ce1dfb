/-
  Package ssa: a number is put into a row of one's own, by slices.Insert; a row is cloned, by slices.Clone.
-/
import Derived.Test.YtjdedfgdofceeaaSbK
import Derived.Test.YtjdedfgdofceeaaSbR0
namespace Go.Proofs.Ytjdedfgdofceeaa
open Go.RowKit
set_option linter.unusedSimpArgs false
set_option linter.unusedVariables false

theorem setCells_block (g : Nat) (e : TypeId) : ∀ (vs : List Value) (o : Nat) (w : World) (cur : Array Value), w.heap[g]? = some (.cells cur e) → o + vs.length ≤ cur.size →
    ∃ c', (w.setCells g o vs).heap[g]? = some (.cells c' e) ∧ c'.size = cur.size ∧ (∀ j, c'[j]? = if o ≤ j ∧ j < o + vs.length then vs[j - o]? else cur[j]?) ∧
      (w.setCells g o vs).os = w.os ∧ (w.setCells g o vs).tape = w.tape ∧ (w.setCells g o vs).output = w.output ∧ (w.setCells g o vs).heap.size = w.heap.size ∧ ∀ k, k ≠ g → (w.setCells g o vs).heap[k]? = w.heap[k]?
  | [], o, w, cur, h, _ => ⟨cur, h, rfl, fun j => by rw [if_neg (by simp)], rfl, rfl, rfl, rfl, fun _ _ => rfl⟩
  | v :: r, o, w, cur, h, hl => by
    have hl' : o + (r.length + 1) ≤ cur.size := by simpa using hl
    obtain ⟨c', h1, h2, h3, h4, h5, h6, h7, h8⟩ := setCells_block g e r (o + 1) (w.setCell ⟨g, o, none⟩ v) (cur.setIfInBounds o v) (heap_setCell_same h v) (by simp; omega)
    refine ⟨c', h1, by rw [h2]; simp, fun j => ?_, h4, h5, h6, by rw [World.setCells, h7]; simp [World.setCell], fun k hk => (h8 k hk).trans (Below.heap_setCell _ _ _ _ (by show k ≠ g; exact hk))⟩
    rw [h3 j]
    by_cases h9 : j = o
    · subst h9
      rw [if_neg (by omega), if_pos (by simp)]
      rw [Nat.sub_self, Array.getElem?_setIfInBounds_self_of_lt (by omega)]; rfl
    · by_cases h10 : o + 1 ≤ j ∧ j < o + 1 + r.length
      · rw [if_pos h10, if_pos (by simp; omega)]
        rw [show j - o = (j - (o + 1)) + 1 by omega]; simp
      · rw [if_neg h10, if_neg (by simp; omega)]
        rw [Array.getElem?_setIfInBounds_ne (by omega)]

theorem insL_get {l : List Int} {i : Nat} (x : Int) (hi : i ≤ l.length) (j : Nat) : (numsL (l.take i ++ x :: l.drop i))[j]? = if j < i then (numsL l)[j]? else if j = i then some (.int .i64 x) else (numsL l)[j - 1]? := by
  unfold numsL
  rw [List.getElem?_map]
  by_cases h1 : j < i
  · rw [if_pos h1, List.getElem?_append_left (by simp; omega), List.getElem?_take, if_pos h1, List.getElem?_map]
  · rw [if_neg h1, List.getElem?_append_right (by simp; omega)]
    have e : (l.take i).length = i := by simp; omega
    rw [e]
    by_cases h2 : j = i
    · subst h2; rw [if_pos rfl]; simp [numV]
    · rw [if_neg h2, show j - i = (j - i - 1) + 1 by omega, List.getElem?_cons_succ, List.getElem?_drop, List.getElem?_map, show i + (j - i - 1) = j - 1 by omega]

theorem insL_len {l : List Int} {i : Nat} (x : Int) (hi : i ≤ l.length) : (l.take i ++ x :: l.drop i).length = l.length + 1 := by simp; omega

/-- a row out of what its cells are -/
theorem own_ofCells {w : World} {base g n cap : Nat} {c' : Array Value} {l : List Int} (hb : base ≤ g) (hg : w.heap[g]? = some (.cells c' 3)) (hn : n ≤ cap) (hm : cap ≤ maxLen) (hs : c'.size = cap) (hl : l.length = n)
    (h : ∀ j, j < n → c'[j]? = (numsL l)[j]?) : w.ownsRow base 3 1 (.slice (some ⟨g, 0, none⟩) n cap) n (numsL l) := by
  refine ⟨by rw [numsL_len, hl, Nat.mul_one], .inr ⟨g, cap, c', rfl, hb, hg, hn, hm, by omega, ?_⟩⟩
  rw [Nat.mul_one]
  apply List.ext_getElem?
  intro j
  rw [List.getElem?_take]
  by_cases hj : j < n
  · rw [if_pos hj, Array.getElem?_toList, h j hj]
  · rw [if_neg hj, List.getElem?_eq_none (by rw [numsL_len]; omega)]

theorem oneCells (l : List Int) : ∀ v ∈ numsL l, v.oneCell' = true := by
  intro v hv
  obtain ⟨x, _, rfl⟩ := List.mem_map.1 hv
  rfl

theorem zsize (k : Nat) : (Builtin.zeroCells (Value.int .i64 0).cells k).size = k := by simp [Builtin.zeroCells, Value.cells]
theorem below_drew (B : Nat) (w : World) : Below B w w.drew := ⟨rfl, rfl, rfl, Nat.le_refl _, fun _ _ => rfl⟩
theorem below_cells {B g : Nat} {e : TypeId} {vs : List Value} {o : Nat} {w : World} {cur : Array Value} (h : w.heap[g]? = some (.cells cur e)) (hl : o + vs.length ≤ cur.size) (hB : B ≤ g) : Below B w (w.setCells g o vs) := by
  obtain ⟨c', _, _, _, h4, h5, h6, h7, h8⟩ := setCells_block g e vs o w cur h hl
  exact ⟨h4, h5, h6, by omega, fun k hk => h8 k (by omega)⟩

/-- slices.Insert of one number, into a row of one's own -/
theorem ins_own (B i vb : Nat) (v : Value) (l : List Int) (x : Int) (w : World) (hB : B ≤ w.heap.size) (h : w.ownsRow B 3 1 v l.length (numsL l)) (hi : i ≤ l.length) (hvb : w.heap[vb]? = some (.cells #[.int .i64 x] 3))
    (hne : v.ownBlock ≠ some vb) (hlen : l.length ≤ 1000000000) :
    Calls Try.prog 19 #[v, .int .i64 i, .slice (some ⟨vb, 0, none⟩) 1 1] w fun e w' => ∃ v', e = .returned v' ∧ w'.ownsRow B 3 1 v' (l.length + 1) (numsL (l.take i ++ x :: l.drop i)) ∧ Below B w w' := by
  have hvs : ∀ j u, [Value.int .i64 x][j]? = some u → w.cell? ⟨vb, 0 + j, none⟩ = some u := fun j u hj => by
    rcases j with _ | j
    · simp at hj; subst hj
      simp [World.cell?, hvb]
    · simp at hj
  have h1v : ∀ u ∈ [Value.int .i64 x], u.oneCell' = true := fun u hu => by simp at hu; subst hu; rfl
  have h1 := h.1
  have hML : 1000000001 ≤ maxLen := by unfold maxLen; omega
  rcases h.2 with ⟨rfl, h0⟩ | ⟨g, cap, cur, rfl, hb, hg, hn, hm, hs, ht⟩
  · have hl : l = [] := List.length_eq_zero_iff.1 h0
    subst hl
    have hi0 : i = 0 := by simpa using hi
    subst hi0
    refine (Any2.slices_Insert_int_end_grow Try.laysNm221 none 0 0 vb 0 1 1 [] [.int .i64 x] w (by omega) (by omega) (by omega) (by omega) rfl rfl (fun _ => rfl) (fun a ha => by cases ha) hvs h1v).mono ?_
    rintro e w' ⟨rfl, rfl⟩
    have hz := grownCap_ge w (0 + 1) 0 3
    refine ⟨_, rfl, own_ofCells hB (heap_alloc_new _ _) hz (grownCap_le_maxLen _ _ _ _ (by omega)) ?_ rfl ?_, (below_drew B w).trans ((below_alloc _ _).mono hB)⟩
    · have hz' : 0 + 1 ≤ grownCap w (0 + 1) 0 (Try.laysNm221_ren.t 3) := hz
      simp only [Nat.zero_add] at hz' ⊢
      rw [Array.size_append, zsize]; simp; omega
    · intro j hj
      have : j = 0 := by simp at hj; omega
      subst this
      rw [Array.getElem?_append_left (by simp)]; rfl
  · have hc : ∀ j u, (numsL l)[j]? = some u → w.cell? ⟨g, 0 + j, none⟩ = some u := fun j u hj => by
      have := h.cells (g := g) rfl j u hj
      rwa [show (⟨g, 0, none⟩ : Addr).add j = ⟨g, 0 + j, none⟩ from by unfold Addr.add; split <;> simp_all] at this
    have hlt : g < w.heap.size := lt_of_block hg
    have hcur : ∀ j, j < l.length → cur[j]? = (numsL l)[j]? := fun j hj => by
      rw [← ht, List.getElem?_take, if_pos (by omega), Array.getElem?_toList]
    rw [Nat.mul_one] at hs
    have hvg : vb ≠ g := fun e => hne (by rw [e]; rfl)
    by_cases hroom : l.length + 1 ≤ cap
    · by_cases hil : i < l.length
      · have k1 : w.drew.heap[g]? = some (.cells cur 3) := hg
        have hdl : ((numsL l).drop i).length = l.length - i := by rw [List.length_drop, numsL_len]
        obtain ⟨c1, e1, e2, e3, _⟩ := setCells_block g 3 ((numsL l).drop i) (0 + (i + 1)) w.drew cur k1 (by rw [hdl]; omega)
        have b1 : Below B w.drew (w.drew.setCells g (0 + (i + 1)) ((numsL l).drop i)) := below_cells k1 (by rw [hdl]; omega) hb
        obtain ⟨c2, f1, f2, f3, _⟩ := setCells_block g 3 [.int .i64 x] (0 + i) _ c1 e1 (by simp; omega)
        have b2 : Below B _ ((w.drew.setCells g (0 + (i + 1)) ((numsL l).drop i)).setCells g (0 + i) [.int .i64 x]) := below_cells e1 (by simp; omega) hb
        refine (Any2.slices_Insert_int_shift Try.laysNm221 g 0 l.length cap i vb 0 1 1 (numsL l) [.int .i64 x] w hil (by omega) hroom (by unfold maxLen at hm; omega) hvg (numsL_len _) rfl hc (fun j hj => ?_) (fun j _ => by simp [World.frozen?, hg]) hvs (oneCells l) h1v 3 3 1 cap (by simp [World.shape?, hvb]) (by simp [World.shape?, hg, hs]) (by omega) (by simp [World.frozen?, hvb]) (by simp [World.frozen?, hvb])).mono ?_
        · have : 0 + j < cur.size := by omega
          simp [World.cell?, hg]; omega
        · rintro e w' ⟨rfl, rfl⟩
          refine ⟨_, rfl, own_ofCells hb f1 hroom hm (by omega) (insL_len x hi) (fun j hj => ?_), (below_drew B w).trans (b1.trans b2)⟩
          rw [f3 j, insL_get x hi j, e3 j, hdl]
          rcases Nat.lt_trichotomy j i with h9 | rfl | h9
          · rw [if_neg (by omega), if_neg (by omega), if_pos h9, hcur j (by omega)]
          · rw [if_pos (by simp), if_neg (by omega), if_pos rfl]; simp
          · rw [if_neg (by simp; omega), if_pos (by omega), if_neg (by omega), if_neg (by omega), List.getElem?_drop, show i + (j - (0 + (i + 1))) = j - 1 by omega]
      · have hie : i = l.length := by omega
        subst hie
        obtain ⟨c2, f1, f2, f3, _⟩ := setCells_block g 3 [.int .i64 x] (0 + l.length) w cur hg (by simp; omega)
        have b2 : Below B w (w.setCells g (0 + l.length) [.int .i64 x]) := below_cells hg (by simp; omega) hb
        refine (Any2.slices_Insert_int_end_room Try.laysNm221 g 0 l.length cap vb 0 1 1 [.int .i64 x] w (by omega) hroom (by unfold maxLen at hm; omega) rfl (fun j hj => ?_) (fun j _ => by simp [World.frozen?, hg]) hvs h1v).mono ?_
        · have : 0 + l.length + j < cur.size := by omega
          simp [World.cell?, hg]; omega
        · rintro e w' ⟨rfl, rfl⟩
          refine ⟨_, rfl, own_ofCells hb f1 hroom hm (by omega) (insL_len x hi) (fun j hj => ?_), b2⟩
          rw [f3 j, insL_get x hi j]
          by_cases h9 : j < l.length
          · rw [if_neg (by omega), if_pos h9, hcur j h9]
          · have : j = l.length := by omega
            subst this
            rw [if_pos (by simp), if_neg (by omega), if_pos rfl]; simp
    · have hcl : l.length = cap := by omega
      by_cases hil : i < l.length
      · refine (Any2.slices_Insert_int_grow Try.laysNm221 g 0 l.length cap i vb 0 1 1 (numsL l) [.int .i64 x] w hil (by omega) hn (by omega) (by omega) (numsL_len _) rfl hc hvs (oneCells l) h1v).mono ?_
        rintro e w' ⟨rfl, rfl⟩
        obtain ⟨C, hC⟩ : ∃ C, C = grownCap w (l.length + 1) cap 3 := ⟨_, rfl⟩
        have hz := grownCap_ge w (l.length + 1) cap 3
        have hz2 := grownCap_le_maxLen w (l.length + 1) cap 3 (by omega)
        rw [← hC] at hz hz2
        rw [show Try.laysNm221_ren.t 3 = 3 from rfl, ← hC]
        obtain ⟨cA, hcA⟩ : ∃ cA, cA = ((numsL l).take i).toArray ++ Builtin.zeroCells (Value.int .i64 0).cells (l.length + 1 - i) ++ Builtin.zeroCells (Value.int .i64 0).cells (C - (l.length + 1)) := ⟨_, rfl⟩
        have hsA : cA.size = C := by
          rw [hcA, Array.size_append, Array.size_append, zsize, zsize, List.size_toArray, List.length_take, numsL_len]; omega
        have hgA : ∀ j, j < i → cA[j]? = (numsL l)[j]? := fun j hj => by
          have hlen' : ((numsL l).take i).toArray.size = i := by rw [List.size_toArray, List.length_take, numsL_len]; omega
          rw [hcA, Array.append_assoc, Array.getElem?_append_left (by rw [hlen']; exact hj), List.getElem?_toArray, List.getElem?_take, if_pos hj]
        rw [← hcA]
        have hdl : ((numsL l).drop i).length = l.length - i := by rw [List.length_drop, numsL_len]
        obtain ⟨W1, hW1⟩ : ∃ W1, W1 = w.alloc (.cells cA 3) := ⟨_, rfl⟩
        have k1 : W1.drew.heap[w.heap.size]? = some (.cells cA 3) := by rw [hW1]; exact heap_alloc_new _ _
        have b0 : Below B w W1 := by rw [hW1]; exact (below_alloc _ _).mono hB
        rw [← hW1]
        obtain ⟨c1, e1, e2, e3, _⟩ := setCells_block w.heap.size 3 [.int .i64 x] i W1.drew cA k1 (by simp; omega)
        have b1 : Below B W1.drew (W1.drew.setCells w.heap.size i [.int .i64 x]) := below_cells k1 (by simp; omega) hB
        obtain ⟨W2, hW2⟩ : ∃ W2, W2 = W1.drew.setCells w.heap.size i [.int .i64 x] := ⟨_, rfl⟩
        rw [← hW2] at e1 b1 ⊢
        have k2 : W2.drew.heap[w.heap.size]? = some (.cells c1 3) := e1
        obtain ⟨c2, f1, f2, f3, _⟩ := setCells_block w.heap.size 3 ((numsL l).drop i) (i + 1) W2.drew c1 k2 (by rw [hdl]; omega)
        have b2 : Below B W2.drew (W2.drew.setCells w.heap.size (i + 1) ((numsL l).drop i)) := below_cells k2 (by rw [hdl]; omega) hB
        refine ⟨_, rfl, own_ofCells hB f1 hz hz2 (by omega) (insL_len x hi) (fun j hj => ?_), b0.trans ((below_drew B _).trans (b1.trans ((below_drew B _).trans b2)))⟩
        rw [f3 j, insL_get x hi j, e3 j, hdl]
        rcases Nat.lt_trichotomy j i with h9 | rfl | h9
        · rw [if_neg (by omega), if_neg (by simp; omega), if_pos h9, hgA j h9]
        · rw [if_neg (by omega), if_pos (by simp), if_neg (by omega), if_pos rfl]; simp
        · rw [if_pos (by omega), if_neg (by omega), if_neg (by omega), List.getElem?_drop, show i + (j - (i + 1)) = j - 1 by omega]
      · have hie : i = l.length := by omega
        subst hie
        refine (Any2.slices_Insert_int_end_grow Try.laysNm221 (some ⟨g, 0, none⟩) l.length cap vb 0 1 1 (numsL l) [.int .i64 x] w (by omega) hn (by omega) (by omega) (numsL_len _) rfl (fun e => by cases e) (fun a ha j u hj => by cases ha; exact h.cells (g := g) rfl j u hj) hvs h1v).mono ?_
        rintro e w' ⟨rfl, rfl⟩
        have hz := grownCap_ge w (l.length + 1) cap 3
        refine ⟨_, rfl, own_ofCells hB (heap_alloc_new _ _) hz (grownCap_le_maxLen _ _ _ _ (by omega)) ?_ (insL_len x hi) ?_, (below_drew B w).trans ((below_alloc _ _).mono hB)⟩
        · have hz' : l.length + 1 ≤ grownCap w (l.length + 1) cap (Try.laysNm221_ren.t 3) := hz
          rw [Array.size_append, zsize, List.size_toArray, List.length_append, numsL_len]; simp; omega
        · intro j hj
          rw [insL_get x hi j, Array.getElem?_append_left (by rw [List.size_toArray, List.length_append, numsL_len]; simpa using hj), List.getElem?_toArray]
          by_cases h9 : j < l.length
          · rw [if_pos h9, List.getElem?_append_left (by rw [numsL_len]; exact h9)]
          · have : j = l.length := by omega
            subst this
            rw [if_neg (by omega), if_pos rfl, List.getElem?_append_right (by rw [numsL_len]; omega), numsL_len]; simp

/-- slices.Clone of a row of numbers -/
theorem clone_own (B : Nat) (v : Value) (l : List Int) (w : World) (h : w.ownsRow B 3 1 v l.length (numsL l)) (hlen : l.length ≤ 1000000000) :
    Calls Try.prog 20 #[v] w fun e w' => ∃ v', e = .returned v' ∧ w'.ownsRow w.heap.size 3 1 v' l.length (numsL l) ∧ Below w.heap.size w w' := by
  rcases h.2 with ⟨rfl, h0⟩ | ⟨g, cap, cur, rfl, hb, hg, hn, hm, hs, ht⟩
  · refine (Try.slices_Clone_int_nil 0 0 w).mono ?_
    rintro e w' ⟨rfl, rfl⟩
    have : l = [] := List.length_eq_zero_iff.1 h0
    subst this
    exact ⟨_, rfl, World.ownsRow_nil _ _ _ _, Below.refl _ _⟩
  · refine (Try.slices_Clone_int g 0 l.length cap l w (Nat.le_refl _) (by omega) (fun j hj => ?_)).mono ?_
    · have := h.cells (g := g) rfl j (.int .i64 (l.getD j 0)) (numsL_get _ _ _ (by rw [List.getD_eq_getElem?_getD, List.getElem?_eq_getElem hj]; rfl))
      rwa [show (⟨g, 0, none⟩ : Addr).add j = ⟨g, 0 + j, none⟩ from by unfold Addr.add; split <;> simp_all] at this
    · rintro e w' ⟨v', rfl, h1, _, h2⟩
      rw [List.take_of_length_le (Nat.le_refl _)] at h1
      exact ⟨v', rfl, h1, h2⟩

/-- slices.BinarySearch in a sorted row of numbers -/
theorem search_own (B : Nat) (v : Value) (l : List Int) (x : Int) (w : World) (h : w.ownsRow B 3 1 v l.length (numsL l)) (hlen : l.length ≤ 1000000000) (hp : l.Pairwise (· ≤ ·)) :
    Calls Try.prog 18 #[v, .int .i64 x] w fun e w' => e = .returned (.tuple #[.int .i64 (l.countP (· < x) : Nat), .bool (l.contains x)]) ∧ ∃ q, w' = w.drewN q := by
  rcases h.2 with ⟨rfl, h0⟩ | ⟨g, cap, cur, rfl, hb, hg, hn, hm, hs, ht⟩
  · refine (Try.slices_BinarySearch_int_empty none 0 x w).mono ?_
    rintro e w' ⟨rfl, rfl⟩
    have : l = [] := List.length_eq_zero_iff.1 h0
    subst this
    exact ⟨rfl, 0, rfl⟩
  · refine (Try.slices_BinarySearch_int g 0 l.length cap l x w (Nat.le_refl _) (by omega) (fun j hj => ?_) (by rw [List.take_of_length_le (Nat.le_refl _)]; exact hp)).mono ?_
    · have := h.cells (g := g) rfl j (.int .i64 (l.getD j 0)) (numsL_get _ _ _ (by rw [List.getD_eq_getElem?_getD, List.getElem?_eq_getElem hj]; rfl))
      rwa [show (⟨g, 0, none⟩ : Addr).add j = ⟨g, 0 + j, none⟩ from by unfold Addr.add; split <;> simp_all] at this
    · rintro e w' ⟨rfl, h2⟩
      rw [List.take_of_length_le (Nat.le_refl _)]
      exact ⟨rfl, h2⟩

end Go.Proofs.Ytjdedfgdofceeaa
