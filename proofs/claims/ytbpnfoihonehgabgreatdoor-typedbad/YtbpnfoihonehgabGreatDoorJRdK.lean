/-
  Words that look like calls: keywordPart.
-/
import Derived.Test.YtbpnfoihonehgabGreatDoorJRdE
import Derived.Deep.LoopGhost
import Derived.Deep.RegionLaw
import Derived.Deep.AppendLies
import Derived.OwnWalk
import Derived.WideMake
import Derived.Deep.DeepCutAuto
namespace Go.Proofs.YtbpnfoihonehgabGreatDoor
section
open Go.RowKit
set_option linter.unusedSimpArgs false
set_option linter.unusedVariables false

/-- what reading one item leaves -/
def ItemPost {A : Type} (b bp cap T : Nat) (ps : List Tok) (q : RS) (I : World → List A → Prop) (Bd : World → Prop) (acc : List A) (r : Sum (Int × Int) (A × Nat)) (e : Ending) (w' : World) : Prop := match r with
  | .inl k => e = .returned (.bool false) ∧ ∃ n', Rdr w' b bp cap T ps ⟨n', q.depth, k.1, k.2⟩ ∧ Bd w'
  | .inr x => e = .returned (.bool true) ∧ Rdr w' b bp cap T ps { q with next := x.2 } ∧ I w' (acc ++ [x.1])

/-- what reading all of them leaves -/
def ListPost {A : Type} (b bp cap T : Nat) (ps : List Tok) (q : RS) (I : World → List A → Prop) (Bd : World → Prop) (r : Sum (Int × Int) (List A × Nat)) (e : Ending) (w' : World) : Prop := match r with
  | .inl k => e = .returned (.bool false) ∧ ∃ n', Rdr w' b bp cap T ps ⟨n', q.depth, k.1, k.2⟩ ∧ Bd w'
  | .inr x => e = .returned (.bool true) ∧ Rdr w' b bp cap T ps { q with next := x.2 } ∧ I w' x.1

set_option maxHeartbeats 1000000 in
theorem listed_any {A : Type} {ps : List Tok} {item : Nat → R A} (b bp cap T d f : Nat) (F : FuncId) (caps : Array Value) (I : World → List A → Prop) (Bd : World → Prop)
    (hcall : ∀ w, (callFunc F caps).run Tryz.prog w = .ok (.enter F caps) w)
    (hitem : ∀ (w : World) (q : RS) (acc : List A) (r : Sum (Int × Int) (A × Nat)), acc.length < f → q.depth = d → Rdr w b bp cap T ps q → I w acc → item q.next = some r → Calls Tryz.prog F caps w (ItemPost b bp cap T ps q I Bd acc r))
    (hkeep : ∀ (w w' : World) (acc : List A), I w acc → Kept b w w' → I w' acc) (hbad : ∀ (w : World) (acc : List A), I w acc → Bd w)
    (w : World) (q : RS) (r : Sum (Int × Int) (List A × Nat)) (hd : q.depth = d) (h : Rdr w b bp cap T ps q) (hI : I w []) (hr : listM ps item f q.next = some r) :
    Calls Tryz.prog 59 #[.pointer (some ⟨b, 0, none⟩), .func (.func F) #[] caps] w (ListPost b bp cap T ps q I Bd r) := by
  have HI : Hid (∀ (w : World) (q : RS) (acc : List A) (r : Sum (Int × Int) (A × Nat)), acc.length < f → q.depth = d → Rdr w b bp cap T ps q → I w acc → item q.next = some r → Calls Tryz.prog F caps w (ItemPost b bp cap T ps q I Bd acc r)) := hitem
  have HK : Hid (∀ (w w' : World) (acc : List A), I w acc → Kept b w w' → I w' acc) := hkeep
  have HB : Hid (∀ (w : World) (acc : List A), I w acc → Bd w) := hbad
  have HD : Hid (q.depth = d) := hd
  clear hitem hkeep hbad hd
  unfold listM at hr
  rcases bindR_some hr with ⟨k, h1, rfl⟩ | ⟨u, n1, h1, h2⟩
  · rcases needM_some h1 with ⟨hT, h3⟩ | ⟨hT, h3⟩
    · cases h3
    · cases h3
      clear hr h1
      go_enter Tryz.func59, Tryz.ntmps59
      go_wp2_with fail
      refine (mark_no _ _ _ _ _ _ _ _ h hT).mono ?_
      rintro e w1 ⟨rfl, h1, k1⟩
      go_wp2_with fail
      go_ret
      exact ⟨rfl, _, h1, HB.out _ _ (HK.out _ _ _ hI k1)⟩
  · rcases needM_some h1 with ⟨hT, h3⟩ | ⟨hT, h3⟩
    · cases h3
      clear hr h1
      by_cases hT2 : isT (cur ps (q.next + 1)) 5 [41] = true
      · rw [if_pos hT2] at h2
        cases h2
        go_enter Tryz.func59, Tryz.ntmps59
        go_wp2_with fail
        refine (mark_yes _ _ _ _ _ _ _ _ h hT).mono ?_
        rintro e w1 ⟨rfl, h1, k1⟩
        go_wp2_with fail
        refine (skip_yes _ _ _ _ _ _ _ _ _ h1 rfl hT2).mono ?_
        rintro e w2 ⟨rfl, h2, k2⟩
        go_wp2_with fail
        go_ret
        exact ⟨rfl, h2, HK.out _ _ _ (HK.out _ _ _ hI k1) k2⟩
      · rw [if_neg hT2] at h2
        have hT2' : isT (cur ps (q.next + 1)) 5 [41] = false := by simpa using hT2
        clear hT2
        have H2 : Hid (listLoop ps item f [] (q.next + 1) = some r) := h2
        clear h2
        go_enter Tryz.func59, Tryz.ntmps59
        go_wp2_with fail
        refine (mark_yes _ _ _ _ _ _ _ _ h hT).mono ?_
        rintro e w1 ⟨rfl, h1, k1⟩
        go_wp2_with fail
        refine (skip_no _ _ _ _ _ _ _ _ _ h1 hT2').mono ?_
        rintro e w2 ⟨rfl, h2, k2⟩
        go_wp2_with fail
        go_loopg [] f (fun g wr => ∃ (n : Nat) (acc : List A), Rdr wr b bp cap T ps { q with next := n } ∧ I wr acc ∧ Aside (listLoop ps item g acc n = some r) ∧ acc.length + g = f)
        case atStart => exact ⟨_, [], h2, HK.out _ _ _ (HK.out _ _ _ hI k1) k2, H2, by simp⟩
        case round =>
          obtain ⟨n, acc, hR, hIw, hA, hgf⟩ := hrel
          cases gk with
          | zero => cases hA.out
          | succ g =>
            have hL := hA.out
            unfold listLoop at hL
            clear hA
            rcases bindR_some hL with ⟨k, h5, rfl⟩ | ⟨x, n5, h5, h6⟩
            · clear hL
              go_wp2_with fail
              refine (HI.out _ { q with next := n } _ _ (by omega) HD.out hR hIw h5).mono ?_
              rintro e w3 ⟨rfl, n', h3, h4⟩
              go_wp2_with fail
              go_ret
              exact ⟨rfl, n', h3, h4⟩
            · clear hL
              by_cases hT5 : isT (cur ps n5) 5 [41] = true
              · rw [if_pos hT5] at h6
                cases h6
                go_wp2_with fail
                refine (HI.out _ { q with next := n } _ _ (by omega) HD.out hR hIw h5).mono ?_
                rintro e w3 ⟨rfl, h3, h4⟩
                go_wp2_with fail
                refine (skip_yes _ _ _ _ _ _ _ _ _ h3 rfl hT5).mono ?_
                rintro e w4 ⟨rfl, h4', k4⟩
                go_wp2_with fail
                go_ret
                exact ⟨rfl, h4', HK.out _ _ _ h4 k4⟩
              · rw [if_neg hT5] at h6
                have hT5' : isT (cur ps n5) 5 [41] = false := by simpa using hT5
                clear hT5
                rcases bindR_some h6 with ⟨k, h7, rfl⟩ | ⟨u, n7, h7, h8⟩
                · rcases needM_some h7 with ⟨hT7, h9⟩ | ⟨hT7, h9⟩
                  · cases h9
                  · cases h9
                    clear h6 h7
                    go_wp2_with fail
                    refine (HI.out _ { q with next := n } _ _ (by omega) HD.out hR hIw h5).mono ?_
                    rintro e w3 ⟨rfl, h3, h4⟩
                    go_wp2_with fail
                    refine (skip_no _ _ _ _ _ _ _ _ _ h3 hT5').mono ?_
                    rintro e w4 ⟨rfl, h4', k4⟩
                    go_wp2_with fail
                    refine (mark_no _ _ _ _ _ _ _ _ h4' hT7).mono ?_
                    rintro e w5 ⟨rfl, h5', k5⟩
                    go_wp2_with fail
                    go_ret
                    exact ⟨rfl, _, h5', HB.out _ _ (HK.out _ _ _ (HK.out _ _ _ h4 k4) k5)⟩
                · rcases needM_some h7 with ⟨hT7, h9⟩ | ⟨hT7, h9⟩
                  · cases h9
                    clear h6 h7
                    have H8 : Hid (listLoop ps item g (acc ++ [x]) (n5 + 1) = some r) := h8
                    clear h8
                    go_wp2_with fail
                    refine (HI.out _ { q with next := n } _ _ (by omega) HD.out hR hIw h5).mono ?_
                    rintro e w3 ⟨rfl, h3, h4⟩
                    go_wp2_with fail
                    refine (skip_no _ _ _ _ _ _ _ _ _ h3 hT5').mono ?_
                    rintro e w4 ⟨rfl, h4', k4⟩
                    go_wp2_with fail
                    refine (mark_yes _ _ _ _ _ _ _ _ h4' hT7).mono ?_
                    rintro e w5 ⟨rfl, h5', k5⟩
                    go_wp2_with fail
                    go_roundg g
                    case measure => omega
                    case rel => exact ⟨_, _, h5', HK.out _ _ _ (HK.out _ _ _ h4 k4) k5, H8, by simp; omega⟩
                  · cases h9
    · cases h3
end

section
open Go.RowKit
set_option linter.unusedSimpArgs false
set_option linter.unusedVariables false

/-- cells stored one behind the other -/
def setL (w : World) (g : Nat) : Nat → List Value → World
  | _, [] => w
  | o, a :: ys => setL (w.setCell ⟨g, o, none⟩ a) g (o + 1) ys

theorem setL_size (g : Nat) : ∀ (ys : List Value) (o : Nat) (w : World), (setL w g o ys).heap.size = w.heap.size
  | [], _, _ => rfl
  | a :: ys, o, w => by rw [setL, setL_size g ys]; simp [World.setCell]

theorem setL_other (g k : Nat) (hk : k ≠ g) : ∀ (ys : List Value) (o : Nat) (w : World), (setL w g o ys).heap[k]? = w.heap[k]?
  | [], _, _ => rfl
  | a :: ys, o, w => by rw [setL, setL_other g k hk ys]; exact Below.heap_setCell _ _ _ _ hk

theorem setL_os (g : Nat) : ∀ (ys : List Value) (o : Nat) (w : World), (setL w g o ys).os = w.os ∧ (setL w g o ys).tape = w.tape ∧ (setL w g o ys).output = w.output
  | [], _, _ => ⟨rfl, rfl, rfl⟩
  | a :: ys, o, w => by rw [setL]; exact setL_os g ys _ _

theorem setL_same {g : Nat} {T : TypeId} {f : Nat × Nat} : ∀ (ys : List Value) (o : Nat) (w : World) (cur : Array Value), w.heap[g]? = some (.cells cur T f) → o + ys.length ≤ cur.size →
    ∃ cur', (setL w g o ys).heap[g]? = some (.cells cur' T f) ∧ cur'.size = cur.size ∧ cur'.toList = cur.toList.take o ++ ys ++ cur.toList.drop (o + ys.length)
  | [], o, w, cur, h, hs => ⟨cur, h, rfl, by simp⟩
  | a :: ys, o, w, cur, h, hs => by
    have hs' : o + (ys.length + 1) ≤ cur.size := by simpa using hs
    obtain ⟨cur', h1, h2, h3⟩ := setL_same ys (o + 1) (w.setCell ⟨g, o, none⟩ a) (cur.setIfInBounds o a) (heap_setCell_same h a) (by simp; omega)
    refine ⟨cur', h1, by simpa using h2, ?_⟩
    rw [h3]
    have hl : o < cur.toList.length := by simp; omega
    simp only [Array.toList_setIfInBounds, List.length_cons]
    rw [List.take_set, List.drop_set_of_lt (by omega)]
    rw [show o + 1 + ys.length = o + (ys.length + 1) by omega]
    congr 1
    rw [List.take_succ_eq_append_getElem hl, List.set_append_right _ _ (by simp; omega)]
    simp [Nat.min_eq_left (Nat.le_of_lt hl)]
    have : o - min o cur.size = 0 := by omega
    rw [this]; rfl

/-- the last element's cells are written -/
theorem own_setL {w : World} {base n g cap m : Nat} {e : TypeId} {xs zs ys : List Value} (h : w.ownsRow base e m (.slice (some ⟨g, 0, none⟩) (n + 1) cap) (n + 1) (xs ++ zs)) (hz : zs.length = m) (ha : ys.length = m) :
    (setL w g (n * m) ys).ownsRow base e m (.slice (some ⟨g, 0, none⟩) (n + 1) cap) (n + 1) (xs ++ ys) := by
  obtain ⟨h1, h2⟩ := h
  have hx : xs.length = n * m := by
    rw [List.length_append, hz, Nat.add_mul, Nat.one_mul] at h1; omega
  refine ⟨by rw [List.length_append, ha, hx, Nat.add_mul, Nat.one_mul], ?_⟩
  rcases h2 with ⟨h2, _⟩ | ⟨g', cap', cur, hv, hb, hh, hn, hc, hs, ht⟩
  · cases h2
  · cases hv
    have hsz : n * m + ys.length ≤ cur.size := by
      rw [hs, ha, show n * m + m = (n + 1) * m by rw [Nat.add_mul, Nat.one_mul]]
      exact Nat.mul_le_mul_right _ hn
    obtain ⟨cur', h3, h4, h5⟩ := setL_same ys (n * m) w cur hh hsz
    refine .inr ⟨g, cap, cur', rfl, hb, h3, hn, hc, by rw [h4]; exact hs, ?_⟩
    have htx : cur.toList.take (n * m) = xs := by
      have h6 := congrArg (List.take (n * m)) ht
      rw [List.take_take, Nat.min_eq_left (by rw [Nat.add_mul, Nat.one_mul]; omega)] at h6
      rw [h6, List.take_append_of_le_length (by omega), ← hx, List.take_length]
    rw [h5, htx]
    rw [List.take_append_of_le_length (by rw [List.length_append, hx, ha, Nat.add_mul, Nat.one_mul]; exact Nat.le_refl _)]
    rw [List.take_of_length_le (by rw [List.length_append, hx, ha, Nat.add_mul, Nat.one_mul]; exact Nat.le_refl _)]

/-- two blocks of a world are written, nothing else -/
structure Put2 (w W : World) (x g : Nat) : Prop where
  os : W.os = w.os
  tape : W.tape = w.tape
  output : W.output = w.output
  size : W.heap.size = w.heap.size
  block : ∀ k, k ≠ x → k ≠ g → W.heap[k]? = w.heap[k]?

theorem ownsRow_same {w w' : World} {base size n g cap : Nat} {e : TypeId} {xs : List Value} (h : w.ownsRow base e size (.slice (some ⟨g, 0, none⟩) n cap) n xs) (hb : w'.heap[g]? = w.heap[g]?) :
    w'.ownsRow base e size (.slice (some ⟨g, 0, none⟩) n cap) n xs := by
  refine ⟨h.1, ?_⟩
  rcases h.2 with h2 | ⟨g', cap', cur, hv, hg, hh, r⟩
  · exact Or.inl h2
  · cases hv
    exact Or.inr ⟨g, cap, cur, rfl, hg, by rw [hb]; exact hh, r⟩

/-- the element's cells first, then the slice's own cell -/
theorem put_first {w : World} {x g n m cap base : Nat} {e : TypeId} {xs zs ys : List Value} {c : Array Value} {T : TypeId} {f : Nat × Nat} (hne : x ≠ g) (hx : w.heap[x]? = some (.cells c T f))
    (h : w.ownsRow base e m (.slice (some ⟨g, 0, none⟩) (n + 1) cap) (n + 1) (xs ++ zs)) (hz : zs.length = m) (ha : ys.length = m) (o : Nat) (v : Value) :
    let W := (setL w g (n * m) ys).setCell ⟨x, o, none⟩ v
    Put2 w W x g ∧ W.heap[x]? = some (.cells (c.setIfInBounds o v) T f) ∧ W.ownsRow base e m (.slice (some ⟨g, 0, none⟩) (n + 1) cap) (n + 1) (xs ++ ys) := by
  intro W
  have hos := setL_os g ys (n * m) w
  refine ⟨⟨hos.1, hos.2.1, hos.2.2, by simp [W, World.setCell, setL_size], fun k h1 h2 => ?_⟩, ?_, ?_⟩
  · exact (Below.heap_setCell _ _ _ _ h1).trans (setL_other g k h2 ys _ w)
  · exact heap_setCell_same ((setL_other g x hne ys _ w).trans hx) v
  · exact ownsRow_same (own_setL h hz ha) (Below.heap_setCell _ _ _ _ (fun e => hne e.symm))

/-- the slice's own cell first, then the element's -/
theorem put_last {w : World} {x g n m cap base : Nat} {e : TypeId} {xs zs ys : List Value} {c : Array Value} {T : TypeId} {f : Nat × Nat} (hne : x ≠ g) (hx : w.heap[x]? = some (.cells c T f))
    (h : w.ownsRow base e m (.slice (some ⟨g, 0, none⟩) (n + 1) cap) (n + 1) (xs ++ zs)) (hz : zs.length = m) (ha : ys.length = m) (o : Nat) (v : Value) :
    let W := setL (w.setCell ⟨x, o, none⟩ v) g (n * m) ys
    Put2 w W x g ∧ W.heap[x]? = some (.cells (c.setIfInBounds o v) T f) ∧ W.ownsRow base e m (.slice (some ⟨g, 0, none⟩) (n + 1) cap) (n + 1) (xs ++ ys) := by
  intro W
  have hos := setL_os g ys (n * m) (w.setCell ⟨x, o, none⟩ v)
  refine ⟨⟨hos.1, hos.2.1, hos.2.2, by simp [W, World.setCell, setL_size], fun k h1 h2 => ?_⟩, ?_, ?_⟩
  · exact (setL_other g k h2 ys _ _).trans (Below.heap_setCell _ _ _ _ h1)
  · exact (setL_other g x hne ys _ _).trans (heap_setCell_same hx v)
  · exact own_setL (ownsRow_same h (Below.heap_setCell _ _ _ _ (fun e => hne e.symm))) hz ha
end

section
open Go.RowKit
set_option linter.unusedSimpArgs false
set_option linter.unusedVariables false

theorem infoExpr : (Tryz.prog.info? 116).map (fun i => (i.zero, i.size, i.bytes)) = some (some (.agg #[.int .i64 0, .int .i64 0, .string ⟨#[]⟩, .slice none 0 0]), 4, 56) := by kernel_rfl

/-- the arguments so far: w0: the world when 'arguments' began; its two own blocks: the reader's pointer, the slice -/
structure ArgI (w0 : World) (b : Nat) (w : World) (xs : List Ex) : Prop where
  kp : Kept b w0 w
  sz : w0.heap.size + 2 ≤ w.heap.size
  cr : w.heap[w0.heap.size]? = some (.cells #[.pointer (some ⟨b, 0, none⟩)] 43 (0, 0))
  ca : ∃ v vs, w.heap[w0.heap.size + 1]? = some (.cells #[v] 60 (0, 0)) ∧ w.ownsRow (w0.heap.size + 2) 116 4 v xs.length (flat vs) ∧ AllP (AnE (fun g => w0.heap.size + 2 ≤ g ∧ v.ownBlock ≠ some g) w) vs xs

theorem ownsRow_kept {w w' : World} {b base size n : Nat} {e : TypeId} {v : Value} {xs : List Value} (h : w.ownsRow base e size v n xs) (k : Kept b w w') (hb : b < base) : w'.ownsRow base e size v n xs := by
  refine ⟨h.1, ?_⟩
  rcases h.2 with h2 | ⟨g, cap, cur, hv, hg, hh, r⟩
  · exact Or.inl h2
  · refine Or.inr ⟨g, cap, cur, hv, hg, ?_, r⟩
    have hlt : g < w.heap.size := by
      rcases Nat.lt_or_ge g w.heap.size with hb | hb
      · exact hb
      · rw [Array.getElem?_eq_none hb] at hh; cases hh
    rw [k.block g hlt (by omega)]; exact hh

theorem ArgI.kept {w0 w w' : World} {b : Nat} {xs : List Ex} (hb : b < w0.heap.size) (h : ArgI w0 b w xs) (k : Kept b w w') : ArgI w0 b w' xs := by
  have hs := h.sz
  refine ⟨h.kp.trans k, Nat.le_trans h.sz k.size, by rw [k.block _ (by omega) (by omega)]; exact h.cr, ?_⟩
  obtain ⟨v, vs, h1, h2, h3⟩ := h.ca
  exact ⟨v, vs, by rw [k.block _ (by omega) (by omega)]; exact h1, ownsRow_kept h2 k (by omega), h3.imp fun u x hx => hx.move fun g hg hlt => ⟨hg, k.block g hlt (by omega)⟩⟩

/-- where something was wrong: the slice is whatever it is -/
structure ArgB (w0 : World) (b : Nat) (w : World) : Prop where
  kp : Kept b w0 w
  sz : w0.heap.size + 2 ≤ w.heap.size
  ca : ∃ a l c, w.heap[w0.heap.size + 1]? = some (.cells #[.slice a l c] 60 (0, 0))

theorem ArgI.bad {w0 w : World} {b : Nat} {xs : List Ex} (h : ArgI w0 b w xs) : ArgB w0 b w := by
  obtain ⟨v, vs, h1, h2, h3⟩ := h.ca
  refine ⟨h.kp, h.sz, ?_⟩
  rcases h2.2 with ⟨rfl, _⟩ | ⟨g, cap, cur, rfl, _⟩
  · exact ⟨_, _, _, h1⟩
  · exact ⟨_, _, _, h1⟩

theorem ownsRow_slice {w : World} {base size n : Nat} {e : TypeId} {v : Value} {xs : List Value} (h : w.ownsRow base e size v n xs) : ∃ a c, v = .slice a n c := by
  rcases h.2 with ⟨rfl, rfl⟩ | ⟨g, cap, cur, rfl, _⟩
  · exact ⟨_, _, rfl⟩
  · exact ⟨_, _, rfl⟩

theorem zeroE_one : ∀ u ∈ [Value.int .i64 0, .int .i64 0, .string ⟨#[]⟩, .slice none 0 0], u.oneCell' = true := by
  intro u hu
  simp at hu
  rcases hu with rfl | rfl | rfl <;> rfl

/-- the cells of the element that was appended last -/
theorem own_last4 {w : World} {base n g cap : Nat} {e : TypeId} {xs : List Value} {y0 y1 y2 y3 : Value} (h : w.ownsRow base e 4 (.slice (some ⟨g, 0, none⟩) (n + 1) cap) (n + 1) (xs ++ [y0, y1, y2, y3])) :
    ∃ cur, w.heap[g]? = some (.cells cur e (0, 0)) ∧ cur.toList.take (n * 4 + 4) = xs ++ [y0, y1, y2, y3] ∧ xs.length = n * 4 ∧ n * 4 + 4 ≤ cur.size ∧ base ≤ g := by
  obtain ⟨h1, h2⟩ := h
  rcases h2 with ⟨h2, _⟩ | ⟨g', cap', cur, hv, hb, hh, hn, hc, hs, ht⟩
  · cases h2
  · cases hv
    refine ⟨cur, hh, ?_, ?_, ?_, hb⟩
    · rw [show n * 4 + 4 = (n + 1) * 4 by omega]; exact ht
    · simp at h1; omega
    · rw [hs]; omega

theorem own_last4_cells {w : World} {base n g cap : Nat} {e : TypeId} {xs : List Value} {y0 y1 y2 y3 : Value} (h : w.ownsRow base e 4 (.slice (some ⟨g, 0, none⟩) (n + 1) cap) (n + 1) (xs ++ [y0, y1, y2, y3])) :
    w.cell? ⟨g, n * 4, none⟩ = some y0 ∧ w.cell? ⟨g, n * 4 + 1, none⟩ = some y1 ∧ w.cell? ⟨g, n * 4 + 2, none⟩ = some y2 ∧ w.cell? ⟨g, n * 4 + 3, none⟩ = some y3 ∧ ∀ o, w.frozen? ⟨g, o, none⟩ = false := by
  obtain ⟨cur, hh, ht, hl, hs, _⟩ := own_last4 h
  have hc : ∀ j, j < 4 → w.cell? ⟨g, n * 4 + j, none⟩ = (xs ++ [y0, y1, y2, y3])[n * 4 + j]? := by
    intro j hj
    rw [← ht, List.getElem?_take_of_lt (by omega)]
    simp [World.cell?, hh]
  refine ⟨?_, ?_, ?_, ?_, fun o => thaw4 hh o⟩
  · have := hc 0 (by omega); rw [List.getElem?_append_right (by omega)] at this; simpa [hl] using this
  · have := hc 1 (by omega); rw [List.getElem?_append_right (by omega)] at this; simpa [hl] using this
  · have := hc 2 (by omega); rw [List.getElem?_append_right (by omega)] at this; simpa [hl] using this
  · have := hc 3 (by omega); rw [List.getElem?_append_right (by omega)] at this; simpa [hl] using this

theorem grown_block {W w2 : World} {v : Value} {base size n k : Nat} {e : TypeId} {xs : List Value} {o : Obj} (hg : W.grownBy w2 v.ownBlock) (hown : W.ownsRow base e size v n xs) (hk : k < base) (ho : W.heap[k]? = some o) : w2.heap[k]? = some o := by
  have hlt : k < W.heap.size := by
    rcases Nat.lt_or_ge k W.heap.size with hb | hb
    · exact hb
    · rw [Array.getElem?_eq_none hb] at ho; cases ho
  rw [hg.block k hlt (fun e' => by have := hown.lt k e'.symm; omega)]
  exact ho

/-- all that was there ahead of an append, but for the row and the slice's own cell, is there behind it -/
theorem append_keeps {w1 w2 W : World} {x g cv n : Nat} {av : Option Addr} {oe oz : Obj} (hg : (((w1.alloc oe).alloc oz).drew).grownBy w2 (Value.slice av n cv).ownBlock) (hat : (Value.slice av n cv).ownBlock = some g ∨ g = w1.heap.size + 2)
    (hp : Put2 w2 W x g) (k : Nat) (hk : k < w1.heap.size) (hx : k ≠ x) (ho : (Value.slice av n cv).ownBlock ≠ some k) : k ≠ g ∧ W.heap[k]? = w1.heap[k]? := by
  have hkg : k ≠ g := by
    rintro rfl
    rcases hat with h | h
    · exact ho h
    · omega
  refine ⟨hkg, ?_⟩
  rw [hp.block k hx hkg, hg.block k (by show k < ((w1.alloc oe).alloc oz).heap.size; simp; omega) (fun e => ho e.symm)]
  show ((w1.alloc oe).alloc oz).heap[k]? = _
  rw [Below.heap_alloc _ _ _ (by simp; omega), Below.heap_alloc _ _ _ hk]

theorem append_kept {w1 w2 W : World} {x g cv n b : Nat} {av : Option Addr} {oe oz : Obj} (hg : (((w1.alloc oe).alloc oz).drew).grownBy w2 (Value.slice av n cv).ownBlock) (hat : (Value.slice av n cv).ownBlock = some g ∨ g = w1.heap.size + 2)
    (hp : Put2 w2 W x g) {w0 : World} (hk : Kept b w0 w1) (hx : w0.heap.size ≤ x) (ho : ∀ k, (Value.slice av n cv).ownBlock = some k → w0.heap.size ≤ k) : Kept b w0 W := by
  refine ⟨hp.os.trans (hg.os.trans hk.os), hp.tape.trans (hg.tape.trans hk.tape), hp.output.trans (hg.output.trans hk.output), ?_, fun k hlt hb => ?_⟩
  · have h1 := hg.size
    have h2 := hp.size
    have h3 := hk.size
    have h4 : (((w1.alloc oe).alloc oz).drew).heap.size = w1.heap.size + 2 := by simp
    omega
  · rw [(append_keeps hg hat hp k (Nat.lt_of_lt_of_le hlt hk.size) (by omega) (fun e => by have := ho k e; omega)).2]
    exact hk.block k hlt hb

/-- one argument more -/
theorem argDone {w0 w w1 w2 W : World} {b g cp : Nat} {av : Option Addr} {cv : Nat} {xs : List Ex} {x : Ex} {vs : List Value} {ev0 ev1 ev2 ev3 : Value} {oe oz : Obj} (hb0 : b < w0.heap.size) (hI : ArgI w0 b w xs) (k1 : Kept b w w1)
    (hown : w.ownsRow (w0.heap.size + 2) 116 4 (.slice av xs.length cv) xs.length (flat vs)) (hall : AllP (AnE (fun g => w0.heap.size + 2 ≤ g ∧ (Value.slice av xs.length cv).ownBlock ≠ some g) w) vs xs)
    (hA : AnE (fun g => w.heap.size ≤ g) w1 (.agg #[ev0, ev1, ev2, ev3]) x)
    (hg : (((w1.alloc oe).alloc oz).drew).grownBy w2 (Value.slice av xs.length cv).ownBlock) (hat : (Value.slice av xs.length cv).ownBlock = some g ∨ g = w1.heap.size + 2) (hgb : w0.heap.size + 2 ≤ g)
    (hp : Put2 w2 W (w0.heap.size + 1) g) (hx : W.heap[w0.heap.size + 1]? = some (.cells #[.slice (some ⟨g, 0, none⟩) (xs.length + 1) cp] 60 (0, 0)))
    (ho : W.ownsRow (w0.heap.size + 2) 116 4 (.slice (some ⟨g, 0, none⟩) (xs.length + 1) cp) (xs.length + 1) (flat vs ++ [ev0, ev1, ev2, ev3])) : ArgI w0 b W (xs ++ [x]) := by
  have hsz := hI.sz
  have hs1 := k1.size
  have hlo := hown.lt
  have keep := fun k h1 h2 h3 => append_keeps (x := w0.heap.size + 1) hg hat hp k h1 h2 h3
  have kW := append_kept hg hat hp (hI.kp.trans k1) (by omega) (fun k e => by have := hlo k e; omega)
  refine ⟨kW, ?_, ?_, ?_⟩
  · have h1 := hg.size
    have h2 := hp.size
    have h4 : (((w1.alloc oe).alloc oz).drew).heap.size = w1.heap.size + 2 := by simp
    omega
  · rw [(keep w0.heap.size (by omega) (by omega) (fun e => by have := hlo _ e; omega)).2, k1.block _ (by omega) (by omega)]
    exact hI.cr
  · refine ⟨_, vs ++ [.agg #[ev0, ev1, ev2, ev3]], hx, ?_, ?_⟩
    · simp only [List.length_append, List.length_cons, List.length_nil, flat_append]
      exact ho
    · refine AllP.snoc ?_ (hall.imp fun u y hu => ?_)
      · refine hA.move fun k hk hlt => ?_
        have := keep k hlt (by omega) (fun e => by have := hlo _ e; omega)
        exact ⟨⟨by omega, by simp [Value.ownBlock]; exact fun e => this.1 e.symm⟩, this.2⟩
      · refine hu.move fun k hk hlt => ?_
        have := keep k (by omega) (by omega) hk.2
        exact ⟨⟨hk.1, by simp [Value.ownBlock]; exact fun e => this.1 e.symm⟩, this.2.trans (k1.block k hlt (by omega))⟩

/-- .. and the reader is as it was -/
theorem argRdr {w0 w1 w2 W : World} {b bp cap T g cv n : Nat} {av : Option Addr} {ps : List Tok} {q : RS} {oe oz : Obj} (h : Rdr w1 b bp cap T ps q) (hb0 : b < w0.heap.size) (hp0 : bp < w0.heap.size) (hG : 9 ≤ w0.heap.size)
    (hlo : ∀ k, (Value.slice av n cv).ownBlock = some k → w0.heap.size + 2 ≤ k) (hg : (((w1.alloc oe).alloc oz).drew).grownBy w2 (Value.slice av n cv).ownBlock) (hat : (Value.slice av n cv).ownBlock = some g ∨ g = w1.heap.size + 2)
    (hp : Put2 w2 W (w0.heap.size + 1) g) : Rdr W b bp cap T ps q := by
  have keep : ∀ k, k < w1.heap.size → k < w0.heap.size → W.heap[k]? = w1.heap[k]? := fun k h1 h2 => (append_keeps (x := w0.heap.size + 1) hg hat hp k h1 (by omega) (fun e => by have := hlo k e; omega)).2
  refine ⟨by rw [keep b h.bsize hb0]; exact h.blk, ?_, h.ne, ?_, h.nx, h.len, h.dp, h.tab.same (fun g hgs hlt => keep g hgs (by omega)), h.far, h.fin⟩
  · intro i hi
    have := h.row i hi
    have e := fun j => World.cell?_of_block (w := w1) (w' := W) (a := ⟨bp, j, none⟩) (keep bp h.lt hp0)
    simp only [e]
    exact this
  · have h1 := hg.size
    have h2 := hp.size
    have h4 : (((w1.alloc oe).alloc oz).drew).heap.size = w1.heap.size + 2 := by simp
    have := h.lt
    omega

/-- what the appending leaves: w: ahead of the expression, w1: behind it -/
def ArgDoneP (w0 : World) (b bp cap T : Nat) (ps : List Tok) (q : RS) (xs : List Ex) (w w1 : World) (ev : Value) (W : World) : Prop :=
  ∃ (av : Option Addr) (cv g cp : Nat) (vs : List Value) (w2 : World) (oe oz : Obj) (ev0 ev1 ev2 ev3 : Value), ev = .agg #[ev0, ev1, ev2, ev3] ∧
    w.ownsRow (w0.heap.size + 2) 116 4 (.slice av xs.length cv) xs.length (flat vs) ∧ AllP (AnE (fun g => w0.heap.size + 2 ≤ g ∧ (Value.slice av xs.length cv).ownBlock ≠ some g) w) vs xs ∧
    (((w1.alloc oe).alloc oz).drew).grownBy w2 (Value.slice av xs.length cv).ownBlock ∧ ((Value.slice av xs.length cv).ownBlock = some g ∨ g = w1.heap.size + 2) ∧ w0.heap.size + 2 ≤ g ∧
    Put2 w2 W (w0.heap.size + 1) g ∧ W.heap[w0.heap.size + 1]? = some (.cells #[.slice (some ⟨g, 0, none⟩) (xs.length + 1) cp] 60 (0, 0)) ∧
    W.ownsRow (w0.heap.size + 2) 116 4 (.slice (some ⟨g, 0, none⟩) (xs.length + 1) cp) (xs.length + 1) (flat vs ++ [ev0, ev1, ev2, ev3])

theorem argEither {w0 w w1 : World} {b bp cap T : Nat} {ps : List Tok} {q : RS} {xs : List Ex} (hb0 : b < w0.heap.size) (hp0 : bp < w0.heap.size) (hG : 9 ≤ w0.heap.size) (hI : ArgI w0 b w xs)
    {r : Sum (Int × Int) (Ex × Nat)} {e : Ending} (hP : PostE b bp cap T ps q w r e w1) :
    ∃ ev ok, ShE ev ∧ e = .returned (.tuple #[ev, .bool ok]) ∧ ∀ W, ArgDoneP w0 b bp cap T ps q xs w w1 ev W → ItemPost b bp cap T ps q (ArgI w0 b) (ArgB w0 b) xs r (.returned (.bool ok)) W := by
  obtain ⟨k1, hP⟩ := hP
  have hsz := hI.sz
  have hs1 := k1.size
  cases r with
  | inl k =>
    obtain ⟨v, n', hsh, rfl, h1⟩ := hP
    refine ⟨v, false, hsh, rfl, ?_⟩
    rintro W ⟨av, cv, g, cp, vs, w2, oe, oz, ev0, ev1, ev2, ev3, rfl, hown, hall, hg, hat, hgb, hp, hx, ho⟩
    have hlo : ∀ k, (Value.slice av xs.length cv).ownBlock = some k → w0.heap.size + 2 ≤ k := fun k e => (hown.lt k e).1
    refine ⟨rfl, n', argRdr h1 hb0 hp0 hG hlo hg hat hp, ⟨append_kept hg hat hp (hI.kp.trans k1) (by omega) (fun k e => by have := hlo k e; omega), ?_, _, _, _, hx⟩⟩
    have h1 := hg.size
    have h2 := hp.size
    have h4 : (((w1.alloc oe).alloc oz).drew).heap.size = w1.heap.size + 2 := by simp
    omega
  | inr x =>
    obtain ⟨v, rfl, hA, h1⟩ := hP
    refine ⟨v, true, hA.sh, rfl, ?_⟩
    rintro W ⟨av, cv, g, cp, vs, w2, oe, oz, ev0, ev1, ev2, ev3, rfl, hown, hall, hg, hat, hgb, hp, hx, ho⟩
    have hlo : ∀ k, (Value.slice av xs.length cv).ownBlock = some k → w0.heap.size + 2 ≤ k := fun k e => (hown.lt k e).1
    exact ⟨rfl, argRdr h1 hb0 hp0 hG hlo hg hat hp, argDone hb0 hI k1 hown hall hA hg hat hgb hp hx ho⟩

theorem argFinA {w0 w w1 w2 : World} {b bp cap T : Nat} {ps : List Tok} {q : RS} {xs : List Ex} {av : Option Addr} {cv g cp : Nat} {vs : List Value} {oe oz : Obj} {y0 y1 y2 y3 c0 : Value}
    (hown : w.ownsRow (w0.heap.size + 2) 116 4 (.slice av xs.length cv) xs.length (flat vs)) (hall : AllP (AnE (fun g => w0.heap.size + 2 ≤ g ∧ (Value.slice av xs.length cv).ownBlock ≠ some g) w) vs xs)
    (hg : (((w1.alloc oe).alloc oz).drew).grownBy w2 (Value.slice av xs.length cv).ownBlock) (hat : (Value.slice av xs.length cv).ownBlock = some g ∨ g = w1.heap.size + 2) (hgb : w0.heap.size + 2 ≤ g)
    (hva : w2.heap[w0.heap.size + 1]? = some (.cells #[c0] 60 (0, 0))) (hne : ¬ w0.heap.size + 1 = g) {z0 z1 z2 z3 : Value}
    (ho : w2.ownsRow (w0.heap.size + 2) 116 4 (.slice (some ⟨g, 0, none⟩) (xs.length + 1) cp) (xs.length + 1) (flat vs ++ [z0, z1, z2, z3])) :
    ArgDoneP w0 b bp cap T ps q xs w w1 (.agg #[y0, y1, y2, y3]) (((((w2.setCell ⟨g, xs.length * 4, none⟩ y0).setCell ⟨g, xs.length * 4 + 1, none⟩ y1).setCell ⟨g, xs.length * 4 + 2, none⟩ y2).setCell ⟨g, xs.length * 4 + 3, none⟩ y3).setCell ⟨w0.heap.size + 1, 0, none⟩ (.slice (some ⟨g, 0, none⟩) (xs.length + 1) cp)) := by
  have hpp := put_first (x := w0.heap.size + 1) (ys := [y0, y1, y2, y3]) hne hva ho rfl rfl 0 (.slice (some ⟨g, 0, none⟩) (xs.length + 1) cp)
  exact ⟨av, cv, g, cp, vs, w2, oe, oz, y0, y1, y2, y3, rfl, hown, hall, hg, hat, hgb, hpp.1, hpp.2.1, hpp.2.2⟩

theorem argFinB {w0 w w1 w2 : World} {b bp cap T : Nat} {ps : List Tok} {q : RS} {xs : List Ex} {av : Option Addr} {cv g cp : Nat} {vs : List Value} {oe oz : Obj} {y0 y1 y2 y3 c0 : Value}
    (hown : w.ownsRow (w0.heap.size + 2) 116 4 (.slice av xs.length cv) xs.length (flat vs)) (hall : AllP (AnE (fun g => w0.heap.size + 2 ≤ g ∧ (Value.slice av xs.length cv).ownBlock ≠ some g) w) vs xs)
    (hg : (((w1.alloc oe).alloc oz).drew).grownBy w2 (Value.slice av xs.length cv).ownBlock) (hat : (Value.slice av xs.length cv).ownBlock = some g ∨ g = w1.heap.size + 2) (hgb : w0.heap.size + 2 ≤ g)
    (hva : w2.heap[w0.heap.size + 1]? = some (.cells #[c0] 60 (0, 0))) (hne : ¬ w0.heap.size + 1 = g) {z0 z1 z2 z3 : Value}
    (ho : w2.ownsRow (w0.heap.size + 2) 116 4 (.slice (some ⟨g, 0, none⟩) (xs.length + 1) cp) (xs.length + 1) (flat vs ++ [z0, z1, z2, z3])) :
    ArgDoneP w0 b bp cap T ps q xs w w1 (.agg #[y0, y1, y2, y3]) (((((w2.setCell ⟨w0.heap.size + 1, 0, none⟩ (.slice (some ⟨g, 0, none⟩) (xs.length + 1) cp)).setCell ⟨g, xs.length * 4, none⟩ y0).setCell ⟨g, xs.length * 4 + 1, none⟩ y1).setCell ⟨g, xs.length * 4 + 2, none⟩ y2).setCell ⟨g, xs.length * 4 + 3, none⟩ y3) := by
  have hpp := put_last (x := w0.heap.size + 1) (ys := [y0, y1, y2, y3]) hne hva ho rfl rfl 0 (.slice (some ⟨g, 0, none⟩) (xs.length + 1) cp)
  exact ⟨av, cv, g, cp, vs, w2, oe, oz, y0, y1, y2, y3, rfl, hown, hall, hg, hat, hgb, hpp.1, hpp.2.1, hpp.2.2⟩

set_option maxHeartbeats 2000000 in
theorem argItem_core (w0 w : World) (b bp cap T : Nat) (ps : List Tok) (q : RS) (xs : List Ex) (hxl : xs.length < 1000000) (hb0 : b < w0.heap.size) (hp0 : bp < w0.heap.size) (hG : 9 ≤ w0.heap.size)
    (h : Rdr w b bp cap T ps q) (hI : ArgI w0 b w xs) (r : Sum (Int × Int) (Ex × Nat))
    (hE : Calls Tryz.prog 108 #[.pointer (some ⟨b, 0, none⟩)] w (PostE b bp cap T ps q w r)) :
    Calls Tryz.prog 126 #[.pointer (some ⟨w0.heap.size, 0, none⟩), .pointer (some ⟨w0.heap.size + 1, 0, none⟩)] w (ItemPost b bp cap T ps q (ArgI w0 b) (ArgB w0 b) xs r) := by
  obtain ⟨i0, hi, hz0, hz1, hz2⟩ := info_parts infoExpr
  have cr : w.cell? ⟨w0.heap.size, 0, none⟩ = some (.pointer (some ⟨b, 0, none⟩)) := by simp [World.cell?, hI.cr]
  have hsz0 := hI.sz
  obtain ⟨v, vs, hca0, hown0, hall0⟩ := hI.ca
  obtain ⟨av, cv, rfl⟩ := ownsRow_slice hown0
  have hlo : ∀ k, (Value.slice av xs.length cv).ownBlock = some k → w0.heap.size + 2 ≤ k := fun k e => (hown0.lt k e).1
  have HL := hlo
  have HLO : Hid (∀ k, (Value.slice av xs.length cv).ownBlock = some k → w0.heap.size + 2 ≤ k) := hlo
  clear hlo HL
  go_enter Tryz.func126, Tryz.ntmps126
  go_wp2_with fail
  refine hE.mono ?_
  intro e w1 hP
  have hei := argEither hb0 hp0 hG hI hP
  obtain ⟨k1, _⟩ := hP
  have hs1 := k1.size
  have hca := (k1.block (w0.heap.size + 1) (by omega) (by omega)).trans hca0
  have hown := ownsRow_kept hown0 k1 (by omega)
  have c1 : w1.cell? ⟨w0.heap.size + 1, 0, none⟩ = some (.slice av xs.length cv) := by simp [World.cell?, hca]
  have z1 : w1.frozen? ⟨w0.heap.size + 1, 0, none⟩ = false := by simp [World.frozen?, hca]
  have hlt1 : w0.heap.size + 1 < w1.heap.size := by omega
  have hlt0 : w0.heap.size < w1.heap.size := by omega
  have hix : (xs.length : Int) < (xs.length : Int) + 1 := by omega
  have hm63 : xs.length + 1 ≤ maxLen := by unfold maxLen; omega
  have HCA : Hid (w.heap[w0.heap.size + 1]? = some (.cells #[.slice av xs.length cv] 60 (0, 0))) := hca0
  clear hca0
  obtain ⟨ev, ok, hsh, rfl, hfin⟩ := hei
  obtain ⟨e0, e1, e2, a3, l3, c3, rfl⟩ := hsh
  go_wp2_with fail
  have HO : Hid ((((w1.alloc (.cells #[.int .i64 e0, .int .i64 e1, .string e2, .slice a3 l3 c3] 116)).alloc (.cells #[.int .i64 0, .int .i64 0, .string ⟨#[]⟩, .slice none 0 0] 116)).drew).ownsRow (w0.heap.size + 2) 116 4 (.slice av xs.length cv) xs.length (flat vs)) := (hown.alloc _).alloc _
  have HN : Hid (∀ j u, [Value.int .i64 0, .int .i64 0, .string ⟨#[]⟩, .slice none 0 0][j]? = some u → (((w1.alloc (.cells #[.int .i64 e0, .int .i64 e1, .string e2, .slice a3 l3 c3] 116)).alloc (.cells #[.int .i64 0, .int .i64 0, .string ⟨#[]⟩, .slice none 0 0] 116)).drew).cell? ((⟨w1.heap.size + 1, 0, none⟩ : Addr).add j) = some u) :=
    World.news_of_block (w := ((w1.alloc (.cells #[.int .i64 e0, .int .i64 e1, .string e2, .slice a3 l3 c3] 116)).alloc (.cells #[.int .i64 0, .int .i64 0, .string ⟨#[]⟩, .slice none 0 0] 116)).drew) (B := w1.heap.size + 1) (cs := #[.int .i64 0, .int .i64 0, .string ⟨#[]⟩, .slice none 0 0]) (by
      have := heap_alloc_new (w1.alloc (.cells #[.int .i64 e0, .int .i64 e1, .string e2, .slice a3 l3 c3] 116)) (.cells #[.int .i64 0, .int .i64 0, .string ⟨#[]⟩, .slice none 0 0] 116)
      exact blk_drew (by simpa using this))
  have HV : Hid ((((w1.alloc (.cells #[.int .i64 e0, .int .i64 e1, .string e2, .slice a3 l3 c3] 116)).alloc (.cells #[.int .i64 0, .int .i64 0, .string ⟨#[]⟩, .slice none 0 0] 116)).drew).heap[w0.heap.size + 1]? = some (.cells #[.slice av xs.length cv] 60 (0, 0))) := blk_drew (blk_alloc (blk_alloc hca _) _)
  have hbase : w0.heap.size + 2 ≤ (((w1.alloc (.cells #[.int .i64 e0, .int .i64 e1, .string e2, .slice a3 l3 c3] 116)).alloc (.cells #[.int .i64 0, .int .i64 0, .string ⟨#[]⟩, .slice none 0 0] 116)).drew).heap.size := by simp; omega
  have hH : (((w1.alloc (.cells #[.int .i64 e0, .int .i64 e1, .string e2, .slice a3 l3 c3] 116)).alloc (.cells #[.int .i64 0, .int .i64 0, .string ⟨#[]⟩, .slice none 0 0] 116)).drew).heap.size = w1.heap.size + 2 := by simp
  go_region_law (refine step_append_lies (((w1.alloc (.cells #[.int .i64 e0, .int .i64 e1, .string e2, .slice a3 l3 c3] 116)).alloc (.cells #[.int .i64 0, .int .i64 0, .string ⟨#[]⟩, .slice none 0 0] 116)).drew) rfl (.tmp 10) (.tmp 13) 60 rfl (w0.heap.size + 2) 116 i0 (.agg #[.int .i64 0, .int .i64 0, .string ⟨#[]⟩, .slice none 0 0]) 4 56 Tryz.underlying60 hi hz0 hz1 hz2 rfl (by decide) (.slice av xs.length cv) xs.length (flat vs) (by simp [Act.eval, Act.put]) HO.out ⟨w1.heap.size + 1, 0, none⟩ 1 1 [.int .i64 0, .int .i64 0, .string ⟨#[]⟩, .slice none 0 0] (by simp [Act.eval, Act.put]) rfl HN.out zeroE_one (by decide) hm63 (by omega) hbase (w1.heap.size + 2) hH ?_; intro g cp w2 hown2 hgrow2 hat2 hlt2; obtain ⟨p0, p1, p2, p3, pz⟩ := own_last4_cells hown2; have hva2 := grown_block hgrow2 HO.out (k := w0.heap.size + 1) (by omega) HV.out; have hvc2 : w2.cell? ⟨w0.heap.size + 1, 0, none⟩ = some (.slice av xs.length cv) := by { simp [World.cell?, hva2] }; have hvz2 : w2.frozen? ⟨w0.heap.size + 1, 0, none⟩ = false := by { simp [World.frozen?, hva2] }; obtain ⟨cur2, hg2, ht2, hl2, hs2, hgb⟩ := own_last4 hown2; have hne : ¬ g = w0.heap.size + 1 := by { omega }; have hne' : ¬ w0.heap.size + 1 = g := by { omega })
  all_goals
    go_wp2_with fail
    go_ret
    refine hfin _ ?_
    first
      | (with_reducible exact argFinA hown0 hall0 hgrow2 hat2 hgb hva2 hne' hown2)
      | (with_reducible exact argFinB hown0 hall0 hgrow2 hat2 hgb hva2 hne' hown2)
end

section
open Go.RowKit
set_option linter.unusedSimpArgs false
set_option linter.unusedVariables false

/-- what a call that reads many expressions leaves -/
def PostL (b bp cap T : Nat) (ps : List Tok) (q : RS) (w : World) (r : Sum (Int × Int) (List Ex × Nat)) (e : Ending) (w' : World) : Prop :=
  Kept b w w' ∧ match r with
  | .inl k => ∃ a l c n', e = .returned (.tuple #[.slice a l c, .bool false]) ∧ Rdr w' b bp cap T ps ⟨n', q.depth, k.1, k.2⟩
  | .inr x => ∃ a c, e = .returned (.tuple #[.slice a x.1.length c, .bool true]) ∧ Row (fun g => w.heap.size ≤ g) w' (AnE (fun g => w.heap.size ≤ g) w') (.slice a x.1.length c) x.1 ∧ Rdr w' b bp cap T ps { q with next := x.2 }

theorem row_of_owns {w : World} {base size n : Nat} {e : TypeId} {v : Value} {xs : List Value} (h : w.ownsRow base e size v n xs) (S : Nat → Prop) (hS : ∀ g, base ≤ g → S g) : RowIs S w v n xs := by
  obtain ⟨h1, h2⟩ := h
  rcases h2 with ⟨rfl, rfl⟩ | ⟨g, cap, cur, rfl, hb, hh, hn, hc, hs, ht⟩
  · exact .inl ⟨rfl, rfl, List.eq_nil_of_length_eq_zero (by simpa using h1)⟩
  · exact .inr ⟨g, cap, cur, e, (0, 0), rfl, hS g hb, hh, by rw [h1]; exact ht⟩

theorem callArg (caps : Array Value) (w : World) : (callFunc 126 caps).run Tryz.prog w = .ok (.enter 126 caps) w := by kernel_rfl

theorem mkf (fn : Fn) (first cap : Array Value) (w : World) : (Instr.makeFunc fn first cap).run Tryz.prog w = .ok (.func fn first cap) w := rfl

theorem heap_alloc2 (w : World) (o1 o2 : Obj) : ((w.alloc o1).alloc o2).heap[w.heap.size]? = some o1 ∧ ((w.alloc o1).alloc o2).heap[w.heap.size + 1]? = some o2 := by
  refine ⟨blk_alloc (heap_alloc_new w o1) o2, ?_⟩
  have := heap_alloc_new (w.alloc o1) o2
  simpa using this

theorem argStart (w : World) (b : Nat) : ArgI w b ((w.alloc (.cells #[.pointer (some ⟨b, 0, none⟩)] 43)).alloc (.cells #[.slice none 0 0] 60)) [] :=
  ⟨((Kept.refl _ _).alloc _).alloc _, by simp, (heap_alloc2 w _ _).1, _, [], (heap_alloc2 w _ _).2, World.ownsRow_nil _ _ _ _, trivial⟩

set_option maxHeartbeats 1000000 in
theorem arguments_any {ps : List Tok} {E : Nat → Nat → R Ex} (hE : SaidE ps E) (w : World) (b bp cap T f : Nat) (hf : f ≤ 1000000) (q : RS) (r : Sum (Int × Int) (List Ex × Nat)) (h : Rdr w b bp cap T ps q)
    (hr : listM ps (E q.depth) f q.next = some r) :
    Calls Tryz.prog 109 #[.pointer (some ⟨b, 0, none⟩)] w (PostL b bp cap T ps q w r) := by
  have hbs := h.bsize
  have hps := h.lt
  have hfar := h.far
  have hmf := mkf
  go_enter Tryz.func109, Tryz.ntmps109
  go_wp2_with fail
  refine (listed_any b bp cap T q.depth f 126 _ (ArgI w b) (ArgB w b) (callArg _)
    (fun w' q' acc r' hl hd hR hI hi => argItem_core w w' b bp cap T ps q' acc (by omega) hbs hps (by omega) hR hI r' (hE _ _ _ _ _ _ _ hR (by rw [hd]; exact hi)))
    (fun w' w'' acc hI hk => hI.kept hbs hk) (fun w' acc hI => hI.bad) _ q r rfl (h.below (((Below.refl _ _).alloc (Nat.le_refl _) _).alloc (by simp) _)) (argStart w b) hr).mono ?_
  intro e w1 hP
  cases r with
  | inl k =>
    obtain ⟨rfl, n', h1, ⟨kp, hsz, a, l, c, hca⟩⟩ := hP
    have c1 : w1.cell? ⟨w.heap.size + 1, 0, none⟩ = some (.slice a l c) := by simp [World.cell?, hca]
    go_wp2_with fail
    go_ret2
    exact ⟨kp, a, l, c, n', rfl, h1⟩
  | inr x =>
    obtain ⟨rfl, h1, hI⟩ := hP
    obtain ⟨v, vs, hca, hown, hall⟩ := hI.ca
    obtain ⟨av, cv, rfl⟩ := ownsRow_slice hown
    have c1 : w1.cell? ⟨w.heap.size + 1, 0, none⟩ = some (.slice av x.1.length cv) := by simp [World.cell?, hca]
    go_wp2_with fail
    go_ret2
    exact ⟨hI.kp, av, cv, rfl, ⟨vs, row_of_owns hown _ (fun g hg => by omega), hall.imp fun u y hu => hu.move fun g hg _ => ⟨by omega, rfl⟩⟩, h1⟩
end

section
open Go.RowKit
set_option linter.unusedSimpArgs false
set_option linter.unusedVariables false

theorem Row.weak {B : Type} {S S' : Nat → Prop} {w : World} {P Q : Value → B → Prop} {v : Value} {xs : List B} (h : Row S w P v xs) (hs : ∀ g, S g → S' g) (hp : ∀ u x, P u x → Q u x) : Row S' w Q v xs :=
  h.move (fun g hg _ => ⟨hs g hg, rfl⟩) hp

def callM (ps : List Tok) (E : Nat → Nat → R Ex) (f d : Nat) (s : List UInt8) (n : Nat) : R Ex := bindR (listM ps (E d) f n) fun l n' => okR ⟨7, 0, s, l⟩ n'

set_option maxHeartbeats 1000000 in
theorem call_any {ps : List Tok} {E : Nat → Nat → R Ex} (hE : SaidE ps E) (w : World) (b bp cap T f : Nat) (hf : f ≤ 1000000) (q : RS) (s : List UInt8) (r : Sum (Int × Int) (Ex × Nat)) (h : Rdr w b bp cap T ps q)
    (hr : callM ps E f q.depth s q.next = some r) :
    Calls Tryz.prog 90 #[.pointer (some ⟨b, 0, none⟩), .string ⟨s.toArray⟩] w (PostE b bp cap T ps q w r) := by
  have hbs := h.bsize
  unfold callM at hr
  rcases bindR_some hr with ⟨k, h1, rfl⟩ | ⟨l, n1, h1, h2⟩
  · clear hr
    go_enter Tryz.func90, Tryz.ntmps90
    go_wp2_with fail
    refine (arguments_any hE _ b bp cap T f hf q _ (h.below ((Below.refl _ _).alloc (Nat.le_refl _) _)) h1).mono ?_
    rintro e w1 ⟨k1, a, l, c, n', rfl, hR⟩
    have hblk := (k1.block w.heap.size (by simp) (by omega)).trans (heap_alloc_new w _)
    have hc := cells4 hblk
    have hz := thaw4 hblk
    go_wp2_with fail
    exact fin_expr Tryz.results90 rfl rfl rfl (store4 hblk _ _ _ _) (postE_bad h (((Kept.refl _ _).alloc _).trans k1) (kept4 _ _ _ _ _ _) (Nat.le_refl _) hR)
  · cases h2
    clear hr
    go_enter Tryz.func90, Tryz.ntmps90
    go_wp2_with fail
    refine (arguments_any hE _ b bp cap T f hf q _ (h.below ((Below.refl _ _).alloc (Nat.le_refl _) _)) h1).mono ?_
    rintro e w1 ⟨k1, a, c, rfl, hA, hR⟩
    have hblk := (k1.block w.heap.size (by simp) (by omega)).trans (heap_alloc_new w _)
    have hc := cells4 hblk
    have hz := thaw4 hblk
    have hA' := AnE.mk 7 0 s l (hA.weak (S' := fun g => w.heap.size ≤ g ∧ g ≠ w.heap.size) (Q := AnE (fun g => w.heap.size ≤ g ∧ g ≠ w.heap.size) w1) (fun g hg => by simp at hg; omega) (fun u x hx => hx.move fun g hg _ => ⟨by simp at hg; omega, rfl⟩))
    clear hA
    go_wp2_with fail
    exact fin_expr Tryz.results90 rfl rfl rfl (store4 hblk _ _ _ _) (postE_ok h (((Kept.refl _ _).alloc _).trans k1) (kept4 _ _ _ _ _ _) (Nat.le_refl _) hR hA')

set_option maxHeartbeats 1000000 in
theorem named_any {ps : List Tok} {E : Nat → Nat → R Ex} (hE : SaidE ps E) (w : World) (b bp cap T f : Nat) (hf : f ≤ 1000000) (q : RS) (s : List UInt8) (r : Sum (Int × Int) (Ex × Nat)) (h : Rdr w b bp cap T ps q)
    (hr : namedM ps E f q.depth s q.next = some r) :
    Calls Tryz.prog 134 #[.pointer (some ⟨b, 0, none⟩), .string ⟨s.toArray⟩] w (PostE b bp cap T ps q w r) := by
  have hbs := h.bsize
  have h0 := h.below ((Below.refl w.heap.size w).alloc (Nat.le_refl _) (.cells #[.int .i64 0, .int .i64 0, .string ⟨#[]⟩, .slice none 0 0] 116))
  unfold namedM at hr
  by_cases hT : isT (cur ps q.next) 5 [40] = true
  · rw [if_pos hT] at hr
    go_enter Tryz.func134, Tryz.ntmps134
    go_wp2_with fail
    refine (peek_any _ _ _ _ _ _ _ h0).mono ?_
    rintro e w1 ⟨rfl, hb1⟩
    have h1 := h0.below hb1
    have hs1 := hb1.size
    simp at hs1
    go_wp2_with fail
    refine (is_any _ _ _ _).mono ?_
    rintro e w2 ⟨rfl, hb2⟩
    have h2 := h1.below hb2
    have hs2 := hb2.size
    go_wp2_with fail
    refine (call_any hE _ b bp cap T f hf q s r h2 hr).mono ?_
    intro e w3 hP
    have kk : Kept b w w2 := (((Kept.refl b w).alloc _).trans (Kept.of_below hb1)).trans (Kept.of_below hb2)
    have hx2 : w2.heap[w.heap.size]? = some (.cells #[.int .i64 0, .int .i64 0, .string ⟨#[]⟩, .slice none 0 0] 116 (0, 0)) := by
      rw [hb2.block _ (by omega), hb1.block _ (by simp)]; exact heap_alloc_new w _
    cases r with
    | inl k =>
      obtain ⟨k3, v, n', ⟨v0, v1, v2, a3, l3, c3, rfl⟩, rfl, hR⟩ := hP
      have hblk := (k3.block w.heap.size (by omega) (by omega)).trans hx2
      have hc := cells4 hblk
      have hz := thaw4 hblk
      go_wp2_with fail
      exact fin_expr Tryz.results134 rfl rfl rfl (store4 hblk _ _ _ _) (postE_bad h (kk.trans k3) (kept4 _ _ _ _ _ _) (Nat.le_refl _) hR)
    | inr x =>
      obtain ⟨k3, v, rfl, hA, hR⟩ := hP
      obtain ⟨v0, v1, v2, a3, l3, c3, rfl⟩ := hA.sh
      have hblk := (k3.block w.heap.size (by omega) (by omega)).trans hx2
      have hc := cells4 hblk
      have hz := thaw4 hblk
      have hA' : AnE (fun g => w.heap.size ≤ g ∧ g ≠ w.heap.size) w3 _ x.1 := hA.move fun g hg _ => ⟨by omega, rfl⟩
      clear hA
      go_wp2_with fail
      exact fin_expr Tryz.results134 rfl rfl rfl (store4 hblk _ _ _ _) (postE_ok h (kk.trans k3) (kept4 _ _ _ _ _ _) (Nat.le_refl _) hR hA')
  · rw [if_neg hT] at hr
    have hT' : isT (cur ps q.next) 5 [40] = false := by simpa using hT
    clear hT
    cases hr
    go_enter Tryz.func134, Tryz.ntmps134
    go_wp2_with fail
    refine (peek_any _ _ _ _ _ _ _ h0).mono ?_
    rintro e w1 ⟨rfl, hb1⟩
    have h1 := h0.below hb1
    have hs1 := hb1.size
    simp at hs1
    go_wp2_with fail
    refine (is_any _ _ _ _).mono ?_
    rintro e w2 ⟨rfl, hb2⟩
    have h2 := h1.below hb2
    have hs2 := hb2.size
    have kk : Kept b w w2 := (((Kept.refl b w).alloc _).trans (Kept.of_below hb1)).trans (Kept.of_below hb2)
    have hblk : w2.heap[w.heap.size]? = some (.cells #[.int .i64 0, .int .i64 0, .string ⟨#[]⟩, .slice none 0 0] 116 (0, 0)) := by
      rw [hb2.block _ (by omega), hb1.block _ (by simp)]; exact heap_alloc_new w _
    have hc := cells4 hblk
    have hz := thaw4 hblk
    have hA' : AnE (fun g => w.heap.size ≤ g ∧ g ≠ w.heap.size) w2 _ _ := AnE.mk 4 0 s [] ⟨[], .inl ⟨rfl, rfl, rfl⟩, trivial⟩
    go_wp2_with fail
    exact fin_expr Tryz.results134 rfl rfl rfl (store4 hblk _ _ _ _) (postE_ok h kk (kept4 _ _ _ _ _ _) (Nat.le_refl _) h2 hA')
end

section
open Go.RowKit
set_option linter.unusedSimpArgs false
set_option linter.unusedVariables false

theorem push_set (a : Array Obj) (o o' : Obj) : (a.push o).setIfInBounds a.size o' = a.push o' := by
  apply Array.ext_getElem?
  intro i
  simp [Array.getElem?_setIfInBounds, Array.getElem?_push]
  split
  · rename_i h; subst h; simp
  · rename_i h
    have : ¬ i = a.size := fun e => h e.symm
    simp [this]

theorem ins_alloc (w : World) (es : Array MapEntry) (c : Nat) (key : ByteArray) (val : Value) (hf : Instr.findNow .string (.string key) es.toList 0 = some none) :
    (Instr.mapUpdate 166 (.map (some w.heap.size)) (.string key) val).run Tryz.prog (w.alloc (.map es c)) = .ok () (w.alloc (.map (es.push { key := .string key, val := val, born := c }) (c + 1))) := by
  have hb : (w.alloc (.map es c)).heap[w.heap.size]? = some (.map es c) := heap_alloc_new w _
  have hc : (Instr.checkKey false 10000 9 (.string key)).run Tryz.prog (w.alloc (.map es c)) = .ok () (w.alloc (.map es c)) := MapKept.run_checkKey (k := .string key) Tryz.underlying9 (by simp [MapKept.IsKey]) false 9999
  have e : { (w.alloc (.map es c)) with heap := (w.alloc (.map es c)).heap.setIfInBounds w.heap.size (.map (es.push { key := .string key, val := val, born := c }) (c + 1)) } = w.alloc (.map (es.push { key := .string key, val := val, born := c }) (c + 1)) := by
    have := push_set w.heap (.map es c) (.map (es.push { key := .string key, val := val, born := c }) (c + 1))
    unfold World.alloc
    simp only [this]
  rw [← e]
  simp [Instr.mapUpdate, run_underlying Tryz.underlying166, MapKept.run_getObj_map hb, hc, MapKept.run_findKey Tryz.underlying9 hf, MapKept.run_setObj_map _ hb, Result.andThen]

def likeEs : Array MapEntry := #[{ key := .string ⟨#[108, 101, 110]⟩, val := .agg #[.int .i64 8, .int .i64 1], born := 0 }, { key := .string ⟨#[97, 112, 112, 101, 110, 100]⟩, val := .agg #[.int .i64 10, .int .i64 2], born := 1 },
  { key := .string ⟨#[115, 108, 105, 99, 101]⟩, val := .agg #[.int .i64 11, .int .i64 (-1)], born := 2 }, { key := .string ⟨#[109, 97, 112]⟩, val := .agg #[.int .i64 12, .int .i64 0], born := 3 }]

set_option maxHeartbeats 1000000 in
theorem callLikes_any (w : World) :
    Calls Tryz.prog 137 #[] w fun e w' => e = .returned (.map (some w.heap.size)) ∧ w' = w.alloc (.map likeEs 4) := by
  have hmm := @run_makeMap Tryz.prog
  have i1 := ins_alloc w #[] 0 ⟨#[108, 101, 110]⟩ (.agg #[.int .i64 8, .int .i64 1]) rfl
  have i2 := ins_alloc w #[{ key := .string ⟨#[108, 101, 110]⟩, val := .agg #[.int .i64 8, .int .i64 1], born := 0 }] 1 ⟨#[97, 112, 112, 101, 110, 100]⟩ (.agg #[.int .i64 10, .int .i64 2]) (by kernel_rfl)
  have i3 := ins_alloc w #[{ key := .string ⟨#[108, 101, 110]⟩, val := .agg #[.int .i64 8, .int .i64 1], born := 0 }, { key := .string ⟨#[97, 112, 112, 101, 110, 100]⟩, val := .agg #[.int .i64 10, .int .i64 2], born := 1 }] 2 ⟨#[115, 108, 105, 99, 101]⟩ (.agg #[.int .i64 11, .int .i64 (-1)]) (by kernel_rfl)
  have i4 := ins_alloc w #[{ key := .string ⟨#[108, 101, 110]⟩, val := .agg #[.int .i64 8, .int .i64 1], born := 0 }, { key := .string ⟨#[97, 112, 112, 101, 110, 100]⟩, val := .agg #[.int .i64 10, .int .i64 2], born := 1 }, { key := .string ⟨#[115, 108, 105, 99, 101]⟩, val := .agg #[.int .i64 11, .int .i64 (-1)], born := 2 }] 3 ⟨#[109, 97, 112]⟩ (.agg #[.int .i64 12, .int .i64 0]) (by kernel_rfl)
  simp only [List.push_toArray, List.cons_append, List.nil_append, Nat.reduceAdd] at i1 i2 i3 i4
  go_enter Tryz.func137, Tryz.ntmps137
  go_wp2
  go_ret
  exact ⟨rfl, rfl⟩

theorem bytes_beq (s t : List UInt8) : ((⟨s.toArray⟩ : ByteArray) == ⟨t.toArray⟩) = (s == t) := by
  rw [Bool.eq_iff_iff]
  show (s.toArray == t.toArray) = true ↔ _
  simp

theorem zeroLike (w : World) : (zeroValue 164).run Tryz.prog w = .ok (.agg #[.int .i64 0, .int .i64 0]) w := by kernel_rfl

def likeV (s : List UInt8) : Int × Int := (callLike s).getD (0, 0)

theorem find_like (s : List UInt8) : Instr.findNow .string (.string ⟨s.toArray⟩) likeEs.toList 0 = some (if s == [108, 101, 110] then some (0, .agg #[.int .i64 8, .int .i64 1]) else if s == [97, 112, 112, 101, 110, 100] then some (1, .agg #[.int .i64 10, .int .i64 2])
    else if s == [115, 108, 105, 99, 101] then some (2, .agg #[.int .i64 11, .int .i64 (-1)]) else if s == [109, 97, 112] then some (3, .agg #[.int .i64 12, .int .i64 0]) else none) := by
  simp only [likeEs, Instr.findNow, Instr.sameNow, bytes_beq]
  rcases (s == [108, 101, 110]) with _ | _ <;> rcases (s == [97, 112, 112, 101, 110, 100]) with _ | _ <;> rcases (s == [115, 108, 105, 99, 101]) with _ | _ <;> rcases (s == [109, 97, 112]) with _ | _ <;> rfl

theorem look_like (W : World) (B : Nat) (s : List UInt8) (hb : W.heap[B]? = some (.map likeEs 4)) :
    (Instr.lookup 166 (.map (some B)) (.string ⟨s.toArray⟩) true).run Tryz.prog W = .ok (.tuple #[.agg #[.int .i64 (likeV s).1, .int .i64 (likeV s).2], .bool (callLike s).isSome]) W := by
  have hc : ∀ e, (Instr.checkKey e 10000 9 (.string ⟨s.toArray⟩)).run Tryz.prog W = .ok () W := fun e => MapKept.run_checkKey (k := .string ⟨s.toArray⟩) Tryz.underlying9 (by simp [MapKept.IsKey]) e 9999
  have hf := MapKept.run_findKey (P := Tryz.prog) (w := W) Tryz.underlying9 (find_like s)
  unfold likeV callLike
  rcases h1 : (s == [108, 101, 110]) with _ | _ <;> rcases h2 : (s == [97, 112, 112, 101, 110, 100]) with _ | _ <;> rcases h3 : (s == [115, 108, 105, 99, 101]) with _ | _ <;> rcases h4 : (s == [109, 97, 112]) with _ | _ <;>
    simp only [h1, h2, h3, h4, Bool.false_eq_true, if_true, if_false] at hf ⊢ <;>
    simp [Instr.lookup, run_underlying Tryz.underlying166, MapKept.run_getObj_map hb, hc, hf, zeroLike, Result.andThen]
end

section
open Go.RowKit
set_option linter.unusedSimpArgs false
set_option linter.unusedVariables false

@[go_sem] theorem fld_like_0 (x0 x1 : Value) (w : World) : (Instr.field 164 (.agg #[x0, x1]) 0).run Tryz.prog w = .ok x0 w := by kernel_rfl
@[go_sem] theorem fld_like_1 (x0 x1 : Value) (w : World) : (Instr.field 164 (.agg #[x0, x1]) 1).run Tryz.prog w = .ok x1 w := by kernel_rfl

theorem heap_alloc3 (w : World) (o1 o2 o3 : Obj) : (((w.alloc o1).alloc o2).alloc o3).heap[w.heap.size + 2]? = some o3 := by
  have := heap_alloc_new ((w.alloc o1).alloc o2) o3
  simpa using this

theorem heap_alloc4 (w : World) (o1 o2 o3 o4 : Obj) : ((((w.alloc o1).alloc o2).alloc o3).alloc o4).heap[w.heap.size + 3]? = some o4 := by
  have := heap_alloc_new (((w.alloc o1).alloc o2).alloc o3) o4
  simpa using this

set_option maxHeartbeats 2000000 in
theorem keywordPart_any {ps : List Tok} {E : Nat → Nat → R Ex} (hE : SaidE ps E) (w : World) (b bp cap T f : Nat) (hf : f ≤ 1000000) (q : RS) (r : Sum (Int × Int) (Ex × Nat)) (h : Rdr w b bp cap T ps q)
    (hk : ((cur ps q.next).kind != 0) = true) (hr : keywordPartM ps E f q.depth q.next = some r) :
    Calls Tryz.prog 135 #[.pointer (some ⟨b, 0, none⟩), (cur ps q.next).val] w (PostE b bp cap T ps q w r) := by
  have hbs := h.bsize
  have hps := h.lt
  have hfar := h.far
  have h0 := fun o1 o2 => h.below (((Below.refl w.heap.size w).alloc (Nat.le_refl _) o1).alloc (by simp) o2)
  unfold keywordPartM at hr
  unfold Tok.val
  by_cases h1 : ((cur ps q.next).s == [116, 114, 117, 101]) = true
  · rw [if_pos h1] at hr
    cases hr
    go_enter Tryz.func135, Tryz.ntmps135
    go_wp2_with fail
    refine (step_any _ _ _ _ _ _ _ (h0 _ _) hk).mono ?_
    rintro e w1 ⟨rfl, hR, k1⟩
    have hblk := (k1.block (w.heap.size + 1) (by simp) (by omega)).trans (heap_alloc2 w _ _).2
    have hc := cells4 hblk
    have hz := thaw4 hblk
    have hA' : AnE (fun g => w.heap.size ≤ g ∧ g ≠ w.heap.size + 1) w1 _ _ := AnE.mk 3 1 [] [] ⟨[], .inl ⟨rfl, rfl, rfl⟩, trivial⟩
    go_wp2_with fail
    exact fin_expr Tryz.results135 rfl rfl rfl (store4 hblk _ _ _ _) (postE_ok h ((((Kept.refl _ _).alloc _).alloc _).trans k1) (kept4 _ _ _ _ _ _) (by omega) hR hA')
  · rw [if_neg h1] at hr
    have h1' : ((cur ps q.next).s == [116, 114, 117, 101]) = false := by simpa using h1
    clear h1
    by_cases h2 : ((cur ps q.next).s == [102, 97, 108, 115, 101]) = true
    · rw [if_pos h2] at hr
      cases hr
      go_enter Tryz.func135, Tryz.ntmps135
      go_wp2_with fail
      refine (step_any _ _ _ _ _ _ _ (h0 _ _) hk).mono ?_
      rintro e w1 ⟨rfl, hR, k1⟩
      have hblk := (k1.block (w.heap.size + 1) (by simp) (by omega)).trans (heap_alloc2 w _ _).2
      have hc := cells4 hblk
      have hz := thaw4 hblk
      have hA' : AnE (fun g => w.heap.size ≤ g ∧ g ≠ w.heap.size + 1) w1 _ _ := AnE.mk 3 0 [] [] ⟨[], .inl ⟨rfl, rfl, rfl⟩, trivial⟩
      go_wp2_with fail
      exact fin_expr Tryz.results135 rfl rfl rfl (store4 hblk _ _ _ _) (postE_ok h ((((Kept.refl _ _).alloc _).alloc _).trans k1) (kept4 _ _ _ _ _ _) (by omega) hR hA')
    · rw [if_neg h2] at hr
      have h2' : ((cur ps q.next).s == [102, 97, 108, 115, 101]) = false := by simpa using h2
      clear h2
      generalize hkk : (likeV (cur ps q.next).s).1 = kk
      generalize hcc : (likeV (cur ps q.next).s).2 = cc
      generalize hfd : (callLike (cur ps q.next).s).isSome = fd
      have hlk : ∀ (W : World) (B : Nat), W.heap[B]? = some (.map likeEs 4) → (Instr.lookup 166 (.map (some B)) (.string ⟨(cur ps q.next).s.toArray⟩) true).run Tryz.prog W = .ok (.tuple #[.agg #[.int .i64 kk, .int .i64 cc], .bool fd]) W := by
        intro W B hB
        rw [look_like W B _ hB, hkk, hcc, hfd]
      have HKK : Hid ((likeV (cur ps q.next).s).1 = kk) := hkk
      have HCC : Hid ((likeV (cur ps q.next).s).2 = cc) := hcc
      have HFD : Hid ((callLike (cur ps q.next).s).isSome = fd) := hfd
      clear hkk hcc hfd
      go_enter Tryz.func135, Tryz.ntmps135
      go_wp2_with fail
      go_cut [6, 7] (fun s6 s7 wc => ∃ cb, s6 = .pointer (some ⟨cb, 0, none⟩) ∧ s7 = .bool fd ∧ w.heap.size + 2 ≤ cb ∧ wc.heap[cb]? = some (.cells #[.int .i64 kk, .int .i64 cc] 164 (0, 0)) ∧
        Below (w.heap.size + 2) ((w.alloc (.cells #[.int .i64 (cur ps q.next).kind, .int .i64 (cur ps q.next).at_, .int .i64 (cur ps q.next).n, .string ⟨(cur ps q.next).s.toArray⟩] 69)).alloc (.cells #[.int .i64 0, .int .i64 0, .string ⟨#[]⟩, .slice none 0 0] 116)) wc)
      case first =>
        have hl1 := hlk ((((w.alloc (.cells #[.int .i64 (cur ps q.next).kind, .int .i64 (cur ps q.next).at_, .int .i64 (cur ps q.next).n, .string ⟨(cur ps q.next).s.toArray⟩] 69)).alloc (.cells #[.int .i64 0, .int .i64 0, .string ⟨#[]⟩, .slice none 0 0] 116)).alloc (.map likeEs 4)).drew) (w.heap.size + 2) (blk_drew (heap_alloc3 w _ _ _))
        have hl2 := hlk (((((w.alloc (.cells #[.int .i64 (cur ps q.next).kind, .int .i64 (cur ps q.next).at_, .int .i64 (cur ps q.next).n, .string ⟨(cur ps q.next).s.toArray⟩] 69)).alloc (.cells #[.int .i64 0, .int .i64 0, .string ⟨#[]⟩, .slice none 0 0] 116)).alloc (.map likeEs 4)).alloc (.cells #[.int .i64 0, .int .i64 0] 164)).drew) (w.heap.size + 2) (blk_drew (blk_alloc (heap_alloc3 w _ _ _) _))
        have hl3 := hlk (((((w.alloc (.cells #[.int .i64 (cur ps q.next).kind, .int .i64 (cur ps q.next).at_, .int .i64 (cur ps q.next).n, .string ⟨(cur ps q.next).s.toArray⟩] 69)).alloc (.cells #[.int .i64 0, .int .i64 0, .string ⟨#[]⟩, .slice none 0 0] 116)).alloc (.cells #[.int .i64 0, .int .i64 0] 164)).alloc (.map likeEs 4)).drew) (w.heap.size + 3) (blk_drew (heap_alloc4 w _ _ _ _))
        clear hlk
        go_region_with (go_at_call 137; refine (callLikes_any _).mono ?_; rintro e w1 ⟨rfl, rfl⟩)
        all_goals
          go_wp2_with fail
          go_meet
          case rel =>
            first
              | exact ⟨_, rfl, rfl, by omega, blk_drew (heap_alloc4 w _ _ _ _), ((((Below.refl _ _).alloc (by simp) _).alloc (by simp) _).drew)⟩
              | exact ⟨_, rfl, rfl, by omega, blk_drew (blk_alloc (heap_alloc3 w _ _ _) _), ((((Below.refl _ _).alloc (by simp) _).alloc (by simp) _).drew)⟩
      case rest =>
        obtain ⟨cb, rfl, rfl, hcb, hcl, hbw⟩ := hcut
        have hpb := (hbw.block w.heap.size (by omega)).trans (heap_alloc2 w _ _).1
        have hxb := (hbw.block (w.heap.size + 1) (by omega)).trans (heap_alloc2 w _ _).2
        have hRc := (h0 _ _).below (by simpa using hbw)
        have kc : Kept b w wc := (((Kept.refl b w).alloc _).alloc _).trans (Kept.of_below (by simpa using hbw))
        have hsz := hbw.size
        simp at hsz
        have hcbs : cb < wc.heap.size := by
          rcases Nat.lt_or_ge cb wc.heap.size with hb | hb
          · exact hb
          · rw [Array.getElem?_eq_none hb] at hcl; cases hcl
        have hx4 := cells4 hxb
        have hxz := thaw4 hxb
        rcases hcl2 : callLike (cur ps q.next).s with _ | ⟨k, c⟩
        · rw [hcl2] at hr
          cases hr
          have hfd : fd = false := by rw [← HFD.out, hcl2]; rfl
          subst hfd
          clear hlk
          go_wp2_with fail
          refine (refuse_any _ _ _ _ _ _ _ hRc).mono ?_
          rintro e w1 ⟨rfl, hR, k1⟩
          have hblk := (k1.block (w.heap.size + 1) (by omega) (by omega)).trans hxb
          have hc := cells4 hblk
          have hz := thaw4 hblk
          go_wp2_with fail
          exact fin_expr Tryz.results135 rfl rfl rfl (store4 hblk _ _ _ _) (postE_bad h (kc.trans k1) (kept4 _ _ _ _ _ _) (by omega) hR)
        · rw [hcl2] at hr
          have hfd : fd = true := by rw [← HFD.out, hcl2]; rfl
          have hkk : kk = k := by rw [← HKK.out, likeV, hcl2]; rfl
          have hcc : cc = c := by rw [← HCC.out, likeV, hcl2]; rfl
          subst hfd hkk hcc
          clear hlk HKK HCC HFD
          go_wp2_with fail
          refine (step_any _ _ _ _ _ _ _ hRc hk).mono ?_
          rintro e w1 ⟨rfl, hR1, k1⟩
          have hs1 := k1.size
          go_wp2_with fail
          rcases bindR_some hr with ⟨er, h5, rfl⟩ | ⟨l, n5, h5, h6⟩
          · refine (arguments_any hE _ b bp cap T f hf _ _ hR1 h5).mono ?_
            rintro e w2 ⟨k2, a, l, c, n', rfl, hR⟩
            have hblk := (k2.block (w.heap.size + 1) (by omega) (by omega)).trans ((k1.block (w.heap.size + 1) (by omega) (by omega)).trans hxb)
            have hc := cells4 hblk
            have hz := thaw4 hblk
            have hcb2 := (k2.block cb (by omega) (by omega)).trans ((k1.block cb (by omega) (by omega)).trans hcl)
            have c0 : w2.cell? ⟨cb, 0, none⟩ = some (.int .i64 kk) := by simp [World.cell?, hcb2]
            have c1 : w2.cell? ⟨cb, 1, none⟩ = some (.int .i64 cc) := by simp [World.cell?, hcb2]
            go_wp2_with fail
            exact fin_expr Tryz.results135 rfl rfl rfl (store4 hblk _ _ _ _) (postE_bad h (kc.trans (k1.trans k2)) (kept4 _ _ _ _ _ _) (by omega) hR)
          · refine (arguments_any hE _ b bp cap T f hf _ _ hR1 h5).mono ?_
            rintro e w2 ⟨k2, a, c, rfl, hA, hR⟩
            have hs2 := k2.size
            have hblk := (k2.block (w.heap.size + 1) (by omega) (by omega)).trans ((k1.block (w.heap.size + 1) (by omega) (by omega)).trans hxb)
            have hc := cells4 hblk
            have hz := thaw4 hblk
            have hcb2 := (k2.block cb (by omega) (by omega)).trans ((k1.block cb (by omega) (by omega)).trans hcl)
            have hpb2 := (k2.block w.heap.size (by omega) (by omega)).trans ((k1.block w.heap.size (by omega) (by omega)).trans hpb)
            obtain ⟨_, p1, _, _⟩ := cells4 hpb2
            have c0 : w2.cell? ⟨cb, 0, none⟩ = some (.int .i64 kk) := by simp [World.cell?, hcb2]
            have c1 : w2.cell? ⟨cb, 1, none⟩ = some (.int .i64 cc) := by simp [World.cell?, hcb2]
            by_cases hcnt : countBad cc l.length = true
            · rw [if_pos hcnt] at h6
              cases h6
              have hb1 : (cc != -1) = true := by simp [countBad] at hcnt; simpa using hcnt.1
              have hb2 : ((l.length : Int) != cc) = true := by simp [countBad] at hcnt; simpa using hcnt.2
              go_wp2_with fail
              refine (fail_any _ _ _ _ _ _ _ _ _ hR).mono ?_
              rintro e w3 ⟨rfl, hR3, k3⟩
              have hblk3 := (k3.block (w.heap.size + 1) (by omega) (by omega)).trans hblk
              have hc3 := cells4 hblk3
              have hz3 := thaw4 hblk3
              have hcb3 := (k3.block cb (by omega) (by omega)).trans hcb2
              have c03 : w3.cell? ⟨cb, 0, none⟩ = some (.int .i64 kk) := by simp [World.cell?, hcb3]
              go_wp2_with fail
              exact fin_expr Tryz.results135 rfl rfl rfl (store4 hblk3 _ _ _ _) (postE_bad h (kc.trans (k1.trans (k2.trans k3))) (kept4 _ _ _ _ _ _) (by omega) hR3)
            · rw [if_neg hcnt] at h6
              cases h6
              have hA' : AnE (fun g => w.heap.size ≤ g ∧ g ≠ w.heap.size + 1) w2 _ _ := AnE.mk kk 0 [] l (hA.weak (S' := fun g => w.heap.size ≤ g ∧ g ≠ w.heap.size + 1) (Q := AnE (fun g => w.heap.size ≤ g ∧ g ≠ w.heap.size + 1) w2) (fun g hg => by omega) (fun u x hx => hx.move fun g hg _ => ⟨by omega, rfl⟩))
              clear hA
              rcases hb1 : (cc != -1) with _ | _
              · go_wp2_with fail
                exact fin_expr Tryz.results135 rfl rfl rfl (store4 hblk _ _ _ _) (postE_ok h (kc.trans (k1.trans k2)) (kept4 _ _ _ _ _ _) (by omega) hR hA')
              · have hb2 : ((l.length : Int) != cc) = false := by
                  simp only [countBad, hb1, Bool.true_and] at hcnt
                  simpa using hcnt
                go_wp2_with fail
                exact fin_expr Tryz.results135 rfl rfl rfl (store4 hblk _ _ _ _) (postE_ok h (kc.trans (k1.trans k2)) (kept4 _ _ _ _ _ _) (by omega) hR hA')
end

end Go.Proofs.YtbpnfoihonehgabGreatDoor
