/-
  Ends.
-/
import Derived.Test.YtbpnfoihonehgabGreatDoorTzA
namespace Go.Proofs.YtbpnfoihonehgabGreatDoor
open Go.RowKit Go.Maps
set_option linter.unusedSimpArgs false
set_option linter.unusedVariables false

def allB (B : Nat → Bool) (n : Nat) : Bool := (List.range n).all B

theorem allB_true {B : Nat → Bool} {n : Nat} (h : ∀ j, j < n → B j = true) : allB B n = true := by
  unfold allB; rw [List.all_eq_true]; intro x hx; exact h x (by simpa using hx)

theorem allB_false {B : Nat → Bool} {n i : Nat} (hi : i < n) (h : B i = false) : allB B n = false := by
  unfold allB; rw [List.all_eq_false]; exact ⟨i, by simpa using hi, by simp [h]⟩

/-- seven cells in a row -/
structure Seven (w : World) (g o : Nat) (v0 v1 v2 v3 v4 v5 v6 : Value) : Prop where
  c0 : w.cell? ⟨g, o, none⟩ = some v0
  c1 : w.cell? ⟨g, o + 1, none⟩ = some v1
  c2 : w.cell? ⟨g, o + 2, none⟩ = some v2
  c3 : w.cell? ⟨g, o + 3, none⟩ = some v3
  c4 : w.cell? ⟨g, o + 4, none⟩ = some v4
  c5 : w.cell? ⟨g, o + 5, none⟩ = some v5
  c6 : w.cell? ⟨g, o + 6, none⟩ = some v6

theorem Seven.lt {w : World} {g o : Nat} {v0 v1 v2 v3 v4 v5 v6 : Value} (h : Seven w g o v0 v1 v2 v3 v4 v5 v6) : g < w.heap.size := World.block_lt_of_cell? w ⟨g, o, none⟩ h.c0

theorem Seven.below {w w' : World} {g o : Nat} {v0 v1 v2 v3 v4 v5 v6 : Value} (h : Seven w g o v0 v1 v2 v3 v4 v5 v6) (k : Below w.heap.size w w') : Seven w' g o v0 v1 v2 v3 v4 v5 v6 := by
  have hl := h.lt
  have e : ∀ j, w'.cell? ⟨g, j, none⟩ = w.cell? ⟨g, j, none⟩ := fun j => k.cell (p := ⟨g, j, none⟩) hl
  exact ⟨by rw [e]; exact h.c0, by rw [e]; exact h.c1, by rw [e]; exact h.c2, by rw [e]; exact h.c3, by rw [e]; exact h.c4, by rw [e]; exact h.c5, by rw [e]; exact h.c6⟩

/-- the cases of a switch: the numbers, the block -/
def CasesAt (P : Value → Bool → Prop) (w : World) (ac : Option Addr) (lc : Nat) (V : Nat → Value) (B : Nat → Bool) : Prop :=
  ∀ i, i < lc → ∃ g o x, ac = some ⟨g, o, none⟩ ∧ w.cell? ⟨g, o + i * 2, none⟩ = some x ∧ w.cell? ⟨g, o + i * 2 + 1, none⟩ = some (V i) ∧ (∃ a l c, V i = .slice a l c) ∧ (∃ a l c, x = .slice a l c) ∧ P (V i) (B i)

/-- how a block lies in memory, at most n deep, and whether it ends -/
def EndsV : Nat → World → Value → Bool → Prop
  | 0, _, _, _ => False
  | n + 1, w, v, b => (∃ a cap, v = .slice a 0 cap ∧ b = false) ∨
    ∃ (g off len cap : Nat) (k : Int) (s t : ByteArray) (ax : Option Addr) (lx cx : Nat) (ab : Option Addr) (lb cb : Nat) (ae : Option Addr) (le ce : Nat) (ac : Option Addr) (lc cc : Nat) (b1 b2 : Bool) (V : Nat → Value) (B : Nat → Bool),
      v = .slice (some ⟨g, off, none⟩) (len + 1) cap ∧ len + 1 ≤ maxLen ∧ lc ≤ maxLen ∧
      Seven w g (off + len * 7) (.int .i64 k) (.string s) (.string t) (.slice ax lx cx) (.slice ab lb cb) (.slice ae le ce) (.slice ac lc cc) ∧
      EndsV n w (.slice ab lb cb) b1 ∧ EndsV n w (.slice ae le ce) b2 ∧ CasesAt (EndsV n w) w ac lc V B ∧
      b = (k == 8 || (k == 4 && (b1 && b2)) || (k == 7 && (allB B lc && b2)))

theorem CasesAt.imp {P Q : Value → Bool → Prop} {w : World} {ac : Option Addr} {lc : Nat} {V : Nat → Value} {B : Nat → Bool} (h : CasesAt P w ac lc V B) (hp : ∀ v b, P v b → Q v b) : CasesAt Q w ac lc V B := by
  intro i hi
  obtain ⟨g, o, x, h1, h2, h3, h4, h5, h6⟩ := h i hi
  exact ⟨g, o, x, h1, h2, h3, h4, h5, hp _ _ h6⟩

theorem CasesAt.below {P Q : Value → Bool → Prop} {w w' : World} {ac : Option Addr} {lc : Nat} {V : Nat → Value} {B : Nat → Bool} (h : CasesAt P w ac lc V B) (k : Below w.heap.size w w') (hp : ∀ v b, P v b → Q v b) : CasesAt Q w' ac lc V B := by
  intro i hi
  obtain ⟨g, o, x, h1, h2, h3, h4, h5, h6⟩ := h i hi
  have hl : g < w.heap.size := World.block_lt_of_cell? w ⟨g, o + i * 2, none⟩ h2
  exact ⟨g, o, x, h1, by rw [k.cell (p := ⟨g, o + i * 2, none⟩) hl]; exact h2, by rw [k.cell (p := ⟨g, o + i * 2 + 1, none⟩) hl]; exact h3, h4, h5, hp _ _ h6⟩

theorem EndsV.below {w w' : World} (k : Below w.heap.size w w') : ∀ (n : Nat) (v : Value) (b : Bool), EndsV n w v b → EndsV n w' v b
  | 0, _, _, h => h.elim
  | n + 1, v, b, .inl h => .inl h
  | n + 1, v, b, .inr ⟨g, off, len, cap, kk, s, t, ax, lx, cx, ab, lb, cb, ae, le, ce, ac, lc, cc, b1, b2, V, B, h1, h2, h3, h4, h5, h6, h7, h8⟩ =>
    .inr ⟨g, off, len, cap, kk, s, t, ax, lx, cx, ab, lb, cb, ae, le, ce, ac, lc, cc, b1, b2, V, B, h1, h2, h3, h4.below k, EndsV.below k n _ _ h5, EndsV.below k n _ _ h6, h7.below k (EndsV.below k n), h8⟩

theorem EndsV.up {w : World} : ∀ (n : Nat) (v : Value) (b : Bool), EndsV n w v b → EndsV (n + 1) w v b
  | 0, _, _, h => h.elim
  | n + 1, v, b, .inl h => .inl h
  | n + 1, v, b, .inr ⟨g, off, len, cap, kk, s, t, ax, lx, cx, ab, lb, cb, ae, le, ce, ac, lc, cc, b1, b2, V, B, h1, h2, h3, h4, h5, h6, h7, h8⟩ =>
    .inr ⟨g, off, len, cap, kk, s, t, ax, lx, cx, ab, lb, cb, ae, le, ce, ac, lc, cc, b1, b2, V, B, h1, h2, h3, h4, EndsV.up n _ _ h5, EndsV.up n _ _ h6, h7.imp (EndsV.up n), h8⟩

theorem EndsV.le {w : World} {n m : Nat} (h : n ≤ m) {v : Value} {b : Bool} (hx : EndsV n w v b) : EndsV m w v b := by
  induction h with
  | refl => exact hx
  | step _ ih => exact EndsV.up _ _ _ ih

theorem below_alloc (w : World) (o : Obj) : Below w.heap.size w (w.alloc o) := (Below.refl _ _).alloc (Nat.le_refl _) _

theorem four7 {k : Int} (h : (k == 4) = true) : (k == 7) = false := by
  have : k = 4 := by simpa using h
  subst this; rfl


set_option maxHeartbeats 2000000 in
theorem ends_any : ∀ (n : Nat) (v : Value) (b : Bool) (w : World), EndsV n w v b →
    Calls Tryz.prog 9 #[v] w fun e w' => e = .returned (.bool b) ∧ Below w.heap.size w w' := by
  intro n
  induction n with
  | zero => intro v b w h; exact h.elim
  | succ n ih =>
    intro v b w h
    rcases h with ⟨a, cap, rfl, rfl⟩ | ⟨g, off, len, cap, k, s, t, ax, lx, cx, ab, lb, cb, ae, le, ce, ac, lc, cc, b1, b2, V, B, rfl, hlen, hlc, h7, hb1, hb2, hcs, hb⟩
    · go_enter Tryz.func9, Tryz.ntmps9
      go_wp2_with fail
      go_ret
      exact ⟨rfl, Below.refl _ _⟩
    · unfold maxLen at hlen hlc
      obtain ⟨c0, c1, c2, c3, c4, c5, c6⟩ := h7
      have HIH : Hid (_) := ih
      have HB : Hid (_) := hb
      have HB1 : Hid (_) := hb1
      have HB2 : Hid (_) := hb2
      have HCS : Hid (_) := hcs
      clear hb hb1 hb2 hcs ih
      have hl0 : (((len + 1 : Nat) : Int) == 0) = false := by simpa using (show ((len + 1 : Nat) : Int) ≠ 0 by omega)
      rcases h8 : (k == 8) with _ | _
      · rcases h4 : (k == 4) with _ | _
        · rcases h7 : (k == 7) with _ | _
          · go_enter Tryz.func9, Tryz.ntmps9
            go_wp2_with fail
            go_ret
            exact ⟨by rw [HB.out, h8, h4, h7]; rfl, below_alloc _ _⟩
          · go_enter Tryz.func9, Tryz.ntmps9
            go_wp2_with fail
            go_loopg [34] lc (fun g' s34 wr => ∃ i : Nat, s34 = .int .i64 (i : Nat) ∧ i + g' = lc ∧ Hid (Below w.heap.size w wr) ∧ Hid (wr.heap[w.heap.size]? = some (.cells #[.int .i64 k, .string s, .string t, .slice ax lx cx, .slice ab lb cb, .slice ae le ce, .slice ac lc cc] 63)) ∧ Hid (w.heap.size < wr.heap.size) ∧ Hid (∀ j, j < i → B j = true))
            case atStart => exact ⟨0, rfl, by omega, below_alloc _ _, heap_alloc_new w _, by unfold Hid; simp, fun j hj => absurd hj (by omega)⟩
            case round =>
              obtain ⟨i, rfl, hi, HW, HK, HZ, HJ⟩ := hrel
              obtain ⟨q0, q1, q2, q3, q4, q5, q6⟩ := cells7 HK.out
              cases gk with
              | zero =>
                have hil : i = lc := by omega
                subst hil
                go_wp2_with fail
                refine (HIH.out _ b2 _ (EndsV.below HW.out _ _ _ HB2.out)).mono ?_
                rintro e w3 ⟨rfl, hw3⟩
                have HW3 : Hid (Below w.heap.size w w3) := below_after HW.out hw3
                clear hw3
                go_wp2_with fail
                go_ret
                exact ⟨by rw [HB.out, h8, h4, h7, allB_true HJ.out]; simp, HW3.out⟩
              | succ g' =>
                have hilt : i < lc := by omega
                have hlt : (i : Int) < (lc : Int) := by omega
                obtain ⟨gc, oc, x, rfl, hx, hv, ⟨a1, l1, d1, hva⟩, ⟨a2, l2, d2, rfl⟩, hP⟩ := HCS.out i hilt
                rw [hva] at hv hP
                have hgl : gc < w.heap.size := World.block_lt_of_cell? w ⟨gc, oc + i * 2, none⟩ hx
                rw [← HW.out.cell (p := ⟨gc, oc + i * 2, none⟩) hgl] at hx
                rw [← HW.out.cell (p := ⟨gc, oc + i * 2 + 1, none⟩) hgl] at hv
                have HP : Hid (_) := hP
                clear hP hva hgl c0 c1 c2 c3 c4 c5 c6
                go_wp2_with fail
                refine (HIH.out _ (B i) _ (EndsV.below (below_after HW.out (below_alloc _ _)) _ _ _ HP.out)).mono ?_
                rintro e w3 ⟨rfl, hw3⟩
                have HW3 : Hid (Below w.heap.size w w3) := below_after (below_after HW.out (below_alloc _ _)) hw3
                have HK3 : Hid (w3.heap[w.heap.size]? = _) := (hw3.block w.heap.size (by have := HZ.out; simp; omega)).trans (blk_alloc HK.out _)
                have HZ3 : Hid (w.heap.size < w3.heap.size) := by have := HZ.out; have := hw3.size; simp at this; unfold Hid; omega
                clear hw3
                rcases hBi : B i with _ | _
                · go_wp2_with fail
                  go_ret
                  exact ⟨by rw [HB.out, h8, h4, h7, allB_false hilt hBi]; simp, HW3.out⟩
                · go_wp2_with fail
                  go_roundg g'
                  case measure => omega
                  case rel =>
                    refine ⟨i + 1, by go_num, by omega, HW3, HK3, HZ3, fun j hj => ?_⟩
                    rcases Nat.lt_or_ge j i with h | h
                    · exact HJ.out j h
                    · have : j = i := by omega
                      subst this; exact hBi
        · go_enter Tryz.func9, Tryz.ntmps9
          go_wp2_with fail
          refine (HIH.out _ b1 _ (EndsV.below (below_alloc _ _) _ _ _ HB1.out)).mono ?_
          rintro e w2 ⟨rfl, hw2⟩
          have hblk := (hw2.block w.heap.size (by simp)).trans (heap_alloc_new w (.cells #[.int .i64 k, .string s, .string t, .slice ax lx cx, .slice ab lb cb, .slice ae le ce, .slice ac lc cc] 63))
          obtain ⟨q0, q1, q2, q3, q4, q5, q6⟩ := cells7 hblk
          have HW2 : Hid (Below w.heap.size w w2) := below_after (below_alloc _ _) hw2
          clear hw2 hblk
          cases b1 with
          | false =>
            go_wp2_with fail
            go_ret
            exact ⟨by rw [HB.out, h8, h4, four7 h4]; rfl, HW2.out⟩
          | true =>
            go_wp2_with fail
            refine (HIH.out _ b2 _ (EndsV.below HW2.out _ _ _ HB2.out)).mono ?_
            rintro e w3 ⟨rfl, hw3⟩
            have HW3 : Hid (Below w.heap.size w w3) := below_after HW2.out hw3
            clear hw3
            go_wp2_with fail
            go_ret
            exact ⟨by rw [HB.out, h8, h4, four7 h4]; simp, HW3.out⟩
      · go_enter Tryz.func9, Tryz.ntmps9
        go_wp2_with fail
        go_ret
        exact ⟨by rw [HB.out, h8]; rfl, below_alloc _ _⟩

end Go.Proofs.YtbpnfoihonehgabGreatDoor
