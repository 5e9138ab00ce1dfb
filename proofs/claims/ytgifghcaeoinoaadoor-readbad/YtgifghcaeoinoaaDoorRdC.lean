/-
  The reader's small methods, by the contracts of the smallest: skip, refuse, mark, keyword, name, enter.
-/
import Derived.Test.YtgifghcaeoinoaaDoorRdB
namespace Go.Proofs.YtgifghcaeoinoaaDoor
open Go.RowKit
set_option linter.unusedSimpArgs false
set_option linter.unusedVariables false

theorem kind_of_isT {t : Tok} {k : Int} {s : List UInt8} (h : isT t k s = true) : t.kind = k := by
  simp [isT] at h; exact h.1

set_option maxHeartbeats 400000 in
theorem skip_yes (w : World) (b bp cap T : Nat) (ps : List Tok) (q : RS) (k : Int) (s : List UInt8) (h : Rdr w b bp cap T ps q) (hk : (k == 0) = false) (hT : isT (cur ps q.next) k s = true) :
    Calls Tryd.prog 74 #[.pointer (some ⟨b, 0, none⟩), .int .i64 k, .string ⟨s.toArray⟩] w fun e w' => e = .returned (.bool true) ∧ Rdr w' b bp cap T ps { q with next := q.next + 1 } ∧ Kept b w w' := by
  have hkk : ((cur ps q.next).kind != 0) = true := by rw [kind_of_isT hT]; simp at hk ⊢; exact hk
  go_enter Tryd.func74, Tryd.ntmps74
  go_wp2_with fail
  refine (peek_any _ _ _ _ _ _ _ h).mono ?_
  rintro e w1 ⟨rfl, hb1⟩
  have h1 := h.below hb1
  go_wp2_with fail
  refine (is_any _ _ _ _).mono ?_
  rintro e w2 ⟨rfl, hb2⟩
  have h2 := h1.below hb2
  go_wp2_with fail
  refine (step_any _ _ _ _ _ _ _ h2 hkk).mono ?_
  rintro e w3 ⟨rfl, h3, k3⟩
  go_wp2_with fail
  go_ret
  exact ⟨rfl, h3, ((Kept.of_below hb1).trans (Kept.of_below hb2)).trans k3⟩

set_option maxHeartbeats 400000 in
theorem skip_no (w : World) (b bp cap T : Nat) (ps : List Tok) (q : RS) (k : Int) (s : List UInt8) (h : Rdr w b bp cap T ps q) (hT : isT (cur ps q.next) k s = false) :
    Calls Tryd.prog 74 #[.pointer (some ⟨b, 0, none⟩), .int .i64 k, .string ⟨s.toArray⟩] w fun e w' => e = .returned (.bool false) ∧ Rdr w' b bp cap T ps q ∧ Kept b w w' := by
  go_enter Tryd.func74, Tryd.ntmps74
  go_wp2_with fail
  refine (peek_any _ _ _ _ _ _ _ h).mono ?_
  rintro e w1 ⟨rfl, hb1⟩
  have h1 := h.below hb1
  go_wp2_with fail
  refine (is_any _ _ _ _).mono ?_
  rintro e w2 ⟨rfl, hb2⟩
  have h2 := h1.below hb2
  go_wp2_with fail
  go_ret
  exact ⟨rfl, h2, (Kept.of_below hb1).trans (Kept.of_below hb2)⟩

set_option maxHeartbeats 400000 in
theorem refuse_any (w : World) (b bp cap T : Nat) (ps : List Tok) (q : RS) (h : Rdr w b bp cap T ps q) :
    Calls Tryd.prog 75 #[.pointer (some ⟨b, 0, none⟩)] w fun e w' => e = .returned (.bool false) ∧ Rdr w' b bp cap T ps { q with at_ := (refuseM ps q.next).1, errno := (refuseM ps q.next).2 } ∧ Kept b w w' := by
  unfold refuseM
  rcases hk : ((cur ps q.next).kind == 0) with _ | _ <;>
  (go_enter Tryd.func75, Tryd.ntmps75
   go_wp2_with fail
   refine (peek_any _ _ _ _ _ _ _ h).mono ?_
   rintro e w1 ⟨rfl, hb1⟩
   have h1 := h.below hb1
   unfold Tok.val
   go_wp2_with fail
   refine (fail_any _ _ _ _ _ _ _ _ _ (h1.below ((Below.refl _ _).alloc (Nat.le_refl _) _))).mono ?_
   rintro e w2 ⟨rfl, h2, k2⟩
   go_wp2_with fail
   go_ret
   exact ⟨rfl, h2, ((Kept.of_below hb1).trans (Kept.of_below ((Below.refl _ _).alloc (Nat.le_refl _) _))).trans k2⟩)

set_option maxHeartbeats 400000 in
theorem mark_yes (w : World) (b bp cap T : Nat) (ps : List Tok) (q : RS) (s : List UInt8) (h : Rdr w b bp cap T ps q) (hT : isT (cur ps q.next) 5 s = true) :
    Calls Tryd.prog 79 #[.pointer (some ⟨b, 0, none⟩), .string ⟨s.toArray⟩] w fun e w' => e = .returned (.bool true) ∧ Rdr w' b bp cap T ps { q with next := q.next + 1 } ∧ Kept b w w' := by
  go_enter Tryd.func79, Tryd.ntmps79
  go_wp2_with fail
  refine (skip_yes _ _ _ _ _ _ _ _ _ h rfl hT).mono ?_
  rintro e w1 ⟨rfl, h1, k1⟩
  go_wp2_with fail
  go_ret
  exact ⟨rfl, h1, k1⟩

set_option maxHeartbeats 400000 in
theorem mark_no (w : World) (b bp cap T : Nat) (ps : List Tok) (q : RS) (s : List UInt8) (h : Rdr w b bp cap T ps q) (hT : isT (cur ps q.next) 5 s = false) :
    Calls Tryd.prog 79 #[.pointer (some ⟨b, 0, none⟩), .string ⟨s.toArray⟩] w fun e w' => e = .returned (.bool false) ∧ Rdr w' b bp cap T ps { q with at_ := (refuseM ps q.next).1, errno := (refuseM ps q.next).2 } ∧ Kept b w w' := by
  go_enter Tryd.func79, Tryd.ntmps79
  go_wp2_with fail
  refine (skip_no _ _ _ _ _ _ _ _ _ h hT).mono ?_
  rintro e w1 ⟨rfl, h1, k1⟩
  go_wp2_with fail
  refine (refuse_any _ _ _ _ _ _ _ h1).mono ?_
  rintro e w2 ⟨rfl, h2, k2⟩
  go_wp2_with fail
  go_ret
  exact ⟨rfl, h2, k1.trans k2⟩

set_option maxHeartbeats 400000 in
theorem keyword_yes (w : World) (b bp cap T : Nat) (ps : List Tok) (q : RS) (s : List UInt8) (h : Rdr w b bp cap T ps q) (hT : isT (cur ps q.next) 2 s = true) :
    Calls Tryd.prog 57 #[.pointer (some ⟨b, 0, none⟩), .string ⟨s.toArray⟩] w fun e w' => e = .returned (.bool true) ∧ Rdr w' b bp cap T ps { q with next := q.next + 1 } ∧ Kept b w w' := by
  go_enter Tryd.func57, Tryd.ntmps57
  go_wp2_with fail
  refine (skip_yes _ _ _ _ _ _ _ _ _ h rfl hT).mono ?_
  rintro e w1 ⟨rfl, h1, k1⟩
  go_wp2_with fail
  go_ret
  exact ⟨rfl, h1, k1⟩

set_option maxHeartbeats 400000 in
theorem keyword_no (w : World) (b bp cap T : Nat) (ps : List Tok) (q : RS) (s : List UInt8) (h : Rdr w b bp cap T ps q) (hT : isT (cur ps q.next) 2 s = false) :
    Calls Tryd.prog 57 #[.pointer (some ⟨b, 0, none⟩), .string ⟨s.toArray⟩] w fun e w' => e = .returned (.bool false) ∧ Rdr w' b bp cap T ps { q with at_ := (refuseM ps q.next).1, errno := (refuseM ps q.next).2 } ∧ Kept b w w' := by
  go_enter Tryd.func57, Tryd.ntmps57
  go_wp2_with fail
  refine (skip_no _ _ _ _ _ _ _ _ _ h hT).mono ?_
  rintro e w1 ⟨rfl, h1, k1⟩
  go_wp2_with fail
  refine (refuse_any _ _ _ _ _ _ _ h1).mono ?_
  rintro e w2 ⟨rfl, h2, k2⟩
  go_wp2_with fail
  go_ret
  exact ⟨rfl, h2, k1.trans k2⟩

set_option maxHeartbeats 400000 in
theorem name_yes (w : World) (b bp cap T : Nat) (ps : List Tok) (q : RS) (h : Rdr w b bp cap T ps q) (hT : ((cur ps q.next).kind != 1) = false) :
    Calls Tryd.prog 58 #[.pointer (some ⟨b, 0, none⟩)] w fun e w' => e = .returned (.tuple #[.string ⟨(cur ps q.next).s.toArray⟩, .bool true]) ∧ Rdr w' b bp cap T ps { q with next := q.next + 1 } ∧ Kept b w w' := by
  have hkk : ((cur ps q.next).kind != 0) = true := by simp at hT ⊢; omega
  have hbs := h.bsize
  go_enter Tryd.func58, Tryd.ntmps58
  go_wp2_with fail
  refine (peek_any _ _ _ _ _ _ _ h).mono ?_
  rintro e w1 ⟨rfl, hb1⟩
  have h1 := h.below hb1
  have hs1 := hb1.size
  unfold Tok.val
  go_wp2_with fail
  refine (step_any _ _ _ _ _ _ _ (h1.below ((Below.refl _ _).alloc (Nat.le_refl _) _)) hkk).mono ?_
  rintro e w2 ⟨rfl, h2, k2⟩
  have hc := fun o => k2.cell w1.heap.size o (by simp) (by omega)
  go_wp2_with fail
  go_ret2
  exact ⟨rfl, h2, ((Kept.of_below hb1).trans (Kept.of_below ((Below.refl _ _).alloc (Nat.le_refl _) _))).trans k2⟩

set_option maxHeartbeats 400000 in
theorem name_no (w : World) (b bp cap T : Nat) (ps : List Tok) (q : RS) (h : Rdr w b bp cap T ps q) (hT : ((cur ps q.next).kind != 1) = true) :
    Calls Tryd.prog 58 #[.pointer (some ⟨b, 0, none⟩)] w fun e w' => e = .returned (.tuple #[.string ⟨#[]⟩, .bool false]) ∧ Rdr w' b bp cap T ps { q with at_ := (refuseM ps q.next).1, errno := (refuseM ps q.next).2 } ∧ Kept b w w' := by
  go_enter Tryd.func58, Tryd.ntmps58
  go_wp2_with fail
  refine (peek_any _ _ _ _ _ _ _ h).mono ?_
  rintro e w1 ⟨rfl, hb1⟩
  have h1 := h.below hb1
  unfold Tok.val
  go_wp2_with fail
  refine (refuse_any _ _ _ _ _ _ _ (h1.below ((Below.refl _ _).alloc (Nat.le_refl _) _))).mono ?_
  rintro e w2 ⟨rfl, h2, k2⟩
  go_wp2_with fail
  go_ret2
  exact ⟨rfl, h2, ((Kept.of_below hb1).trans (Kept.of_below ((Below.refl _ _).alloc (Nat.le_refl _) _))).trans k2⟩

set_option maxHeartbeats 400000 in
theorem enter_yes (w : World) (b bp cap T : Nat) (ps : List Tok) (q : RS) (h : Rdr w b bp cap T ps q) (hd : q.depth < 30) :
    Calls Tryd.prog 80 #[.pointer (some ⟨b, 0, none⟩)] w fun e w' => e = .returned (.bool true) ∧ Rdr w' b bp cap T ps { q with depth := q.depth + 1 } ∧ Kept b w w' := by
  obtain ⟨c0, c1, c2, c3, c4⟩ := h.cells
  have hz := h.thaw 2
  go_enter Tryd.func80, Tryd.ntmps80
  go_wp2_with fail
  go_ret
  exact ⟨rfl, h.setDepth (q.depth + 1) (by omega) _ (by go_num), (Kept.refl _ _).setCell _ _⟩

set_option maxHeartbeats 400000 in
theorem enter_no (w : World) (b bp cap T : Nat) (ps : List Tok) (q : RS) (h : Rdr w b bp cap T ps q) (hd : 30 ≤ q.depth) :
    Calls Tryd.prog 80 #[.pointer (some ⟨b, 0, none⟩)] w fun e w' => e = .returned (.bool false) ∧ Rdr w' b bp cap T ps { q with at_ := (cur ps q.next).at_, errno := 8 } ∧ Kept b w w' := by
  obtain ⟨c0, c1, c2, c3, c4⟩ := h.cells
  go_enter Tryd.func80, Tryd.ntmps80
  go_wp2_with fail
  refine (peek_any _ _ _ _ _ _ _ h).mono ?_
  rintro e w1 ⟨rfl, hb1⟩
  have h1 := h.below hb1
  unfold Tok.val
  go_wp2_with fail
  refine (fail_any _ _ _ _ _ _ _ _ _ h1).mono ?_
  rintro e w2 ⟨rfl, h2, k2⟩
  go_wp2_with fail
  go_ret
  exact ⟨rfl, h2, (Kept.of_below hb1).trans k2⟩

end Go.Proofs.YtgifghcaeoinoaaDoor
