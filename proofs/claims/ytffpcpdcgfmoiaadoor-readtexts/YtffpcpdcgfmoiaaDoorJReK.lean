/-
  Blocks within blocks, by the fuel. Switches are not yet told of: there the model answers none.
-/
import Derived.Test.YtffpcpdcgfmoiaaDoorJReC
import Derived.Deep.RegionHeld3
import Derived.Test.YtffpcpdcgfmoiaaDoorJReJ
namespace Go.Proofs.YtffpcpdcgfmoiaaDoor
section
open Go.RowKit
set_option linter.unusedSimpArgs false
set_option linter.unusedVariables false

theorem below_chain {w w1 w2 : World} (h : Below w.heap.size w w1) (k : Below w1.drew.heap.size w1.drew w2) : Below w.heap.size w w2 :=
  ⟨k.os.trans h.os, k.tape.trans h.tape, k.output.trans h.output, Nat.le_trans h.size k.size, fun i hi => (k.block i (Nat.lt_of_lt_of_le hi h.size)).trans (h.block i hi)⟩

set_option maxHeartbeats 1000000 in
theorem atRange_name (w : World) (b bp cap T : Nat) (ps : List Tok) (q : RS) (h : Rdr w b bp cap T ps q) (hk1 : ((cur ps q.next).kind == 1) = true) :
    Calls Tryd.prog 87 #[.pointer (some ⟨b, 0, none⟩)] w fun e w' => e = .returned (.bool (isT (cur ps (q.next + 1)) 5 [44])) ∧ Below w.heap.size w w' := by
  have hl := h.len
  have hn := h.nx
  have hn1 : q.next + 1 < ps.length := h.fin _ hn (by simp at hk1; omega)
  go_enter Tryd.func87, Tryd.ntmps87
  go_wp2_with fail
  refine (peek_any _ _ _ _ _ _ _ h).mono ?_
  rintro e w1 ⟨rfl, hb1⟩
  have h1 := h.below hb1
  obtain ⟨c0, c1, c2, c3, c4⟩ := h1.cells
  obtain ⟨t0, t1, t2, t3⟩ := h1.row (q.next + 1) hn1
  have HI : Hid (∀ k s w, _) := is_any (cur ps (q.next + 1))
  unfold Tok.val at HI ⊢
  go_wp2_with fail
  clear c2 c3 c4 h1
  have hq1 : (q.next : Int) + 1 < ps.length := by omega
  have hq0 : (0 : Int) ≤ q.next := by omega
  have hq2 : (q.next : Int) ≤ 4001 := by omega
  have hq3 : (0 : Int) ≤ (q.next : Int) + 1 := by omega
  have hwr : IntKind.i64.wrap ((q.next : Int) + 1) = (q.next : Int) + 1 := by rw [IntKind.wrap_i64]; omega
  have htn : ((q.next : Int) + 1).toNat = q.next + 1 := by omega
  generalize htk : cur ps (q.next + 1) = tk at *
  have HTK : Hid (_) := htk
  clear htk
  refine wp_region_noPanic ?_
  refine wp_region_held_drew (S := (fun w' => w'.cell? ⟨b, 0, none⟩ = some (.slice (some ⟨bp, 0, none⟩) ps.length cap) ∧ w'.cell? ⟨b, 1, none⟩ = some (.int .i64 q.next) ∧ w'.cell? ⟨bp, (q.next + 1) * 4, none⟩ = some (.int .i64 tk.kind) ∧ w'.cell? ⟨bp, (q.next + 1) * 4 + 1, none⟩ = some (.int .i64 tk.at_) ∧ w'.cell? ⟨bp, (q.next + 1) * 4 + 2, none⟩ = some (.int .i64 tk.n) ∧ w'.cell? ⟨bp, (q.next + 1) * 4 + 3, none⟩ = some (.string ⟨tk.s.toArray⟩))) (by kernel_rfl) ⟨c0, c1, t0, t1, t2, t3⟩ ?_
  intro HS
  refine wpAnyH_take (i := 0) (v := ?_) (by simp only [List.getElem?_toArray, List.getElem?_cons_succ, List.getElem?_cons_zero]; rfl) (by kernel_rfl) (by kernel_rfl) (by kernel_rfl) (fun _ _ _ h => h) (Or.inl ⟨by rfl, ?_⟩) HS ?_
  rotate_left
  · intro wz hSw
    try dsimp only at hSw
    obtain ⟨e0, e1, e2, e3, e4, e5⟩ := hSw
    go_simp
    try with_reducible rfl
  try simp only [Act.put, List.setIfInBounds_toArray, List.set_cons_zero, List.set_cons_succ]
  refine wpAnyH_take (i := 1) (v := ?_) (by simp only [List.getElem?_toArray, List.getElem?_cons_succ, List.getElem?_cons_zero]; rfl) (by kernel_rfl) (by kernel_rfl) (by kernel_rfl) (fun _ _ _ h => h) (Or.inl ⟨by rfl, ?_⟩) HS ?_
  rotate_left
  · intro wz hSw
    try dsimp only at hSw
    obtain ⟨e0, e1, e2, e3, e4, e5⟩ := hSw
    go_simp
    try with_reducible rfl
  try simp only [Act.put, List.setIfInBounds_toArray, List.set_cons_zero, List.set_cons_succ]
  refine wpAnyH_take (i := 2) (v := ?_) (by simp only [List.getElem?_toArray, List.getElem?_cons_succ, List.getElem?_cons_zero]; rfl) (by kernel_rfl) (by kernel_rfl) (by kernel_rfl) (fun _ _ _ h => h) (Or.inl ⟨by rfl, ?_⟩) HS ?_
  rotate_left
  · intro wz hSw
    try dsimp only at hSw
    obtain ⟨e0, e1, e2, e3, e4, e5⟩ := hSw
    go_simp
    try with_reducible rfl
  try simp only [Act.put, List.setIfInBounds_toArray, List.set_cons_zero, List.set_cons_succ]
  refine wpAnyH_take (i := 3) (v := undef) (by simp only [List.getElem?_toArray, List.getElem?_cons_succ, List.getElem?_cons_zero]; rfl) (by kernel_rfl) (by kernel_rfl) (by kernel_rfl) (fun _ _ _ h => h) (Or.inr ⟨by rfl, rfl⟩) HS ?_
  try simp only [Act.put, List.setIfInBounds_toArray, List.set_cons_zero, List.set_cons_succ]
  refine wpAnyH_take (i := 4) (v := undef) (by simp only [List.getElem?_toArray, List.getElem?_cons_succ, List.getElem?_cons_zero]; rfl) (by kernel_rfl) (by kernel_rfl) (by kernel_rfl) (fun _ _ _ h => h) (Or.inr ⟨by rfl, rfl⟩) HS ?_
  try simp only [Act.put, List.setIfInBounds_toArray, List.set_cons_zero, List.set_cons_succ]
  refine wpAnyH_take (i := 5) (v := ?_) (by simp only [List.getElem?_toArray, List.getElem?_cons_succ, List.getElem?_cons_zero]; rfl) (by kernel_rfl) (by kernel_rfl) (by kernel_rfl) (fun _ _ _ h => h) (Or.inl ⟨by rfl, ?_⟩) HS ?_
  rotate_left
  · intro wz hSw
    try dsimp only at hSw
    obtain ⟨e0, e1, e2, e3, e4, e5⟩ := hSw
    go_simp
    try with_reducible rfl
  try simp only [Act.put, List.setIfInBounds_toArray, List.set_cons_zero, List.set_cons_succ]
  refine wpAnyH_take (i := 6) (v := ?_) (by simp only [List.getElem?_toArray, List.getElem?_cons_succ, List.getElem?_cons_zero]; rfl) (by kernel_rfl) (by kernel_rfl) (by kernel_rfl) (fun _ _ _ h => h) (Or.inl ⟨by rfl, ?_⟩) HS ?_
  rotate_left
  · intro wz hSw
    try dsimp only at hSw
    obtain ⟨e0, e1, e2, e3, e4, e5⟩ := hSw
    go_simp
    try with_reducible rfl
  try simp only [Act.put, List.setIfInBounds_toArray, List.set_cons_zero, List.set_cons_succ]
  refine wpAnyH_take (i := 7) (v := ?_) (by simp only [List.getElem?_toArray, List.getElem?_cons_succ, List.getElem?_cons_zero]; rfl) (by kernel_rfl) (by kernel_rfl) (by kernel_rfl) (fun _ _ _ h => h) (Or.inl ⟨by rfl, ?_⟩) HS ?_
  rotate_left
  · intro wz hSw
    try dsimp only at hSw
    obtain ⟨e0, e1, e2, e3, e4, e5⟩ := hSw
    go_simp
    try with_reducible rfl
  try simp only [Act.put, List.setIfInBounds_toArray, List.set_cons_zero, List.set_cons_succ]
  refine wpAnyH_take (i := 8) (v := ?_) (by simp only [List.getElem?_toArray, List.getElem?_cons_succ, List.getElem?_cons_zero]; rfl) (by kernel_rfl) (by kernel_rfl) (by kernel_rfl) (fun _ _ _ h => h) (Or.inl ⟨by rfl, ?_⟩) HS ?_
  rotate_left
  · intro wz hSw
    try dsimp only at hSw
    obtain ⟨e0, e1, e2, e3, e4, e5⟩ := hSw
    go_simp
    try with_reducible rfl
  try simp only [Act.put, List.setIfInBounds_toArray, List.set_cons_zero, List.set_cons_succ]
  refine wpAnyH_take (i := 9) (v := ?_) (by simp only [List.getElem?_toArray, List.getElem?_cons_succ, List.getElem?_cons_zero]; rfl) (by kernel_rfl) (by kernel_rfl) (by kernel_rfl) (fun _ _ _ h => h) (Or.inl ⟨by rfl, ?_⟩) HS ?_
  rotate_left
  · intro wz hSw
    try dsimp only at hSw
    obtain ⟨e0, e1, e2, e3, e4, e5⟩ := hSw
    go_simp
    try with_reducible rfl
  try simp only [Act.put, List.setIfInBounds_toArray, List.set_cons_zero, List.set_cons_succ]
  refine wpAnyH_take (i := 10) (v := ?_) (by simp only [List.getElem?_toArray, List.getElem?_cons_succ, List.getElem?_cons_zero]; rfl) (by kernel_rfl) (by kernel_rfl) (by kernel_rfl) (fun _ _ _ h => h) (Or.inl ⟨by rfl, ?_⟩) HS ?_
  rotate_left
  · intro wz hSw
    try dsimp only at hSw
    obtain ⟨e0, e1, e2, e3, e4, e5⟩ := hSw
    go_simp
    try with_reducible rfl
  try simp only [Act.put, List.setIfInBounds_toArray, List.set_cons_zero, List.set_cons_succ]
  refine wpAnyH_take (i := 11) (v := ?_) (by simp only [List.getElem?_toArray, List.getElem?_cons_succ, List.getElem?_cons_zero]; rfl) (by kernel_rfl) (by kernel_rfl) (by kernel_rfl) (fun _ _ _ h => h) (Or.inl ⟨by rfl, ?_⟩) HS ?_
  rotate_left
  · intro wz hSw
    try dsimp only at hSw
    obtain ⟨e0, e1, e2, e3, e4, e5⟩ := hSw
    go_simp
    try with_reducible rfl
  try simp only [Act.put, List.setIfInBounds_toArray, List.set_cons_zero, List.set_cons_succ]
  refine wpAnyH_take (i := 12) (v := ?_) (by simp only [List.getElem?_toArray, List.getElem?_cons_succ, List.getElem?_cons_zero]; rfl) (by kernel_rfl) (by kernel_rfl) (by kernel_rfl) (fun _ _ _ h => h) (Or.inl ⟨by rfl, ?_⟩) HS ?_
  rotate_left
  · intro wz hSw
    try dsimp only at hSw
    obtain ⟨e0, e1, e2, e3, e4, e5⟩ := hSw
    go_simp
    try with_reducible rfl
  try simp only [Act.put, List.setIfInBounds_toArray, List.set_cons_zero, List.set_cons_succ]
  refine wpAnyH_take (i := 13) (v := ?_) (by simp only [List.getElem?_toArray, List.getElem?_cons_succ, List.getElem?_cons_zero]; rfl) (by kernel_rfl) (by kernel_rfl) (by kernel_rfl) (fun _ _ _ h => h) (Or.inl ⟨by rfl, ?_⟩) HS ?_
  rotate_left
  · intro wz hSw
    try dsimp only at hSw
    obtain ⟨e0, e1, e2, e3, e4, e5⟩ := hSw
    go_simp
    try with_reducible rfl
  try simp only [Act.put, List.setIfInBounds_toArray, List.set_cons_zero, List.set_cons_succ]
  refine wpAnyH_take (i := 14) (v := ?_) (by simp only [List.getElem?_toArray, List.getElem?_cons_succ, List.getElem?_cons_zero]; rfl) (by kernel_rfl) (by kernel_rfl) (by kernel_rfl) (fun _ _ _ h => h) (Or.inl ⟨by rfl, ?_⟩) HS ?_
  rotate_left
  · intro wz hSw
    try dsimp only at hSw
    obtain ⟨e0, e1, e2, e3, e4, e5⟩ := hSw
    go_simp
    try with_reducible rfl
  try simp only [Act.put, List.setIfInBounds_toArray, List.set_cons_zero, List.set_cons_succ]
  refine wpAnyH_take (i := 15) (v := ?_) (by simp only [List.getElem?_toArray, List.getElem?_cons_succ, List.getElem?_cons_zero]; rfl) (by kernel_rfl) (by kernel_rfl) (by kernel_rfl) (fun _ _ _ h => h) (Or.inl ⟨by rfl, ?_⟩) HS ?_
  rotate_left
  · intro wz hSw
    try dsimp only at hSw
    obtain ⟨e0, e1, e2, e3, e4, e5⟩ := hSw
    go_simp
    try with_reducible rfl
  try simp only [Act.put, List.setIfInBounds_toArray, List.set_cons_zero, List.set_cons_succ]
  refine wpAnyH_take (i := 16) (v := ?_) (by simp only [List.getElem?_toArray, List.getElem?_cons_succ, List.getElem?_cons_zero]; rfl) (by kernel_rfl) (by kernel_rfl) (by kernel_rfl) (fun _ _ _ h => h) (Or.inl ⟨by rfl, ?_⟩) HS ?_
  rotate_left
  · intro wz hSw
    try dsimp only at hSw
    obtain ⟨e0, e1, e2, e3, e4, e5⟩ := hSw
    go_simp
    try with_reducible rfl
  try simp only [Act.put, List.setIfInBounds_toArray, List.set_cons_zero, List.set_cons_succ]
  refine wpAnyH_take (i := 17) (v := ?_) (by simp only [List.getElem?_toArray, List.getElem?_cons_succ, List.getElem?_cons_zero]; rfl) (by kernel_rfl) (by kernel_rfl) (by kernel_rfl) (fun _ _ _ h => h) (Or.inl ⟨by rfl, ?_⟩) HS ?_
  rotate_left
  · intro wz hSw
    try dsimp only at hSw
    obtain ⟨e0, e1, e2, e3, e4, e5⟩ := hSw
    go_simp
    try with_reducible rfl
  try simp only [Act.put, List.setIfInBounds_toArray, List.set_cons_zero, List.set_cons_succ]
  refine wpAnyH_ready (rs := [18]) (by kernel_rfl) (by simp) (AllReadyH.cons (by simp only [List.getElem?_toArray, List.getElem?_cons_succ, List.getElem?_cons_zero]; rfl) ?_ AllReadyH.nil)
  intro K' HK
  rw [if_pos (by rfl)]
  have hbw := h.bsize
  have hpw := h.lt
  have hs1 := hb1.size
  clear HS
  go_simp
  go_wp2_with (go_at_call 68; refine (HI.out _ _ _).mono ?_; rintro e w2 ⟨rfl, hb2⟩)
  have HS2 : (fun w' => w'.cell? ⟨b, 0, none⟩ = some (.slice (some ⟨bp, 0, none⟩) ps.length cap) ∧ w'.cell? ⟨b, 1, none⟩ = some (.int .i64 q.next) ∧ w'.cell? ⟨bp, (q.next + 1) * 4, none⟩ = some (.int .i64 tk.kind) ∧ w'.cell? ⟨bp, (q.next + 1) * 4 + 1, none⟩ = some (.int .i64 tk.at_) ∧ w'.cell? ⟨bp, (q.next + 1) * 4 + 2, none⟩ = some (.int .i64 tk.n) ∧ w'.cell? ⟨bp, (q.next + 1) * 4 + 3, none⟩ = some (.string ⟨tk.s.toArray⟩)) w2 := ⟨(hb2.cell (p := ⟨b, 0, none⟩) (by show b < w1.heap.size; omega)).trans c0, (hb2.cell (p := ⟨b, 1, none⟩) (by show b < w1.heap.size; omega)).trans c1, (hb2.cell (p := ⟨bp, (q.next + 1) * 4, none⟩) (by show bp < w1.heap.size; omega)).trans t0, (hb2.cell (p := ⟨bp, (q.next + 1) * 4 + 1, none⟩) (by show bp < w1.heap.size; omega)).trans t1, (hb2.cell (p := ⟨bp, (q.next + 1) * 4 + 2, none⟩) (by show bp < w1.heap.size; omega)).trans t2, (hb2.cell (p := ⟨bp, (q.next + 1) * 4 + 3, none⟩) (by show bp < w1.heap.size; omega)).trans t3⟩
  refine HK.out _ _ HS2 ?_
  intro HS
  try simp only [Act.put, List.setIfInBounds_toArray, List.set_cons_zero, List.set_cons_succ]
  refine wpAnyH_take (i := 19) (v := ?_) (by simp only [List.getElem?_toArray, List.getElem?_cons_succ, List.getElem?_cons_zero]; rfl) (by kernel_rfl) (by kernel_rfl) (by kernel_rfl) (fun _ _ _ h => h) (Or.inl ⟨by rfl, ?_⟩) HS ?_
  rotate_left
  · intro wz hSw
    try dsimp only at hSw
    obtain ⟨e0, e1, e2, e3, e4, e5⟩ := hSw
    go_simp
    try with_reducible rfl
  try simp only [Act.put, List.setIfInBounds_toArray, List.set_cons_zero, List.set_cons_succ]
  refine wpAnyH_take (i := 20) (v := ?_) (by simp only [List.getElem?_toArray, List.getElem?_cons_succ, List.getElem?_cons_zero]; rfl) (by kernel_rfl) (by kernel_rfl) (by kernel_rfl) (fun _ _ _ h => h) (Or.inl ⟨by rfl, ?_⟩) HS ?_
  rotate_left
  · intro wz hSw
    try dsimp only at hSw
    obtain ⟨e0, e1, e2, e3, e4, e5⟩ := hSw
    go_simp
    try with_reducible rfl
  try simp only [Act.put, List.setIfInBounds_toArray, List.set_cons_zero, List.set_cons_succ]
  refine wpAnyH_done (by kernel_rfl) ?_ _
  refine NoPanic.normal ?_
  go_wp2_with fail
  go_ret
  exact ⟨by rw [HTK.out]; rfl, below_chain hb1 hb2⟩

set_option maxHeartbeats 1000000 in
theorem atRange_word (w : World) (b bp cap T : Nat) (ps : List Tok) (q : RS) (h : Rdr w b bp cap T ps q) (hk1 : ((cur ps q.next).kind == 1) = false) (hk2 : ((cur ps q.next).kind == 2) = true) :
    Calls Tryd.prog 87 #[.pointer (some ⟨b, 0, none⟩)] w fun e w' => e = .returned (.bool (isT (cur ps (q.next + 1)) 5 [44])) ∧ Below w.heap.size w w' := by
  have hl := h.len
  have hn := h.nx
  have hn1 : q.next + 1 < ps.length := h.fin _ hn (by simp at hk2; omega)
  go_enter Tryd.func87, Tryd.ntmps87
  go_wp2_with fail
  refine (peek_any _ _ _ _ _ _ _ h).mono ?_
  rintro e w1 ⟨rfl, hb1⟩
  have h1 := h.below hb1
  obtain ⟨c0, c1, c2, c3, c4⟩ := h1.cells
  obtain ⟨t0, t1, t2, t3⟩ := h1.row (q.next + 1) hn1
  have HI : Hid (∀ k s w, _) := is_any (cur ps (q.next + 1))
  unfold Tok.val at HI ⊢
  go_wp2_with fail
  clear c2 c3 c4 h1
  have hq1 : (q.next : Int) + 1 < ps.length := by omega
  have hq0 : (0 : Int) ≤ q.next := by omega
  have hq2 : (q.next : Int) ≤ 4001 := by omega
  have hq3 : (0 : Int) ≤ (q.next : Int) + 1 := by omega
  have hwr : IntKind.i64.wrap ((q.next : Int) + 1) = (q.next : Int) + 1 := by rw [IntKind.wrap_i64]; omega
  have htn : ((q.next : Int) + 1).toNat = q.next + 1 := by omega
  generalize htk : cur ps (q.next + 1) = tk at *
  have HTK : Hid (_) := htk
  clear htk
  refine wp_region_noPanic ?_
  refine wp_region_held_drew (S := (fun w' => w'.cell? ⟨b, 0, none⟩ = some (.slice (some ⟨bp, 0, none⟩) ps.length cap) ∧ w'.cell? ⟨b, 1, none⟩ = some (.int .i64 q.next) ∧ w'.cell? ⟨bp, (q.next + 1) * 4, none⟩ = some (.int .i64 tk.kind) ∧ w'.cell? ⟨bp, (q.next + 1) * 4 + 1, none⟩ = some (.int .i64 tk.at_) ∧ w'.cell? ⟨bp, (q.next + 1) * 4 + 2, none⟩ = some (.int .i64 tk.n) ∧ w'.cell? ⟨bp, (q.next + 1) * 4 + 3, none⟩ = some (.string ⟨tk.s.toArray⟩))) (by kernel_rfl) ⟨c0, c1, t0, t1, t2, t3⟩ ?_
  intro HS
  refine wpAnyH_take (i := 0) (v := ?_) (by simp only [List.getElem?_toArray, List.getElem?_cons_succ, List.getElem?_cons_zero]; rfl) (by kernel_rfl) (by kernel_rfl) (by kernel_rfl) (fun _ _ _ h => h) (Or.inl ⟨by rfl, ?_⟩) HS ?_
  rotate_left
  · intro wz hSw
    try dsimp only at hSw
    obtain ⟨e0, e1, e2, e3, e4, e5⟩ := hSw
    go_simp
    try with_reducible rfl
  try simp only [Act.put, List.setIfInBounds_toArray, List.set_cons_zero, List.set_cons_succ]
  refine wpAnyH_take (i := 1) (v := ?_) (by simp only [List.getElem?_toArray, List.getElem?_cons_succ, List.getElem?_cons_zero]; rfl) (by kernel_rfl) (by kernel_rfl) (by kernel_rfl) (fun _ _ _ h => h) (Or.inl ⟨by rfl, ?_⟩) HS ?_
  rotate_left
  · intro wz hSw
    try dsimp only at hSw
    obtain ⟨e0, e1, e2, e3, e4, e5⟩ := hSw
    go_simp
    try with_reducible rfl
  try simp only [Act.put, List.setIfInBounds_toArray, List.set_cons_zero, List.set_cons_succ]
  refine wpAnyH_take (i := 2) (v := ?_) (by simp only [List.getElem?_toArray, List.getElem?_cons_succ, List.getElem?_cons_zero]; rfl) (by kernel_rfl) (by kernel_rfl) (by kernel_rfl) (fun _ _ _ h => h) (Or.inl ⟨by rfl, ?_⟩) HS ?_
  rotate_left
  · intro wz hSw
    try dsimp only at hSw
    obtain ⟨e0, e1, e2, e3, e4, e5⟩ := hSw
    go_simp
    try with_reducible rfl
  try simp only [Act.put, List.setIfInBounds_toArray, List.set_cons_zero, List.set_cons_succ]
  refine wpAnyH_take (i := 3) (v := ?_) (by simp only [List.getElem?_toArray, List.getElem?_cons_succ, List.getElem?_cons_zero]; rfl) (by kernel_rfl) (by kernel_rfl) (by kernel_rfl) (fun _ _ _ h => h) (Or.inl ⟨by rfl, ?_⟩) HS ?_
  rotate_left
  · intro wz hSw
    try dsimp only at hSw
    obtain ⟨e0, e1, e2, e3, e4, e5⟩ := hSw
    go_simp
    try with_reducible rfl
  try simp only [Act.put, List.setIfInBounds_toArray, List.set_cons_zero, List.set_cons_succ]
  refine wpAnyH_take (i := 4) (v := ?_) (by simp only [List.getElem?_toArray, List.getElem?_cons_succ, List.getElem?_cons_zero]; rfl) (by kernel_rfl) (by kernel_rfl) (by kernel_rfl) (fun _ _ _ h => h) (Or.inl ⟨by rfl, ?_⟩) HS ?_
  rotate_left
  · intro wz hSw
    try dsimp only at hSw
    obtain ⟨e0, e1, e2, e3, e4, e5⟩ := hSw
    go_simp
    try with_reducible rfl
  try simp only [Act.put, List.setIfInBounds_toArray, List.set_cons_zero, List.set_cons_succ]
  refine wpAnyH_take (i := 5) (v := ?_) (by simp only [List.getElem?_toArray, List.getElem?_cons_succ, List.getElem?_cons_zero]; rfl) (by kernel_rfl) (by kernel_rfl) (by kernel_rfl) (fun _ _ _ h => h) (Or.inl ⟨by rfl, ?_⟩) HS ?_
  rotate_left
  · intro wz hSw
    try dsimp only at hSw
    obtain ⟨e0, e1, e2, e3, e4, e5⟩ := hSw
    go_simp
    try with_reducible rfl
  try simp only [Act.put, List.setIfInBounds_toArray, List.set_cons_zero, List.set_cons_succ]
  refine wpAnyH_take (i := 6) (v := ?_) (by simp only [List.getElem?_toArray, List.getElem?_cons_succ, List.getElem?_cons_zero]; rfl) (by kernel_rfl) (by kernel_rfl) (by kernel_rfl) (fun _ _ _ h => h) (Or.inl ⟨by rfl, ?_⟩) HS ?_
  rotate_left
  · intro wz hSw
    try dsimp only at hSw
    obtain ⟨e0, e1, e2, e3, e4, e5⟩ := hSw
    go_simp
    try with_reducible rfl
  try simp only [Act.put, List.setIfInBounds_toArray, List.set_cons_zero, List.set_cons_succ]
  refine wpAnyH_take (i := 7) (v := ?_) (by simp only [List.getElem?_toArray, List.getElem?_cons_succ, List.getElem?_cons_zero]; rfl) (by kernel_rfl) (by kernel_rfl) (by kernel_rfl) (fun _ _ _ h => h) (Or.inl ⟨by rfl, ?_⟩) HS ?_
  rotate_left
  · intro wz hSw
    try dsimp only at hSw
    obtain ⟨e0, e1, e2, e3, e4, e5⟩ := hSw
    go_simp
    try with_reducible rfl
  try simp only [Act.put, List.setIfInBounds_toArray, List.set_cons_zero, List.set_cons_succ]
  refine wpAnyH_take (i := 8) (v := ?_) (by simp only [List.getElem?_toArray, List.getElem?_cons_succ, List.getElem?_cons_zero]; rfl) (by kernel_rfl) (by kernel_rfl) (by kernel_rfl) (fun _ _ _ h => h) (Or.inl ⟨by rfl, ?_⟩) HS ?_
  rotate_left
  · intro wz hSw
    try dsimp only at hSw
    obtain ⟨e0, e1, e2, e3, e4, e5⟩ := hSw
    go_simp
    try with_reducible rfl
  try simp only [Act.put, List.setIfInBounds_toArray, List.set_cons_zero, List.set_cons_succ]
  refine wpAnyH_take (i := 9) (v := ?_) (by simp only [List.getElem?_toArray, List.getElem?_cons_succ, List.getElem?_cons_zero]; rfl) (by kernel_rfl) (by kernel_rfl) (by kernel_rfl) (fun _ _ _ h => h) (Or.inl ⟨by rfl, ?_⟩) HS ?_
  rotate_left
  · intro wz hSw
    try dsimp only at hSw
    obtain ⟨e0, e1, e2, e3, e4, e5⟩ := hSw
    go_simp
    try with_reducible rfl
  try simp only [Act.put, List.setIfInBounds_toArray, List.set_cons_zero, List.set_cons_succ]
  refine wpAnyH_take (i := 10) (v := ?_) (by simp only [List.getElem?_toArray, List.getElem?_cons_succ, List.getElem?_cons_zero]; rfl) (by kernel_rfl) (by kernel_rfl) (by kernel_rfl) (fun _ _ _ h => h) (Or.inl ⟨by rfl, ?_⟩) HS ?_
  rotate_left
  · intro wz hSw
    try dsimp only at hSw
    obtain ⟨e0, e1, e2, e3, e4, e5⟩ := hSw
    go_simp
    try with_reducible rfl
  try simp only [Act.put, List.setIfInBounds_toArray, List.set_cons_zero, List.set_cons_succ]
  refine wpAnyH_take (i := 11) (v := ?_) (by simp only [List.getElem?_toArray, List.getElem?_cons_succ, List.getElem?_cons_zero]; rfl) (by kernel_rfl) (by kernel_rfl) (by kernel_rfl) (fun _ _ _ h => h) (Or.inl ⟨by rfl, ?_⟩) HS ?_
  rotate_left
  · intro wz hSw
    try dsimp only at hSw
    obtain ⟨e0, e1, e2, e3, e4, e5⟩ := hSw
    go_simp
    try with_reducible rfl
  try simp only [Act.put, List.setIfInBounds_toArray, List.set_cons_zero, List.set_cons_succ]
  refine wpAnyH_take (i := 12) (v := ?_) (by simp only [List.getElem?_toArray, List.getElem?_cons_succ, List.getElem?_cons_zero]; rfl) (by kernel_rfl) (by kernel_rfl) (by kernel_rfl) (fun _ _ _ h => h) (Or.inl ⟨by rfl, ?_⟩) HS ?_
  rotate_left
  · intro wz hSw
    try dsimp only at hSw
    obtain ⟨e0, e1, e2, e3, e4, e5⟩ := hSw
    go_simp
    try with_reducible rfl
  try simp only [Act.put, List.setIfInBounds_toArray, List.set_cons_zero, List.set_cons_succ]
  refine wpAnyH_take (i := 13) (v := ?_) (by simp only [List.getElem?_toArray, List.getElem?_cons_succ, List.getElem?_cons_zero]; rfl) (by kernel_rfl) (by kernel_rfl) (by kernel_rfl) (fun _ _ _ h => h) (Or.inl ⟨by rfl, ?_⟩) HS ?_
  rotate_left
  · intro wz hSw
    try dsimp only at hSw
    obtain ⟨e0, e1, e2, e3, e4, e5⟩ := hSw
    go_simp
    try with_reducible rfl
  try simp only [Act.put, List.setIfInBounds_toArray, List.set_cons_zero, List.set_cons_succ]
  refine wpAnyH_take (i := 14) (v := ?_) (by simp only [List.getElem?_toArray, List.getElem?_cons_succ, List.getElem?_cons_zero]; rfl) (by kernel_rfl) (by kernel_rfl) (by kernel_rfl) (fun _ _ _ h => h) (Or.inl ⟨by rfl, ?_⟩) HS ?_
  rotate_left
  · intro wz hSw
    try dsimp only at hSw
    obtain ⟨e0, e1, e2, e3, e4, e5⟩ := hSw
    go_simp
    try with_reducible rfl
  try simp only [Act.put, List.setIfInBounds_toArray, List.set_cons_zero, List.set_cons_succ]
  refine wpAnyH_take (i := 15) (v := ?_) (by simp only [List.getElem?_toArray, List.getElem?_cons_succ, List.getElem?_cons_zero]; rfl) (by kernel_rfl) (by kernel_rfl) (by kernel_rfl) (fun _ _ _ h => h) (Or.inl ⟨by rfl, ?_⟩) HS ?_
  rotate_left
  · intro wz hSw
    try dsimp only at hSw
    obtain ⟨e0, e1, e2, e3, e4, e5⟩ := hSw
    go_simp
    try with_reducible rfl
  try simp only [Act.put, List.setIfInBounds_toArray, List.set_cons_zero, List.set_cons_succ]
  refine wpAnyH_take (i := 16) (v := ?_) (by simp only [List.getElem?_toArray, List.getElem?_cons_succ, List.getElem?_cons_zero]; rfl) (by kernel_rfl) (by kernel_rfl) (by kernel_rfl) (fun _ _ _ h => h) (Or.inl ⟨by rfl, ?_⟩) HS ?_
  rotate_left
  · intro wz hSw
    try dsimp only at hSw
    obtain ⟨e0, e1, e2, e3, e4, e5⟩ := hSw
    go_simp
    try with_reducible rfl
  try simp only [Act.put, List.setIfInBounds_toArray, List.set_cons_zero, List.set_cons_succ]
  refine wpAnyH_take (i := 17) (v := ?_) (by simp only [List.getElem?_toArray, List.getElem?_cons_succ, List.getElem?_cons_zero]; rfl) (by kernel_rfl) (by kernel_rfl) (by kernel_rfl) (fun _ _ _ h => h) (Or.inl ⟨by rfl, ?_⟩) HS ?_
  rotate_left
  · intro wz hSw
    try dsimp only at hSw
    obtain ⟨e0, e1, e2, e3, e4, e5⟩ := hSw
    go_simp
    try with_reducible rfl
  try simp only [Act.put, List.setIfInBounds_toArray, List.set_cons_zero, List.set_cons_succ]
  refine wpAnyH_ready (rs := [18]) (by kernel_rfl) (by simp) (AllReadyH.cons (by simp only [List.getElem?_toArray, List.getElem?_cons_succ, List.getElem?_cons_zero]; rfl) ?_ AllReadyH.nil)
  intro K' HK
  rw [if_pos (by rfl)]
  have hbw := h.bsize
  have hpw := h.lt
  have hs1 := hb1.size
  clear HS
  go_simp
  go_wp2_with (go_at_call 68; refine (HI.out _ _ _).mono ?_; rintro e w2 ⟨rfl, hb2⟩)
  have HS2 : (fun w' => w'.cell? ⟨b, 0, none⟩ = some (.slice (some ⟨bp, 0, none⟩) ps.length cap) ∧ w'.cell? ⟨b, 1, none⟩ = some (.int .i64 q.next) ∧ w'.cell? ⟨bp, (q.next + 1) * 4, none⟩ = some (.int .i64 tk.kind) ∧ w'.cell? ⟨bp, (q.next + 1) * 4 + 1, none⟩ = some (.int .i64 tk.at_) ∧ w'.cell? ⟨bp, (q.next + 1) * 4 + 2, none⟩ = some (.int .i64 tk.n) ∧ w'.cell? ⟨bp, (q.next + 1) * 4 + 3, none⟩ = some (.string ⟨tk.s.toArray⟩)) w2 := ⟨(hb2.cell (p := ⟨b, 0, none⟩) (by show b < w1.heap.size; omega)).trans c0, (hb2.cell (p := ⟨b, 1, none⟩) (by show b < w1.heap.size; omega)).trans c1, (hb2.cell (p := ⟨bp, (q.next + 1) * 4, none⟩) (by show bp < w1.heap.size; omega)).trans t0, (hb2.cell (p := ⟨bp, (q.next + 1) * 4 + 1, none⟩) (by show bp < w1.heap.size; omega)).trans t1, (hb2.cell (p := ⟨bp, (q.next + 1) * 4 + 2, none⟩) (by show bp < w1.heap.size; omega)).trans t2, (hb2.cell (p := ⟨bp, (q.next + 1) * 4 + 3, none⟩) (by show bp < w1.heap.size; omega)).trans t3⟩
  refine HK.out _ _ HS2 ?_
  intro HS
  try simp only [Act.put, List.setIfInBounds_toArray, List.set_cons_zero, List.set_cons_succ]
  refine wpAnyH_take (i := 19) (v := ?_) (by simp only [List.getElem?_toArray, List.getElem?_cons_succ, List.getElem?_cons_zero]; rfl) (by kernel_rfl) (by kernel_rfl) (by kernel_rfl) (fun _ _ _ h => h) (Or.inl ⟨by rfl, ?_⟩) HS ?_
  rotate_left
  · intro wz hSw
    try dsimp only at hSw
    obtain ⟨e0, e1, e2, e3, e4, e5⟩ := hSw
    go_simp
    try with_reducible rfl
  try simp only [Act.put, List.setIfInBounds_toArray, List.set_cons_zero, List.set_cons_succ]
  refine wpAnyH_take (i := 20) (v := ?_) (by simp only [List.getElem?_toArray, List.getElem?_cons_succ, List.getElem?_cons_zero]; rfl) (by kernel_rfl) (by kernel_rfl) (by kernel_rfl) (fun _ _ _ h => h) (Or.inl ⟨by rfl, ?_⟩) HS ?_
  rotate_left
  · intro wz hSw
    try dsimp only at hSw
    obtain ⟨e0, e1, e2, e3, e4, e5⟩ := hSw
    go_simp
    try with_reducible rfl
  try simp only [Act.put, List.setIfInBounds_toArray, List.set_cons_zero, List.set_cons_succ]
  refine wpAnyH_done (by kernel_rfl) ?_ _
  refine NoPanic.normal ?_
  go_wp2_with fail
  go_ret
  exact ⟨by rw [HTK.out]; rfl, below_chain hb1 hb2⟩

set_option maxHeartbeats 1000000 in
theorem atRange_else (w : World) (b bp cap T : Nat) (ps : List Tok) (q : RS) (h : Rdr w b bp cap T ps q) (hk1 : ((cur ps q.next).kind == 1) = false) (hk2 : ((cur ps q.next).kind == 2) = false) :
    Calls Tryd.prog 87 #[.pointer (some ⟨b, 0, none⟩)] w fun e w' => e = .returned (.bool false) ∧ Below w.heap.size w w' := by
  go_enter Tryd.func87, Tryd.ntmps87
  go_wp2_with fail
  refine (peek_any _ _ _ _ _ _ _ h).mono ?_
  rintro e w1 ⟨rfl, hb1⟩
  unfold Tok.val
  go_wp2_with fail
  refine wp_region_noPanic ?_
  refine wp_region_held_drew (S := fun _ => True) (by kernel_rfl) trivial ?_
  intro HS
  refine wpAnyH_take (i := 0) (v := ?_) (by simp only [List.getElem?_toArray, List.getElem?_cons_succ, List.getElem?_cons_zero]; rfl) (by kernel_rfl) (by kernel_rfl) (by kernel_rfl) (fun _ _ _ h => h) (Or.inl ⟨by rfl, ?_⟩) HS ?_
  rotate_left
  · intro wz hSw
    try dsimp only at hSw
    go_simp
    try with_reducible rfl
  try simp only [Act.put, List.setIfInBounds_toArray, List.set_cons_zero, List.set_cons_succ]
  refine wpAnyH_take (i := 1) (v := ?_) (by simp only [List.getElem?_toArray, List.getElem?_cons_succ, List.getElem?_cons_zero]; rfl) (by kernel_rfl) (by kernel_rfl) (by kernel_rfl) (fun _ _ _ h => h) (Or.inl ⟨by rfl, ?_⟩) HS ?_
  rotate_left
  · intro wz hSw
    try dsimp only at hSw
    go_simp
    try with_reducible rfl
  try simp only [Act.put, List.setIfInBounds_toArray, List.set_cons_zero, List.set_cons_succ]
  refine wpAnyH_take (i := 2) (v := ?_) (by simp only [List.getElem?_toArray, List.getElem?_cons_succ, List.getElem?_cons_zero]; rfl) (by kernel_rfl) (by kernel_rfl) (by kernel_rfl) (fun _ _ _ h => h) (Or.inl ⟨by rfl, ?_⟩) HS ?_
  rotate_left
  · intro wz hSw
    try dsimp only at hSw
    go_simp
    try with_reducible rfl
  try simp only [Act.put, List.setIfInBounds_toArray, List.set_cons_zero, List.set_cons_succ]
  refine wpAnyH_take (i := 3) (v := ?_) (by simp only [List.getElem?_toArray, List.getElem?_cons_succ, List.getElem?_cons_zero]; rfl) (by kernel_rfl) (by kernel_rfl) (by kernel_rfl) (fun _ _ _ h => h) (Or.inl ⟨by rfl, ?_⟩) HS ?_
  rotate_left
  · intro wz hSw
    try dsimp only at hSw
    go_simp
    try with_reducible rfl
  try simp only [Act.put, List.setIfInBounds_toArray, List.set_cons_zero, List.set_cons_succ]
  refine wpAnyH_take (i := 4) (v := ?_) (by simp only [List.getElem?_toArray, List.getElem?_cons_succ, List.getElem?_cons_zero]; rfl) (by kernel_rfl) (by kernel_rfl) (by kernel_rfl) (fun _ _ _ h => h) (Or.inl ⟨by rfl, ?_⟩) HS ?_
  rotate_left
  · intro wz hSw
    try dsimp only at hSw
    go_simp
    try with_reducible rfl
  try simp only [Act.put, List.setIfInBounds_toArray, List.set_cons_zero, List.set_cons_succ]
  refine wpAnyH_take (i := 5) (v := ?_) (by simp only [List.getElem?_toArray, List.getElem?_cons_succ, List.getElem?_cons_zero]; rfl) (by kernel_rfl) (by kernel_rfl) (by kernel_rfl) (fun _ _ _ h => h) (Or.inl ⟨by rfl, ?_⟩) HS ?_
  rotate_left
  · intro wz hSw
    try dsimp only at hSw
    go_simp
    try with_reducible rfl
  try simp only [Act.put, List.setIfInBounds_toArray, List.set_cons_zero, List.set_cons_succ]
  refine wpAnyH_take (i := 6) (v := ?_) (by simp only [List.getElem?_toArray, List.getElem?_cons_succ, List.getElem?_cons_zero]; rfl) (by kernel_rfl) (by kernel_rfl) (by kernel_rfl) (fun _ _ _ h => h) (Or.inl ⟨by rfl, ?_⟩) HS ?_
  rotate_left
  · intro wz hSw
    try dsimp only at hSw
    go_simp
    try with_reducible rfl
  try simp only [Act.put, List.setIfInBounds_toArray, List.set_cons_zero, List.set_cons_succ]
  refine wpAnyH_take (i := 7) (v := undef) (by simp only [List.getElem?_toArray, List.getElem?_cons_succ, List.getElem?_cons_zero]; rfl) (by kernel_rfl) (by kernel_rfl) (by kernel_rfl) (fun _ _ _ h => h) (Or.inr ⟨by rfl, rfl⟩) HS ?_
  try simp only [Act.put, List.setIfInBounds_toArray, List.set_cons_zero, List.set_cons_succ]
  refine wpAnyH_take (i := 8) (v := undef) (by simp only [List.getElem?_toArray, List.getElem?_cons_succ, List.getElem?_cons_zero]; rfl) (by kernel_rfl) (by kernel_rfl) (by kernel_rfl) (fun _ _ _ h => h) (Or.inr ⟨by rfl, rfl⟩) HS ?_
  try simp only [Act.put, List.setIfInBounds_toArray, List.set_cons_zero, List.set_cons_succ]
  refine wpAnyH_take (i := 9) (v := undef) (by simp only [List.getElem?_toArray, List.getElem?_cons_succ, List.getElem?_cons_zero]; rfl) (by kernel_rfl) (by kernel_rfl) (by kernel_rfl) (fun _ _ _ h => h) (Or.inr ⟨by rfl, rfl⟩) HS ?_
  try simp only [Act.put, List.setIfInBounds_toArray, List.set_cons_zero, List.set_cons_succ]
  refine wpAnyH_take (i := 10) (v := undef) (by simp only [List.getElem?_toArray, List.getElem?_cons_succ, List.getElem?_cons_zero]; rfl) (by kernel_rfl) (by kernel_rfl) (by kernel_rfl) (fun _ _ _ h => h) (Or.inr ⟨by rfl, rfl⟩) HS ?_
  try simp only [Act.put, List.setIfInBounds_toArray, List.set_cons_zero, List.set_cons_succ]
  refine wpAnyH_take (i := 11) (v := undef) (by simp only [List.getElem?_toArray, List.getElem?_cons_succ, List.getElem?_cons_zero]; rfl) (by kernel_rfl) (by kernel_rfl) (by kernel_rfl) (fun _ _ _ h => h) (Or.inr ⟨by rfl, rfl⟩) HS ?_
  try simp only [Act.put, List.setIfInBounds_toArray, List.set_cons_zero, List.set_cons_succ]
  refine wpAnyH_take (i := 12) (v := undef) (by simp only [List.getElem?_toArray, List.getElem?_cons_succ, List.getElem?_cons_zero]; rfl) (by kernel_rfl) (by kernel_rfl) (by kernel_rfl) (fun _ _ _ h => h) (Or.inr ⟨by rfl, rfl⟩) HS ?_
  try simp only [Act.put, List.setIfInBounds_toArray, List.set_cons_zero, List.set_cons_succ]
  refine wpAnyH_take (i := 13) (v := undef) (by simp only [List.getElem?_toArray, List.getElem?_cons_succ, List.getElem?_cons_zero]; rfl) (by kernel_rfl) (by kernel_rfl) (by kernel_rfl) (fun _ _ _ h => h) (Or.inr ⟨by rfl, rfl⟩) HS ?_
  try simp only [Act.put, List.setIfInBounds_toArray, List.set_cons_zero, List.set_cons_succ]
  refine wpAnyH_take (i := 14) (v := undef) (by simp only [List.getElem?_toArray, List.getElem?_cons_succ, List.getElem?_cons_zero]; rfl) (by kernel_rfl) (by kernel_rfl) (by kernel_rfl) (fun _ _ _ h => h) (Or.inr ⟨by rfl, rfl⟩) HS ?_
  try simp only [Act.put, List.setIfInBounds_toArray, List.set_cons_zero, List.set_cons_succ]
  refine wpAnyH_take (i := 15) (v := undef) (by simp only [List.getElem?_toArray, List.getElem?_cons_succ, List.getElem?_cons_zero]; rfl) (by kernel_rfl) (by kernel_rfl) (by kernel_rfl) (fun _ _ _ h => h) (Or.inr ⟨by rfl, rfl⟩) HS ?_
  try simp only [Act.put, List.setIfInBounds_toArray, List.set_cons_zero, List.set_cons_succ]
  refine wpAnyH_take (i := 16) (v := undef) (by simp only [List.getElem?_toArray, List.getElem?_cons_succ, List.getElem?_cons_zero]; rfl) (by kernel_rfl) (by kernel_rfl) (by kernel_rfl) (fun _ _ _ h => h) (Or.inr ⟨by rfl, rfl⟩) HS ?_
  try simp only [Act.put, List.setIfInBounds_toArray, List.set_cons_zero, List.set_cons_succ]
  refine wpAnyH_take (i := 17) (v := undef) (by simp only [List.getElem?_toArray, List.getElem?_cons_succ, List.getElem?_cons_zero]; rfl) (by kernel_rfl) (by kernel_rfl) (by kernel_rfl) (fun _ _ _ h => h) (Or.inr ⟨by rfl, rfl⟩) HS ?_
  try simp only [Act.put, List.setIfInBounds_toArray, List.set_cons_zero, List.set_cons_succ]
  refine wpAnyH_take (i := 18) (v := undef) (by simp only [List.getElem?_toArray, List.getElem?_cons_succ, List.getElem?_cons_zero]; rfl) (by kernel_rfl) (by kernel_rfl) (by kernel_rfl) (fun _ _ _ h => h) (Or.inr ⟨by rfl, rfl⟩) HS ?_
  try simp only [Act.put, List.setIfInBounds_toArray, List.set_cons_zero, List.set_cons_succ]
  refine wpAnyH_take (i := 19) (v := ?_) (by simp only [List.getElem?_toArray, List.getElem?_cons_succ, List.getElem?_cons_zero]; rfl) (by kernel_rfl) (by kernel_rfl) (by kernel_rfl) (fun _ _ _ h => h) (Or.inl ⟨by rfl, ?_⟩) HS ?_
  rotate_left
  · intro wz hSw
    try dsimp only at hSw
    go_simp
    try with_reducible rfl
  try simp only [Act.put, List.setIfInBounds_toArray, List.set_cons_zero, List.set_cons_succ]
  refine wpAnyH_take (i := 20) (v := ?_) (by simp only [List.getElem?_toArray, List.getElem?_cons_succ, List.getElem?_cons_zero]; rfl) (by kernel_rfl) (by kernel_rfl) (by kernel_rfl) (fun _ _ _ h => h) (Or.inl ⟨by rfl, ?_⟩) HS ?_
  rotate_left
  · intro wz hSw
    try dsimp only at hSw
    go_simp
    try with_reducible rfl
  try simp only [Act.put, List.setIfInBounds_toArray, List.set_cons_zero, List.set_cons_succ]
  refine wpAnyH_done (by kernel_rfl) ?_ _
  refine NoPanic.normal ?_
  go_wp2_with fail
  go_ret
  exact ⟨rfl, hb1.drew⟩

theorem atRange_any (w : World) (b bp cap T : Nat) (ps : List Tok) (q : RS) (h : Rdr w b bp cap T ps q) :
    Calls Tryd.prog 87 #[.pointer (some ⟨b, 0, none⟩)] w fun e w' => e = .returned (.bool (atRangeM ps q.next)) ∧ Below w.heap.size w w' := by
  unfold atRangeM
  rcases hk1 : ((cur ps q.next).kind == 1) with _ | _
  · rcases hk2 : ((cur ps q.next).kind == 2) with _ | _
    · exact atRange_else w b bp cap T ps q h hk1 hk2
    · exact atRange_word w b bp cap T ps q h hk1 hk2
  · exact atRange_name w b bp cap T ps q h hk1
end

section
open Go.RowKit
set_option linter.unusedSimpArgs false
set_option linter.unusedVariables false

set_option maxHeartbeats 3000000 in
theorem range_any {ps : List Tok} {E : Nat → Nat → R Ex} {B : Nat → Nat → R (List St)} (hE : SaidE ps E) (hB : SaidB ps B) : SaidF 88 ps (rangeM ps E B) := by
  intro w b bp cap T q r h hr
  have hbs := h.bsize
  have hps := h.lt
  have hfar := h.far
  have h0 := h.below ((Below.refl w.heap.size w).alloc (Nat.le_refl _) (.cells #[.int .i64 0, .string ⟨#[]⟩, .string ⟨#[]⟩, .slice none 0 0, .slice none 0 0, .slice none 0 0, .slice none 0 0] 34))
  have hx0 := heap_alloc_new w (.cells #[.int .i64 0, .string ⟨#[]⟩, .string ⟨#[]⟩, .slice none 0 0, .slice none 0 0, .slice none 0 0, .slice none 0 0] 34)
  unfold rangeM at hr
  go_enter Tryd.func88, Tryd.ntmps88
  go_wp2_with fail
  rcases bindR_some hr with ⟨k, g0, rfl⟩ | ⟨nm0, n1, g0, f0⟩
  · rcases nameM_some g0 with ⟨hT, h3⟩ | ⟨hT, h3⟩
    · cases h3
    · cases h3
      refine (name_no _ _ _ _ _ _ _ h0 hT).mono ?_
      rintro e w1 ⟨rfl, hR, k1⟩
      have hblk := (k1.block w.heap.size (by simp) (by omega)).trans hx0
      have hc := cells7 hblk
      have hz := thaw4 hblk
      go_wp2_with fail
      exact fin_stmt Tryd.results88 rfl rfl rfl (store7 hblk _ _ _ _ _ _ _) (postS_bad h (((Kept.refl _ _).alloc _).trans k1) (kept7 _ _ _ _ _ _ _ _ _) (Nat.le_refl _) hR)
  · rcases nameM_some g0 with ⟨hT, h3⟩ | ⟨hT, h3⟩
    rotate_left
    · cases h3
    cases h3
    refine (name_yes _ _ _ _ _ _ _ h0 hT).mono ?_
    rintro e w1 ⟨rfl, hR1, k1⟩
    have hs1 := k1.size
    simp at hs1
    have hx1 := (k1.block w.heap.size (by simp) (by omega)).trans hx0
    have kw1 : Kept b w w1 := ((Kept.refl b w).alloc _).trans k1
    go_wp2_with fail
    rcases bindR_some f0 with ⟨k, g1, rfl⟩ | ⟨nm1, n2, g1, f1⟩
    · rcases needM_some g1 with ⟨hT, h3⟩ | ⟨hT, h3⟩
      · cases h3
      · cases h3
        refine (mark_no _ _ _ _ _ _ _ _ hR1 hT).mono ?_
        rintro e w2 ⟨rfl, hR, k2⟩
        have hblk := (k2.block w.heap.size (by omega) (by omega)).trans hx1
        have hc := cells7 hblk
        have hz := thaw4 hblk
        go_wp2_with fail
        exact fin_stmt Tryd.results88 rfl rfl rfl (store7 hblk _ _ _ _ _ _ _) (postS_bad h (kw1.trans k2) (kept7 _ _ _ _ _ _ _ _ _) (Nat.le_refl _) hR)
    · rcases needM_some g1 with ⟨hT, h3⟩ | ⟨hT, h3⟩
      rotate_left
      · cases h3
      cases h3
      refine (mark_yes _ _ _ _ _ _ _ _ hR1 hT).mono ?_
      rintro e w2 ⟨rfl, hR2, k2⟩
      have hs2 := k2.size
      have hx2 := (k2.block w.heap.size (by omega) (by omega)).trans hx1
      have kw2 := kw1.trans k2
      go_wp2_with fail
      rcases bindR_some f1 with ⟨k, g2, rfl⟩ | ⟨nm2, n3, g2, f2⟩
      · rcases nameM_some g2 with ⟨hT, h3⟩ | ⟨hT, h3⟩
        · cases h3
        · cases h3
          refine (name_no _ _ _ _ _ _ _ hR2 hT).mono ?_
          rintro e w3 ⟨rfl, hR, k3⟩
          have hblk := (k3.block w.heap.size (by omega) (by omega)).trans hx2
          have hc := cells7 hblk
          have hz := thaw4 hblk
          go_wp2_with fail
          exact fin_stmt Tryd.results88 rfl rfl rfl (store7 hblk _ _ _ _ _ _ _) (postS_bad h (kw2.trans k3) (kept7 _ _ _ _ _ _ _ _ _) (Nat.le_refl _) hR)
      · rcases nameM_some g2 with ⟨hT, h3⟩ | ⟨hT, h3⟩
        rotate_left
        · cases h3
        cases h3
        refine (name_yes _ _ _ _ _ _ _ hR2 hT).mono ?_
        rintro e w3 ⟨rfl, hR3, k3⟩
        have hs3 := k3.size
        have hx3 := (k3.block w.heap.size (by omega) (by omega)).trans hx2
        have kw3 := kw2.trans k3
        go_wp2_with fail
        rcases bindR_some f2 with ⟨k, g3, rfl⟩ | ⟨nm3, n4, g3, f3⟩
        · rcases needM_some g3 with ⟨hT, h3⟩ | ⟨hT, h3⟩
          · cases h3
          · cases h3
            refine (mark_no _ _ _ _ _ _ _ _ hR3 hT).mono ?_
            rintro e w4 ⟨rfl, hR, k4⟩
            have hblk := (k4.block w.heap.size (by omega) (by omega)).trans hx3
            have hc := cells7 hblk
            have hz := thaw4 hblk
            go_wp2_with fail
            exact fin_stmt Tryd.results88 rfl rfl rfl (store7 hblk _ _ _ _ _ _ _) (postS_bad h (kw3.trans k4) (kept7 _ _ _ _ _ _ _ _ _) (Nat.le_refl _) hR)
        · rcases needM_some g3 with ⟨hT, h3⟩ | ⟨hT, h3⟩
          rotate_left
          · cases h3
          cases h3
          refine (mark_yes _ _ _ _ _ _ _ _ hR3 hT).mono ?_
          rintro e w4 ⟨rfl, hR4, k4⟩
          have hs4 := k4.size
          have hx4 := (k4.block w.heap.size (by omega) (by omega)).trans hx3
          have kw4 := kw3.trans k4
          go_wp2_with fail
          rcases bindR_some f3 with ⟨k, g4, rfl⟩ | ⟨nm4, n5, g4, f4⟩
          · rcases needM_some g4 with ⟨hT, h3⟩ | ⟨hT, h3⟩
            · cases h3
            · cases h3
              refine (keyword_no _ _ _ _ _ _ _ _ hR4 hT).mono ?_
              rintro e w5 ⟨rfl, hR, k5⟩
              have hblk := (k5.block w.heap.size (by omega) (by omega)).trans hx4
              have hc := cells7 hblk
              have hz := thaw4 hblk
              go_wp2_with fail
              exact fin_stmt Tryd.results88 rfl rfl rfl (store7 hblk _ _ _ _ _ _ _) (postS_bad h (kw4.trans k5) (kept7 _ _ _ _ _ _ _ _ _) (Nat.le_refl _) hR)
          · rcases needM_some g4 with ⟨hT, h3⟩ | ⟨hT, h3⟩
            rotate_left
            · cases h3
            cases h3
            refine (keyword_yes _ _ _ _ _ _ _ _ hR4 hT).mono ?_
            rintro e w5 ⟨rfl, hR5, k5⟩
            have hs5 := k5.size
            have hx5 := (k5.block w.heap.size (by omega) (by omega)).trans hx4
            have kw5 := kw4.trans k5
            go_wp2_with fail
            refine (headed_any hE hB _ b bp cap T _ 6 _ _ _ hR5 f4).mono ?_
            intro e wz hP
            obtain ⟨kz, v0, v1, v2, a3, l3, c3, a4, l4, c4, a5, l5, c5, a6, l6, c6, ok, rfl⟩ := hP.sh
            have hblk := (kz.block w.heap.size (by omega) (by omega)).trans hx5
            have hc := cells7 hblk
            have hz := thaw4 hblk
            have HP : Hid (_) := hP
            clear hP
            go_wp2_with fail
            exact fin_stmt Tryd.results88 rfl rfl rfl (store7 hblk _ _ _ _ _ _ _) (PostS.fwd h kw5 (by omega) (by omega) HP.out (kept7 _ _ _ _ _ _ _ _ _))

set_option maxHeartbeats 1000000 in
theorem loop_any {ps : List Tok} {E : Nat → Nat → R Ex} {B : Nat → Nat → R (List St)} (hE : SaidE ps E) (hB : SaidB ps B) : SaidF 77 ps (loopM ps E B) := by
  intro w b bp cap T q r h hr
  have hbs := h.bsize
  have hps := h.lt
  have hfar := h.far
  have h0 := h.below ((Below.refl w.heap.size w).alloc (Nat.le_refl _) (.cells #[.int .i64 0, .string ⟨#[]⟩, .string ⟨#[]⟩, .slice none 0 0, .slice none 0 0, .slice none 0 0, .slice none 0 0] 34))
  have hx0 := heap_alloc_new w (.cells #[.int .i64 0, .string ⟨#[]⟩, .string ⟨#[]⟩, .slice none 0 0, .slice none 0 0, .slice none 0 0, .slice none 0 0] 34)
  unfold loopM at hr
  go_enter Tryd.func77, Tryd.ntmps77
  go_wp2_with fail
  refine (atRange_any _ _ _ _ _ _ _ h0).mono ?_
  rintro e w1 ⟨rfl, hb1⟩
  have h1 := h0.below hb1
  have hs1 := hb1.size
  simp at hs1
  have hx1 := (hb1.block w.heap.size (by simp)).trans hx0
  have kw1 : Kept b w w1 := ((Kept.refl b w).alloc _).trans (Kept.of_below hb1)
  rcases hA : atRangeM ps q.next with _ | _
  · rw [hA] at hr
    simp only [Bool.false_eq_true, if_false] at hr
    go_wp2_with fail
    refine (headed_any hE hB _ b bp cap T _ 5 [] [] _ h1 hr).mono ?_
    intro e wz hP
    obtain ⟨kz, v0, v1, v2, a3, l3, c3, a4, l4, c4, a5, l5, c5, a6, l6, c6, ok, rfl⟩ := hP.sh
    have hblk := (kz.block w.heap.size (by omega) (by omega)).trans hx1
    have hc := cells7 hblk
    have hz := thaw4 hblk
    have HP : Hid (_) := hP
    clear hP
    go_wp2_with fail
    exact fin_stmt Tryd.results77 rfl rfl rfl (store7 hblk _ _ _ _ _ _ _) (PostS.fwd (n := q.next) h kw1 (by omega) (by omega) HP.out (kept7 _ _ _ _ _ _ _ _ _))
  · rw [hA] at hr
    simp only [if_true] at hr
    go_wp2_with fail
    refine (range_any hE hB _ b bp cap T _ _ h1 hr).mono ?_
    intro e wz hP
    obtain ⟨kz, v0, v1, v2, a3, l3, c3, a4, l4, c4, a5, l5, c5, a6, l6, c6, ok, rfl⟩ := hP.sh
    have hblk := (kz.block w.heap.size (by omega) (by omega)).trans hx1
    have hc := cells7 hblk
    have hz := thaw4 hblk
    have HP : Hid (_) := hP
    clear hP
    go_wp2_with fail
    exact fin_stmt Tryd.results77 rfl rfl rfl (store7 hblk _ _ _ _ _ _ _) (PostS.fwd (n := q.next) h kw1 (by omega) (by omega) HP.out (kept7 _ _ _ _ _ _ _ _ _))
end

section
open Go.RowKit
set_option linter.unusedSimpArgs false
set_option linter.unusedVariables false

def noM (_ _ : Nat) : R St := none

def blockG (ps : List Tok) (E : Nat → Nat → R Ex) (f : Nat) : Nat → Nat → Nat → R (List St)
  | 0, _, _ => none
  | g + 1, d, n => blockM ps (statementN ps E (ifM ps E (blockG ps E f g) f) (loopM ps E (blockG ps E f g)) noM f) f d n

theorem said_no (F : Nat) (ps : List Tok) : SaidF F ps noM := fun _ _ _ _ _ _ _ _ h => by cases h

theorem block_said {ps : List Tok} {E : Nat → Nat → R Ex} (hE : SaidE ps E) (f : Nat) (hf : f ≤ 1000000) : ∀ g, SaidB ps (blockG ps E f g)
  | 0 => fun _ _ _ _ _ _ _ _ h => by cases h
  | g + 1 => block_any (statement_any hE (if_said hE (block_said hE f hf g) f) (loop_any hE (block_said hE f hf g)) (said_no _ ps) f hf) f hf

/-- all functions of the pieces: f: the fuel -/
def functionsM (ps : List Tok) (f : Nat) : R (List Fn') := funcsLoop ps (functionM ps (blockG ps (exprM ps f) f 40) f 0) f [] 0

theorem functions_said (ps : List Tok) (f : Nat) (hf : f ≤ 1000000) (w : World) (b bp cap T : Nat) (a k : Int) (r : Sum (Int × Int) (List Fn' × Nat)) (h : Rdr w b bp cap T ps ⟨0, 0, a, k⟩) (hr : functionsM ps f = some r) :
    Calls Tryd.prog 11 #[.pointer (some ⟨b, 0, none⟩)] w (PostFs b bp cap T ps ⟨0, 0, a, k⟩ w r) :=
  functions_any (block_said (expr_said ps f hf) f hf 40) w b bp cap T f f hf hf ⟨0, 0, a, k⟩ r h hr
end

end Go.Proofs.YtffpcpdcgfmoiaaDoor
