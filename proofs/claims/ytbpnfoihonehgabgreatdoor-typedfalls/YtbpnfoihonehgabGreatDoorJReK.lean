/-
  Blocks within blocks, by the fuel. 
-/
import Derived.Test.YtbpnfoihonehgabGreatDoorJReC
import Derived.Deep.RegionHeld3
import Derived.Test.YtbpnfoihonehgabGreatDoorJReJ
namespace Go.Proofs.YtbpnfoihonehgabGreatDoor
section
open Go.RowKit
set_option linter.unusedSimpArgs false
set_option linter.unusedVariables false

theorem below_chain {w w1 w2 : World} (h : Below w.heap.size w w1) (k : Below w1.drew.heap.size w1.drew w2) : Below w.heap.size w w2 :=
  ⟨k.os.trans h.os, k.tape.trans h.tape, k.output.trans h.output, Nat.le_trans h.size k.size, fun i hi => (k.block i (Nat.lt_of_lt_of_le hi h.size)).trans (h.block i hi)⟩

set_option maxHeartbeats 1000000 in
theorem atRange_name (w : World) (b bp cap T : Nat) (ps : List Tok) (q : RS) (h : Rdr w b bp cap T ps q) (hk1 : ((cur ps q.next).kind == 1) = true) :
    Calls Tryz.prog 112 #[.pointer (some ⟨b, 0, none⟩)] w fun e w' => e = .returned (.bool (isT (cur ps (q.next + 1)) 5 [44])) ∧ Below w.heap.size w w' := by
  have hl := h.len
  have hn := h.nx
  have hn1 : q.next + 1 < ps.length := h.fin _ hn (by simp at hk1; omega)
  go_enter Tryz.func112, Tryz.ntmps112
  go_wp2_with fail
  refine (peek_any _ _ _ _ _ _ _ h).mono ?_
  rintro e w1 ⟨rfl, hb1⟩
  have h1 := h.below hb1
  obtain ⟨c0, c1, c2, c3, c4⟩ := h1.cells
  obtain ⟨t0, t1, t2, t3⟩ := h1.row (q.next + 1) hn1
  have HI : Hid (∀ k s w, _) := is_any (cur ps (q.next + 1))
  unfold Tok.val at HI ⊢
  go_wp2_with fail
  clear c2 c3 c4 h1
  have hq1 : (q.next : Int) + 1 < ps.length := by omega
  have hq0 : (0 : Int) ≤ q.next := by omega
  have hq2 : (q.next : Int) ≤ 4001 := by omega
  have hq3 : (0 : Int) ≤ (q.next : Int) + 1 := by omega
  have hwr : IntKind.i64.wrap ((q.next : Int) + 1) = (q.next : Int) + 1 := by rw [IntKind.wrap_i64]; omega
  have htn : ((q.next : Int) + 1).toNat = q.next + 1 := by omega
  generalize htk : cur ps (q.next + 1) = tk at *
  have HTK : Hid (_) := htk
  clear htk
  refine wp_region_noPanic ?_
  refine wp_region_held_drew (S := (fun w' => w'.cell? ⟨b, 0, none⟩ = some (.slice (some ⟨bp, 0, none⟩) ps.length cap) ∧ w'.cell? ⟨b, 1, none⟩ = some (.int .i64 q.next) ∧ w'.cell? ⟨bp, (q.next + 1) * 4, none⟩ = some (.int .i64 tk.kind) ∧ w'.cell? ⟨bp, (q.next + 1) * 4 + 1, none⟩ = some (.int .i64 tk.at_) ∧ w'.cell? ⟨bp, (q.next + 1) * 4 + 2, none⟩ = some (.int .i64 tk.n) ∧ w'.cell? ⟨bp, (q.next + 1) * 4 + 3, none⟩ = some (.string ⟨tk.s.toArray⟩))) (by kernel_rfl) ⟨c0, c1, t0, t1, t2, t3⟩ ?_
  intro HS
  refine wpAnyH_take (i := 0) (v := ?_) (by simp only [List.getElem?_toArray, List.getElem?_cons_succ, List.getElem?_cons_zero]; rfl) (by kernel_rfl) (by kernel_rfl) (by kernel_rfl) (fun _ _ _ h => h) (Or.inl ⟨by rfl, ?_⟩) HS ?_
  rotate_left
  · intro wz hSw
    try dsimp only at hSw
    obtain ⟨e0, e1, e2, e3, e4, e5⟩ := hSw
    go_simp
    try with_reducible rfl
  try simp only [Act.put, List.setIfInBounds_toArray, List.set_cons_zero, List.set_cons_succ]
  refine wpAnyH_take (i := 1) (v := ?_) (by simp only [List.getElem?_toArray, List.getElem?_cons_succ, List.getElem?_cons_zero]; rfl) (by kernel_rfl) (by kernel_rfl) (by kernel_rfl) (fun _ _ _ h => h) (Or.inl ⟨by rfl, ?_⟩) HS ?_
  rotate_left
  · intro wz hSw
    try dsimp only at hSw
    obtain ⟨e0, e1, e2, e3, e4, e5⟩ := hSw
    go_simp
    try with_reducible rfl
  try simp only [Act.put, List.setIfInBounds_toArray, List.set_cons_zero, List.set_cons_succ]
  refine wpAnyH_take (i := 2) (v := ?_) (by simp only [List.getElem?_toArray, List.getElem?_cons_succ, List.getElem?_cons_zero]; rfl) (by kernel_rfl) (by kernel_rfl) (by kernel_rfl) (fun _ _ _ h => h) (Or.inl ⟨by rfl, ?_⟩) HS ?_
  rotate_left
  · intro wz hSw
    try dsimp only at hSw
    obtain ⟨e0, e1, e2, e3, e4, e5⟩ := hSw
    go_simp
    try with_reducible rfl
  try simp only [Act.put, List.setIfInBounds_toArray, List.set_cons_zero, List.set_cons_succ]
  refine wpAnyH_take (i := 3) (v := undef) (by simp only [List.getElem?_toArray, List.getElem?_cons_succ, List.getElem?_cons_zero]; rfl) (by kernel_rfl) (by kernel_rfl) (by kernel_rfl) (fun _ _ _ h => h) (Or.inr ⟨by rfl, rfl⟩) HS ?_
  try simp only [Act.put, List.setIfInBounds_toArray, List.set_cons_zero, List.set_cons_succ]
  refine wpAnyH_take (i := 4) (v := undef) (by simp only [List.getElem?_toArray, List.getElem?_cons_succ, List.getElem?_cons_zero]; rfl) (by kernel_rfl) (by kernel_rfl) (by kernel_rfl) (fun _ _ _ h => h) (Or.inr ⟨by rfl, rfl⟩) HS ?_
  try simp only [Act.put, List.setIfInBounds_toArray, List.set_cons_zero, List.set_cons_succ]
  refine wpAnyH_take (i := 5) (v := ?_) (by simp only [List.getElem?_toArray, List.getElem?_cons_succ, List.getElem?_cons_zero]; rfl) (by kernel_rfl) (by kernel_rfl) (by kernel_rfl) (fun _ _ _ h => h) (Or.inl ⟨by rfl, ?_⟩) HS ?_
  rotate_left
  · intro wz hSw
    try dsimp only at hSw
    obtain ⟨e0, e1, e2, e3, e4, e5⟩ := hSw
    go_simp
    try with_reducible rfl
  try simp only [Act.put, List.setIfInBounds_toArray, List.set_cons_zero, List.set_cons_succ]
  refine wpAnyH_take (i := 6) (v := ?_) (by simp only [List.getElem?_toArray, List.getElem?_cons_succ, List.getElem?_cons_zero]; rfl) (by kernel_rfl) (by kernel_rfl) (by kernel_rfl) (fun _ _ _ h => h) (Or.inl ⟨by rfl, ?_⟩) HS ?_
  rotate_left
  · intro wz hSw
    try dsimp only at hSw
    obtain ⟨e0, e1, e2, e3, e4, e5⟩ := hSw
    go_simp
    try with_reducible rfl
  try simp only [Act.put, List.setIfInBounds_toArray, List.set_cons_zero, List.set_cons_succ]
  refine wpAnyH_take (i := 7) (v := ?_) (by simp only [List.getElem?_toArray, List.getElem?_cons_succ, List.getElem?_cons_zero]; rfl) (by kernel_rfl) (by kernel_rfl) (by kernel_rfl) (fun _ _ _ h => h) (Or.inl ⟨by rfl, ?_⟩) HS ?_
  rotate_left
  · intro wz hSw
    try dsimp only at hSw
    obtain ⟨e0, e1, e2, e3, e4, e5⟩ := hSw
    go_simp
    try with_reducible rfl
  try simp only [Act.put, List.setIfInBounds_toArray, List.set_cons_zero, List.set_cons_succ]
  refine wpAnyH_take (i := 8) (v := ?_) (by simp only [List.getElem?_toArray, List.getElem?_cons_succ, List.getElem?_cons_zero]; rfl) (by kernel_rfl) (by kernel_rfl) (by kernel_rfl) (fun _ _ _ h => h) (Or.inl ⟨by rfl, ?_⟩) HS ?_
  rotate_left
  · intro wz hSw
    try dsimp only at hSw
    obtain ⟨e0, e1, e2, e3, e4, e5⟩ := hSw
    go_simp
    try with_reducible rfl
  try simp only [Act.put, List.setIfInBounds_toArray, List.set_cons_zero, List.set_cons_succ]
  refine wpAnyH_take (i := 9) (v := ?_) (by simp only [List.getElem?_toArray, List.getElem?_cons_succ, List.getElem?_cons_zero]; rfl) (by kernel_rfl) (by kernel_rfl) (by kernel_rfl) (fun _ _ _ h => h) (Or.inl ⟨by rfl, ?_⟩) HS ?_
  rotate_left
  · intro wz hSw
    try dsimp only at hSw
    obtain ⟨e0, e1, e2, e3, e4, e5⟩ := hSw
    go_simp
    try with_reducible rfl
  try simp only [Act.put, List.setIfInBounds_toArray, List.set_cons_zero, List.set_cons_succ]
  refine wpAnyH_take (i := 10) (v := ?_) (by simp only [List.getElem?_toArray, List.getElem?_cons_succ, List.getElem?_cons_zero]; rfl) (by kernel_rfl) (by kernel_rfl) (by kernel_rfl) (fun _ _ _ h => h) (Or.inl ⟨by rfl, ?_⟩) HS ?_
  rotate_left
  · intro wz hSw
    try dsimp only at hSw
    obtain ⟨e0, e1, e2, e3, e4, e5⟩ := hSw
    go_simp
    try with_reducible rfl
  try simp only [Act.put, List.setIfInBounds_toArray, List.set_cons_zero, List.set_cons_succ]
  refine wpAnyH_take (i := 11) (v := ?_) (by simp only [List.getElem?_toArray, List.getElem?_cons_succ, List.getElem?_cons_zero]; rfl) (by kernel_rfl) (by kernel_rfl) (by kernel_rfl) (fun _ _ _ h => h) (Or.inl ⟨by rfl, ?_⟩) HS ?_
  rotate_left
  · intro wz hSw
    try dsimp only at hSw
    obtain ⟨e0, e1, e2, e3, e4, e5⟩ := hSw
    go_simp
    try with_reducible rfl
  try simp only [Act.put, List.setIfInBounds_toArray, List.set_cons_zero, List.set_cons_succ]
  refine wpAnyH_take (i := 12) (v := ?_) (by simp only [List.getElem?_toArray, List.getElem?_cons_succ, List.getElem?_cons_zero]; rfl) (by kernel_rfl) (by kernel_rfl) (by kernel_rfl) (fun _ _ _ h => h) (Or.inl ⟨by rfl, ?_⟩) HS ?_
  rotate_left
  · intro wz hSw
    try dsimp only at hSw
    obtain ⟨e0, e1, e2, e3, e4, e5⟩ := hSw
    go_simp
    try with_reducible rfl
  try simp only [Act.put, List.setIfInBounds_toArray, List.set_cons_zero, List.set_cons_succ]
  refine wpAnyH_take (i := 13) (v := ?_) (by simp only [List.getElem?_toArray, List.getElem?_cons_succ, List.getElem?_cons_zero]; rfl) (by kernel_rfl) (by kernel_rfl) (by kernel_rfl) (fun _ _ _ h => h) (Or.inl ⟨by rfl, ?_⟩) HS ?_
  rotate_left
  · intro wz hSw
    try dsimp only at hSw
    obtain ⟨e0, e1, e2, e3, e4, e5⟩ := hSw
    go_simp
    try with_reducible rfl
  try simp only [Act.put, List.setIfInBounds_toArray, List.set_cons_zero, List.set_cons_succ]
  refine wpAnyH_take (i := 14) (v := ?_) (by simp only [List.getElem?_toArray, List.getElem?_cons_succ, List.getElem?_cons_zero]; rfl) (by kernel_rfl) (by kernel_rfl) (by kernel_rfl) (fun _ _ _ h => h) (Or.inl ⟨by rfl, ?_⟩) HS ?_
  rotate_left
  · intro wz hSw
    try dsimp only at hSw
    obtain ⟨e0, e1, e2, e3, e4, e5⟩ := hSw
    go_simp
    try with_reducible rfl
  try simp only [Act.put, List.setIfInBounds_toArray, List.set_cons_zero, List.set_cons_succ]
  refine wpAnyH_take (i := 15) (v := ?_) (by simp only [List.getElem?_toArray, List.getElem?_cons_succ, List.getElem?_cons_zero]; rfl) (by kernel_rfl) (by kernel_rfl) (by kernel_rfl) (fun _ _ _ h => h) (Or.inl ⟨by rfl, ?_⟩) HS ?_
  rotate_left
  · intro wz hSw
    try dsimp only at hSw
    obtain ⟨e0, e1, e2, e3, e4, e5⟩ := hSw
    go_simp
    try with_reducible rfl
  try simp only [Act.put, List.setIfInBounds_toArray, List.set_cons_zero, List.set_cons_succ]
  refine wpAnyH_take (i := 16) (v := ?_) (by simp only [List.getElem?_toArray, List.getElem?_cons_succ, List.getElem?_cons_zero]; rfl) (by kernel_rfl) (by kernel_rfl) (by kernel_rfl) (fun _ _ _ h => h) (Or.inl ⟨by rfl, ?_⟩) HS ?_
  rotate_left
  · intro wz hSw
    try dsimp only at hSw
    obtain ⟨e0, e1, e2, e3, e4, e5⟩ := hSw
    go_simp
    try with_reducible rfl
  try simp only [Act.put, List.setIfInBounds_toArray, List.set_cons_zero, List.set_cons_succ]
  refine wpAnyH_take (i := 17) (v := ?_) (by simp only [List.getElem?_toArray, List.getElem?_cons_succ, List.getElem?_cons_zero]; rfl) (by kernel_rfl) (by kernel_rfl) (by kernel_rfl) (fun _ _ _ h => h) (Or.inl ⟨by rfl, ?_⟩) HS ?_
  rotate_left
  · intro wz hSw
    try dsimp only at hSw
    obtain ⟨e0, e1, e2, e3, e4, e5⟩ := hSw
    go_simp
    try with_reducible rfl
  try simp only [Act.put, List.setIfInBounds_toArray, List.set_cons_zero, List.set_cons_succ]
  refine wpAnyH_ready (rs := [18]) (by kernel_rfl) (by simp) (AllReadyH.cons (by simp only [List.getElem?_toArray, List.getElem?_cons_succ, List.getElem?_cons_zero]; rfl) ?_ AllReadyH.nil)
  intro K' HK
  rw [if_pos (by rfl)]
  have hbw := h.bsize
  have hpw := h.lt
  have hs1 := hb1.size
  clear HS
  go_simp
  go_wp2_with (go_at_call 75; refine (HI.out _ _ _).mono ?_; rintro e w2 ⟨rfl, hb2⟩)
  have HS2 : (fun w' => w'.cell? ⟨b, 0, none⟩ = some (.slice (some ⟨bp, 0, none⟩) ps.length cap) ∧ w'.cell? ⟨b, 1, none⟩ = some (.int .i64 q.next) ∧ w'.cell? ⟨bp, (q.next + 1) * 4, none⟩ = some (.int .i64 tk.kind) ∧ w'.cell? ⟨bp, (q.next + 1) * 4 + 1, none⟩ = some (.int .i64 tk.at_) ∧ w'.cell? ⟨bp, (q.next + 1) * 4 + 2, none⟩ = some (.int .i64 tk.n) ∧ w'.cell? ⟨bp, (q.next + 1) * 4 + 3, none⟩ = some (.string ⟨tk.s.toArray⟩)) w2 := ⟨(hb2.cell (p := ⟨b, 0, none⟩) (by show b < w1.heap.size; omega)).trans c0, (hb2.cell (p := ⟨b, 1, none⟩) (by show b < w1.heap.size; omega)).trans c1, (hb2.cell (p := ⟨bp, (q.next + 1) * 4, none⟩) (by show bp < w1.heap.size; omega)).trans t0, (hb2.cell (p := ⟨bp, (q.next + 1) * 4 + 1, none⟩) (by show bp < w1.heap.size; omega)).trans t1, (hb2.cell (p := ⟨bp, (q.next + 1) * 4 + 2, none⟩) (by show bp < w1.heap.size; omega)).trans t2, (hb2.cell (p := ⟨bp, (q.next + 1) * 4 + 3, none⟩) (by show bp < w1.heap.size; omega)).trans t3⟩
  refine HK.out _ _ HS2 ?_
  intro HS
  try simp only [Act.put, List.setIfInBounds_toArray, List.set_cons_zero, List.set_cons_succ]
  refine wpAnyH_take (i := 19) (v := ?_) (by simp only [List.getElem?_toArray, List.getElem?_cons_succ, List.getElem?_cons_zero]; rfl) (by kernel_rfl) (by kernel_rfl) (by kernel_rfl) (fun _ _ _ h => h) (Or.inl ⟨by rfl, ?_⟩) HS ?_
  rotate_left
  · intro wz hSw
    try dsimp only at hSw
    obtain ⟨e0, e1, e2, e3, e4, e5⟩ := hSw
    go_simp
    try with_reducible rfl
  try simp only [Act.put, List.setIfInBounds_toArray, List.set_cons_zero, List.set_cons_succ]
  refine wpAnyH_take (i := 20) (v := ?_) (by simp only [List.getElem?_toArray, List.getElem?_cons_succ, List.getElem?_cons_zero]; rfl) (by kernel_rfl) (by kernel_rfl) (by kernel_rfl) (fun _ _ _ h => h) (Or.inl ⟨by rfl, ?_⟩) HS ?_
  rotate_left
  · intro wz hSw
    try dsimp only at hSw
    obtain ⟨e0, e1, e2, e3, e4, e5⟩ := hSw
    go_simp
    try with_reducible rfl
  try simp only [Act.put, List.setIfInBounds_toArray, List.set_cons_zero, List.set_cons_succ]
  refine wpAnyH_done (by kernel_rfl) ?_ _
  refine NoPanic.normal ?_
  go_wp2_with fail
  go_ret
  exact ⟨by rw [HTK.out]; rfl, below_chain hb1 hb2⟩

set_option maxHeartbeats 1000000 in
theorem atRange_word (w : World) (b bp cap T : Nat) (ps : List Tok) (q : RS) (h : Rdr w b bp cap T ps q) (hk1 : ((cur ps q.next).kind == 1) = false) (hk2 : ((cur ps q.next).kind == 2) = true) :
    Calls Tryz.prog 112 #[.pointer (some ⟨b, 0, none⟩)] w fun e w' => e = .returned (.bool (isT (cur ps (q.next + 1)) 5 [44])) ∧ Below w.heap.size w w' := by
  have hl := h.len
  have hn := h.nx
  have hn1 : q.next + 1 < ps.length := h.fin _ hn (by simp at hk2; omega)
  go_enter Tryz.func112, Tryz.ntmps112
  go_wp2_with fail
  refine (peek_any _ _ _ _ _ _ _ h).mono ?_
  rintro e w1 ⟨rfl, hb1⟩
  have h1 := h.below hb1
  obtain ⟨c0, c1, c2, c3, c4⟩ := h1.cells
  obtain ⟨t0, t1, t2, t3⟩ := h1.row (q.next + 1) hn1
  have HI : Hid (∀ k s w, _) := is_any (cur ps (q.next + 1))
  unfold Tok.val at HI ⊢
  go_wp2_with fail
  clear c2 c3 c4 h1
  have hq1 : (q.next : Int) + 1 < ps.length := by omega
  have hq0 : (0 : Int) ≤ q.next := by omega
  have hq2 : (q.next : Int) ≤ 4001 := by omega
  have hq3 : (0 : Int) ≤ (q.next : Int) + 1 := by omega
  have hwr : IntKind.i64.wrap ((q.next : Int) + 1) = (q.next : Int) + 1 := by rw [IntKind.wrap_i64]; omega
  have htn : ((q.next : Int) + 1).toNat = q.next + 1 := by omega
  generalize htk : cur ps (q.next + 1) = tk at *
  have HTK : Hid (_) := htk
  clear htk
  refine wp_region_noPanic ?_
  refine wp_region_held_drew (S := (fun w' => w'.cell? ⟨b, 0, none⟩ = some (.slice (some ⟨bp, 0, none⟩) ps.length cap) ∧ w'.cell? ⟨b, 1, none⟩ = some (.int .i64 q.next) ∧ w'.cell? ⟨bp, (q.next + 1) * 4, none⟩ = some (.int .i64 tk.kind) ∧ w'.cell? ⟨bp, (q.next + 1) * 4 + 1, none⟩ = some (.int .i64 tk.at_) ∧ w'.cell? ⟨bp, (q.next + 1) * 4 + 2, none⟩ = some (.int .i64 tk.n) ∧ w'.cell? ⟨bp, (q.next + 1) * 4 + 3, none⟩ = some (.string ⟨tk.s.toArray⟩))) (by kernel_rfl) ⟨c0, c1, t0, t1, t2, t3⟩ ?_
  intro HS
  refine wpAnyH_take (i := 0) (v := ?_) (by simp only [List.getElem?_toArray, List.getElem?_cons_succ, List.getElem?_cons_zero]; rfl) (by kernel_rfl) (by kernel_rfl) (by kernel_rfl) (fun _ _ _ h => h) (Or.inl ⟨by rfl, ?_⟩) HS ?_
  rotate_left
  · intro wz hSw
    try dsimp only at hSw
    obtain ⟨e0, e1, e2, e3, e4, e5⟩ := hSw
    go_simp
    try with_reducible rfl
  try simp only [Act.put, List.setIfInBounds_toArray, List.set_cons_zero, List.set_cons_succ]
  refine wpAnyH_take (i := 1) (v := ?_) (by simp only [List.getElem?_toArray, List.getElem?_cons_succ, List.getElem?_cons_zero]; rfl) (by kernel_rfl) (by kernel_rfl) (by kernel_rfl) (fun _ _ _ h => h) (Or.inl ⟨by rfl, ?_⟩) HS ?_
  rotate_left
  · intro wz hSw
    try dsimp only at hSw
    obtain ⟨e0, e1, e2, e3, e4, e5⟩ := hSw
    go_simp
    try with_reducible rfl
  try simp only [Act.put, List.setIfInBounds_toArray, List.set_cons_zero, List.set_cons_succ]
  refine wpAnyH_take (i := 2) (v := ?_) (by simp only [List.getElem?_toArray, List.getElem?_cons_succ, List.getElem?_cons_zero]; rfl) (by kernel_rfl) (by kernel_rfl) (by kernel_rfl) (fun _ _ _ h => h) (Or.inl ⟨by rfl, ?_⟩) HS ?_
  rotate_left
  · intro wz hSw
    try dsimp only at hSw
    obtain ⟨e0, e1, e2, e3, e4, e5⟩ := hSw
    go_simp
    try with_reducible rfl
  try simp only [Act.put, List.setIfInBounds_toArray, List.set_cons_zero, List.set_cons_succ]
  refine wpAnyH_take (i := 3) (v := ?_) (by simp only [List.getElem?_toArray, List.getElem?_cons_succ, List.getElem?_cons_zero]; rfl) (by kernel_rfl) (by kernel_rfl) (by kernel_rfl) (fun _ _ _ h => h) (Or.inl ⟨by rfl, ?_⟩) HS ?_
  rotate_left
  · intro wz hSw
    try dsimp only at hSw
    obtain ⟨e0, e1, e2, e3, e4, e5⟩ := hSw
    go_simp
    try with_reducible rfl
  try simp only [Act.put, List.setIfInBounds_toArray, List.set_cons_zero, List.set_cons_succ]
  refine wpAnyH_take (i := 4) (v := ?_) (by simp only [List.getElem?_toArray, List.getElem?_cons_succ, List.getElem?_cons_zero]; rfl) (by kernel_rfl) (by kernel_rfl) (by kernel_rfl) (fun _ _ _ h => h) (Or.inl ⟨by rfl, ?_⟩) HS ?_
  rotate_left
  · intro wz hSw
    try dsimp only at hSw
    obtain ⟨e0, e1, e2, e3, e4, e5⟩ := hSw
    go_simp
    try with_reducible rfl
  try simp only [Act.put, List.setIfInBounds_toArray, List.set_cons_zero, List.set_cons_succ]
  refine wpAnyH_take (i := 5) (v := ?_) (by simp only [List.getElem?_toArray, List.getElem?_cons_succ, List.getElem?_cons_zero]; rfl) (by kernel_rfl) (by kernel_rfl) (by kernel_rfl) (fun _ _ _ h => h) (Or.inl ⟨by rfl, ?_⟩) HS ?_
  rotate_left
  · intro wz hSw
    try dsimp only at hSw
    obtain ⟨e0, e1, e2, e3, e4, e5⟩ := hSw
    go_simp
    try with_reducible rfl
  try simp only [Act.put, List.setIfInBounds_toArray, List.set_cons_zero, List.set_cons_succ]
  refine wpAnyH_take (i := 6) (v := ?_) (by simp only [List.getElem?_toArray, List.getElem?_cons_succ, List.getElem?_cons_zero]; rfl) (by kernel_rfl) (by kernel_rfl) (by kernel_rfl) (fun _ _ _ h => h) (Or.inl ⟨by rfl, ?_⟩) HS ?_
  rotate_left
  · intro wz hSw
    try dsimp only at hSw
    obtain ⟨e0, e1, e2, e3, e4, e5⟩ := hSw
    go_simp
    try with_reducible rfl
  try simp only [Act.put, List.setIfInBounds_toArray, List.set_cons_zero, List.set_cons_succ]
  refine wpAnyH_take (i := 7) (v := ?_) (by simp only [List.getElem?_toArray, List.getElem?_cons_succ, List.getElem?_cons_zero]; rfl) (by kernel_rfl) (by kernel_rfl) (by kernel_rfl) (fun _ _ _ h => h) (Or.inl ⟨by rfl, ?_⟩) HS ?_
  rotate_left
  · intro wz hSw
    try dsimp only at hSw
    obtain ⟨e0, e1, e2, e3, e4, e5⟩ := hSw
    go_simp
    try with_reducible rfl
  try simp only [Act.put, List.setIfInBounds_toArray, List.set_cons_zero, List.set_cons_succ]
  refine wpAnyH_take (i := 8) (v := ?_) (by simp only [List.getElem?_toArray, List.getElem?_cons_succ, List.getElem?_cons_zero]; rfl) (by kernel_rfl) (by kernel_rfl) (by kernel_rfl) (fun _ _ _ h => h) (Or.inl ⟨by rfl, ?_⟩) HS ?_
  rotate_left
  · intro wz hSw
    try dsimp only at hSw
    obtain ⟨e0, e1, e2, e3, e4, e5⟩ := hSw
    go_simp
    try with_reducible rfl
  try simp only [Act.put, List.setIfInBounds_toArray, List.set_cons_zero, List.set_cons_succ]
  refine wpAnyH_take (i := 9) (v := ?_) (by simp only [List.getElem?_toArray, List.getElem?_cons_succ, List.getElem?_cons_zero]; rfl) (by kernel_rfl) (by kernel_rfl) (by kernel_rfl) (fun _ _ _ h => h) (Or.inl ⟨by rfl, ?_⟩) HS ?_
  rotate_left
  · intro wz hSw
    try dsimp only at hSw
    obtain ⟨e0, e1, e2, e3, e4, e5⟩ := hSw
    go_simp
    try with_reducible rfl
  try simp only [Act.put, List.setIfInBounds_toArray, List.set_cons_zero, List.set_cons_succ]
  refine wpAnyH_take (i := 10) (v := ?_) (by simp only [List.getElem?_toArray, List.getElem?_cons_succ, List.getElem?_cons_zero]; rfl) (by kernel_rfl) (by kernel_rfl) (by kernel_rfl) (fun _ _ _ h => h) (Or.inl ⟨by rfl, ?_⟩) HS ?_
  rotate_left
  · intro wz hSw
    try dsimp only at hSw
    obtain ⟨e0, e1, e2, e3, e4, e5⟩ := hSw
    go_simp
    try with_reducible rfl
  try simp only [Act.put, List.setIfInBounds_toArray, List.set_cons_zero, List.set_cons_succ]
  refine wpAnyH_take (i := 11) (v := ?_) (by simp only [List.getElem?_toArray, List.getElem?_cons_succ, List.getElem?_cons_zero]; rfl) (by kernel_rfl) (by kernel_rfl) (by kernel_rfl) (fun _ _ _ h => h) (Or.inl ⟨by rfl, ?_⟩) HS ?_
  rotate_left
  · intro wz hSw
    try dsimp only at hSw
    obtain ⟨e0, e1, e2, e3, e4, e5⟩ := hSw
    go_simp
    try with_reducible rfl
  try simp only [Act.put, List.setIfInBounds_toArray, List.set_cons_zero, List.set_cons_succ]
  refine wpAnyH_take (i := 12) (v := ?_) (by simp only [List.getElem?_toArray, List.getElem?_cons_succ, List.getElem?_cons_zero]; rfl) (by kernel_rfl) (by kernel_rfl) (by kernel_rfl) (fun _ _ _ h => h) (Or.inl ⟨by rfl, ?_⟩) HS ?_
  rotate_left
  · intro wz hSw
    try dsimp only at hSw
    obtain ⟨e0, e1, e2, e3, e4, e5⟩ := hSw
    go_simp
    try with_reducible rfl
  try simp only [Act.put, List.setIfInBounds_toArray, List.set_cons_zero, List.set_cons_succ]
  refine wpAnyH_take (i := 13) (v := ?_) (by simp only [List.getElem?_toArray, List.getElem?_cons_succ, List.getElem?_cons_zero]; rfl) (by kernel_rfl) (by kernel_rfl) (by kernel_rfl) (fun _ _ _ h => h) (Or.inl ⟨by rfl, ?_⟩) HS ?_
  rotate_left
  · intro wz hSw
    try dsimp only at hSw
    obtain ⟨e0, e1, e2, e3, e4, e5⟩ := hSw
    go_simp
    try with_reducible rfl
  try simp only [Act.put, List.setIfInBounds_toArray, List.set_cons_zero, List.set_cons_succ]
  refine wpAnyH_take (i := 14) (v := ?_) (by simp only [List.getElem?_toArray, List.getElem?_cons_succ, List.getElem?_cons_zero]; rfl) (by kernel_rfl) (by kernel_rfl) (by kernel_rfl) (fun _ _ _ h => h) (Or.inl ⟨by rfl, ?_⟩) HS ?_
  rotate_left
  · intro wz hSw
    try dsimp only at hSw
    obtain ⟨e0, e1, e2, e3, e4, e5⟩ := hSw
    go_simp
    try with_reducible rfl
  try simp only [Act.put, List.setIfInBounds_toArray, List.set_cons_zero, List.set_cons_succ]
  refine wpAnyH_take (i := 15) (v := ?_) (by simp only [List.getElem?_toArray, List.getElem?_cons_succ, List.getElem?_cons_zero]; rfl) (by kernel_rfl) (by kernel_rfl) (by kernel_rfl) (fun _ _ _ h => h) (Or.inl ⟨by rfl, ?_⟩) HS ?_
  rotate_left
  · intro wz hSw
    try dsimp only at hSw
    obtain ⟨e0, e1, e2, e3, e4, e5⟩ := hSw
    go_simp
    try with_reducible rfl
  try simp only [Act.put, List.setIfInBounds_toArray, List.set_cons_zero, List.set_cons_succ]
  refine wpAnyH_take (i := 16) (v := ?_) (by simp only [List.getElem?_toArray, List.getElem?_cons_succ, List.getElem?_cons_zero]; rfl) (by kernel_rfl) (by kernel_rfl) (by kernel_rfl) (fun _ _ _ h => h) (Or.inl ⟨by rfl, ?_⟩) HS ?_
  rotate_left
  · intro wz hSw
    try dsimp only at hSw
    obtain ⟨e0, e1, e2, e3, e4, e5⟩ := hSw
    go_simp
    try with_reducible rfl
  try simp only [Act.put, List.setIfInBounds_toArray, List.set_cons_zero, List.set_cons_succ]
  refine wpAnyH_take (i := 17) (v := ?_) (by simp only [List.getElem?_toArray, List.getElem?_cons_succ, List.getElem?_cons_zero]; rfl) (by kernel_rfl) (by kernel_rfl) (by kernel_rfl) (fun _ _ _ h => h) (Or.inl ⟨by rfl, ?_⟩) HS ?_
  rotate_left
  · intro wz hSw
    try dsimp only at hSw
    obtain ⟨e0, e1, e2, e3, e4, e5⟩ := hSw
    go_simp
    try with_reducible rfl
  try simp only [Act.put, List.setIfInBounds_toArray, List.set_cons_zero, List.set_cons_succ]
  refine wpAnyH_ready (rs := [18]) (by kernel_rfl) (by simp) (AllReadyH.cons (by simp only [List.getElem?_toArray, List.getElem?_cons_succ, List.getElem?_cons_zero]; rfl) ?_ AllReadyH.nil)
  intro K' HK
  rw [if_pos (by rfl)]
  have hbw := h.bsize
  have hpw := h.lt
  have hs1 := hb1.size
  clear HS
  go_simp
  go_wp2_with (go_at_call 75; refine (HI.out _ _ _).mono ?_; rintro e w2 ⟨rfl, hb2⟩)
  have HS2 : (fun w' => w'.cell? ⟨b, 0, none⟩ = some (.slice (some ⟨bp, 0, none⟩) ps.length cap) ∧ w'.cell? ⟨b, 1, none⟩ = some (.int .i64 q.next) ∧ w'.cell? ⟨bp, (q.next + 1) * 4, none⟩ = some (.int .i64 tk.kind) ∧ w'.cell? ⟨bp, (q.next + 1) * 4 + 1, none⟩ = some (.int .i64 tk.at_) ∧ w'.cell? ⟨bp, (q.next + 1) * 4 + 2, none⟩ = some (.int .i64 tk.n) ∧ w'.cell? ⟨bp, (q.next + 1) * 4 + 3, none⟩ = some (.string ⟨tk.s.toArray⟩)) w2 := ⟨(hb2.cell (p := ⟨b, 0, none⟩) (by show b < w1.heap.size; omega)).trans c0, (hb2.cell (p := ⟨b, 1, none⟩) (by show b < w1.heap.size; omega)).trans c1, (hb2.cell (p := ⟨bp, (q.next + 1) * 4, none⟩) (by show bp < w1.heap.size; omega)).trans t0, (hb2.cell (p := ⟨bp, (q.next + 1) * 4 + 1, none⟩) (by show bp < w1.heap.size; omega)).trans t1, (hb2.cell (p := ⟨bp, (q.next + 1) * 4 + 2, none⟩) (by show bp < w1.heap.size; omega)).trans t2, (hb2.cell (p := ⟨bp, (q.next + 1) * 4 + 3, none⟩) (by show bp < w1.heap.size; omega)).trans t3⟩
  refine HK.out _ _ HS2 ?_
  intro HS
  try simp only [Act.put, List.setIfInBounds_toArray, List.set_cons_zero, List.set_cons_succ]
  refine wpAnyH_take (i := 19) (v := ?_) (by simp only [List.getElem?_toArray, List.getElem?_cons_succ, List.getElem?_cons_zero]; rfl) (by kernel_rfl) (by kernel_rfl) (by kernel_rfl) (fun _ _ _ h => h) (Or.inl ⟨by rfl, ?_⟩) HS ?_
  rotate_left
  · intro wz hSw
    try dsimp only at hSw
    obtain ⟨e0, e1, e2, e3, e4, e5⟩ := hSw
    go_simp
    try with_reducible rfl
  try simp only [Act.put, List.setIfInBounds_toArray, List.set_cons_zero, List.set_cons_succ]
  refine wpAnyH_take (i := 20) (v := ?_) (by simp only [List.getElem?_toArray, List.getElem?_cons_succ, List.getElem?_cons_zero]; rfl) (by kernel_rfl) (by kernel_rfl) (by kernel_rfl) (fun _ _ _ h => h) (Or.inl ⟨by rfl, ?_⟩) HS ?_
  rotate_left
  · intro wz hSw
    try dsimp only at hSw
    obtain ⟨e0, e1, e2, e3, e4, e5⟩ := hSw
    go_simp
    try with_reducible rfl
  try simp only [Act.put, List.setIfInBounds_toArray, List.set_cons_zero, List.set_cons_succ]
  refine wpAnyH_done (by kernel_rfl) ?_ _
  refine NoPanic.normal ?_
  go_wp2_with fail
  go_ret
  exact ⟨by rw [HTK.out]; rfl, below_chain hb1 hb2⟩

set_option maxHeartbeats 1000000 in
theorem atRange_else (w : World) (b bp cap T : Nat) (ps : List Tok) (q : RS) (h : Rdr w b bp cap T ps q) (hk1 : ((cur ps q.next).kind == 1) = false) (hk2 : ((cur ps q.next).kind == 2) = false) :
    Calls Tryz.prog 112 #[.pointer (some ⟨b, 0, none⟩)] w fun e w' => e = .returned (.bool false) ∧ Below w.heap.size w w' := by
  go_enter Tryz.func112, Tryz.ntmps112
  go_wp2_with fail
  refine (peek_any _ _ _ _ _ _ _ h).mono ?_
  rintro e w1 ⟨rfl, hb1⟩
  unfold Tok.val
  go_wp2_with fail
  refine wp_region_noPanic ?_
  refine wp_region_held_drew (S := fun _ => True) (by kernel_rfl) trivial ?_
  intro HS
  refine wpAnyH_take (i := 0) (v := ?_) (by simp only [List.getElem?_toArray, List.getElem?_cons_succ, List.getElem?_cons_zero]; rfl) (by kernel_rfl) (by kernel_rfl) (by kernel_rfl) (fun _ _ _ h => h) (Or.inl ⟨by rfl, ?_⟩) HS ?_
  rotate_left
  · intro wz hSw
    try dsimp only at hSw
    go_simp
    try with_reducible rfl
  try simp only [Act.put, List.setIfInBounds_toArray, List.set_cons_zero, List.set_cons_succ]
  refine wpAnyH_take (i := 1) (v := ?_) (by simp only [List.getElem?_toArray, List.getElem?_cons_succ, List.getElem?_cons_zero]; rfl) (by kernel_rfl) (by kernel_rfl) (by kernel_rfl) (fun _ _ _ h => h) (Or.inl ⟨by rfl, ?_⟩) HS ?_
  rotate_left
  · intro wz hSw
    try dsimp only at hSw
    go_simp
    try with_reducible rfl
  try simp only [Act.put, List.setIfInBounds_toArray, List.set_cons_zero, List.set_cons_succ]
  refine wpAnyH_take (i := 2) (v := ?_) (by simp only [List.getElem?_toArray, List.getElem?_cons_succ, List.getElem?_cons_zero]; rfl) (by kernel_rfl) (by kernel_rfl) (by kernel_rfl) (fun _ _ _ h => h) (Or.inl ⟨by rfl, ?_⟩) HS ?_
  rotate_left
  · intro wz hSw
    try dsimp only at hSw
    go_simp
    try with_reducible rfl
  try simp only [Act.put, List.setIfInBounds_toArray, List.set_cons_zero, List.set_cons_succ]
  refine wpAnyH_take (i := 3) (v := ?_) (by simp only [List.getElem?_toArray, List.getElem?_cons_succ, List.getElem?_cons_zero]; rfl) (by kernel_rfl) (by kernel_rfl) (by kernel_rfl) (fun _ _ _ h => h) (Or.inl ⟨by rfl, ?_⟩) HS ?_
  rotate_left
  · intro wz hSw
    try dsimp only at hSw
    go_simp
    try with_reducible rfl
  try simp only [Act.put, List.setIfInBounds_toArray, List.set_cons_zero, List.set_cons_succ]
  refine wpAnyH_take (i := 4) (v := ?_) (by simp only [List.getElem?_toArray, List.getElem?_cons_succ, List.getElem?_cons_zero]; rfl) (by kernel_rfl) (by kernel_rfl) (by kernel_rfl) (fun _ _ _ h => h) (Or.inl ⟨by rfl, ?_⟩) HS ?_
  rotate_left
  · intro wz hSw
    try dsimp only at hSw
    go_simp
    try with_reducible rfl
  try simp only [Act.put, List.setIfInBounds_toArray, List.set_cons_zero, List.set_cons_succ]
  refine wpAnyH_take (i := 5) (v := ?_) (by simp only [List.getElem?_toArray, List.getElem?_cons_succ, List.getElem?_cons_zero]; rfl) (by kernel_rfl) (by kernel_rfl) (by kernel_rfl) (fun _ _ _ h => h) (Or.inl ⟨by rfl, ?_⟩) HS ?_
  rotate_left
  · intro wz hSw
    try dsimp only at hSw
    go_simp
    try with_reducible rfl
  try simp only [Act.put, List.setIfInBounds_toArray, List.set_cons_zero, List.set_cons_succ]
  refine wpAnyH_take (i := 6) (v := ?_) (by simp only [List.getElem?_toArray, List.getElem?_cons_succ, List.getElem?_cons_zero]; rfl) (by kernel_rfl) (by kernel_rfl) (by kernel_rfl) (fun _ _ _ h => h) (Or.inl ⟨by rfl, ?_⟩) HS ?_
  rotate_left
  · intro wz hSw
    try dsimp only at hSw
    go_simp
    try with_reducible rfl
  try simp only [Act.put, List.setIfInBounds_toArray, List.set_cons_zero, List.set_cons_succ]
  refine wpAnyH_take (i := 7) (v := undef) (by simp only [List.getElem?_toArray, List.getElem?_cons_succ, List.getElem?_cons_zero]; rfl) (by kernel_rfl) (by kernel_rfl) (by kernel_rfl) (fun _ _ _ h => h) (Or.inr ⟨by rfl, rfl⟩) HS ?_
  try simp only [Act.put, List.setIfInBounds_toArray, List.set_cons_zero, List.set_cons_succ]
  refine wpAnyH_take (i := 8) (v := undef) (by simp only [List.getElem?_toArray, List.getElem?_cons_succ, List.getElem?_cons_zero]; rfl) (by kernel_rfl) (by kernel_rfl) (by kernel_rfl) (fun _ _ _ h => h) (Or.inr ⟨by rfl, rfl⟩) HS ?_
  try simp only [Act.put, List.setIfInBounds_toArray, List.set_cons_zero, List.set_cons_succ]
  refine wpAnyH_take (i := 9) (v := undef) (by simp only [List.getElem?_toArray, List.getElem?_cons_succ, List.getElem?_cons_zero]; rfl) (by kernel_rfl) (by kernel_rfl) (by kernel_rfl) (fun _ _ _ h => h) (Or.inr ⟨by rfl, rfl⟩) HS ?_
  try simp only [Act.put, List.setIfInBounds_toArray, List.set_cons_zero, List.set_cons_succ]
  refine wpAnyH_take (i := 10) (v := undef) (by simp only [List.getElem?_toArray, List.getElem?_cons_succ, List.getElem?_cons_zero]; rfl) (by kernel_rfl) (by kernel_rfl) (by kernel_rfl) (fun _ _ _ h => h) (Or.inr ⟨by rfl, rfl⟩) HS ?_
  try simp only [Act.put, List.setIfInBounds_toArray, List.set_cons_zero, List.set_cons_succ]
  refine wpAnyH_take (i := 11) (v := undef) (by simp only [List.getElem?_toArray, List.getElem?_cons_succ, List.getElem?_cons_zero]; rfl) (by kernel_rfl) (by kernel_rfl) (by kernel_rfl) (fun _ _ _ h => h) (Or.inr ⟨by rfl, rfl⟩) HS ?_
  try simp only [Act.put, List.setIfInBounds_toArray, List.set_cons_zero, List.set_cons_succ]
  refine wpAnyH_take (i := 12) (v := undef) (by simp only [List.getElem?_toArray, List.getElem?_cons_succ, List.getElem?_cons_zero]; rfl) (by kernel_rfl) (by kernel_rfl) (by kernel_rfl) (fun _ _ _ h => h) (Or.inr ⟨by rfl, rfl⟩) HS ?_
  try simp only [Act.put, List.setIfInBounds_toArray, List.set_cons_zero, List.set_cons_succ]
  refine wpAnyH_take (i := 13) (v := undef) (by simp only [List.getElem?_toArray, List.getElem?_cons_succ, List.getElem?_cons_zero]; rfl) (by kernel_rfl) (by kernel_rfl) (by kernel_rfl) (fun _ _ _ h => h) (Or.inr ⟨by rfl, rfl⟩) HS ?_
  try simp only [Act.put, List.setIfInBounds_toArray, List.set_cons_zero, List.set_cons_succ]
  refine wpAnyH_take (i := 14) (v := undef) (by simp only [List.getElem?_toArray, List.getElem?_cons_succ, List.getElem?_cons_zero]; rfl) (by kernel_rfl) (by kernel_rfl) (by kernel_rfl) (fun _ _ _ h => h) (Or.inr ⟨by rfl, rfl⟩) HS ?_
  try simp only [Act.put, List.setIfInBounds_toArray, List.set_cons_zero, List.set_cons_succ]
  refine wpAnyH_take (i := 15) (v := undef) (by simp only [List.getElem?_toArray, List.getElem?_cons_succ, List.getElem?_cons_zero]; rfl) (by kernel_rfl) (by kernel_rfl) (by kernel_rfl) (fun _ _ _ h => h) (Or.inr ⟨by rfl, rfl⟩) HS ?_
  try simp only [Act.put, List.setIfInBounds_toArray, List.set_cons_zero, List.set_cons_succ]
  refine wpAnyH_take (i := 16) (v := undef) (by simp only [List.getElem?_toArray, List.getElem?_cons_succ, List.getElem?_cons_zero]; rfl) (by kernel_rfl) (by kernel_rfl) (by kernel_rfl) (fun _ _ _ h => h) (Or.inr ⟨by rfl, rfl⟩) HS ?_
  try simp only [Act.put, List.setIfInBounds_toArray, List.set_cons_zero, List.set_cons_succ]
  refine wpAnyH_take (i := 17) (v := undef) (by simp only [List.getElem?_toArray, List.getElem?_cons_succ, List.getElem?_cons_zero]; rfl) (by kernel_rfl) (by kernel_rfl) (by kernel_rfl) (fun _ _ _ h => h) (Or.inr ⟨by rfl, rfl⟩) HS ?_
  try simp only [Act.put, List.setIfInBounds_toArray, List.set_cons_zero, List.set_cons_succ]
  refine wpAnyH_take (i := 18) (v := undef) (by simp only [List.getElem?_toArray, List.getElem?_cons_succ, List.getElem?_cons_zero]; rfl) (by kernel_rfl) (by kernel_rfl) (by kernel_rfl) (fun _ _ _ h => h) (Or.inr ⟨by rfl, rfl⟩) HS ?_
  try simp only [Act.put, List.setIfInBounds_toArray, List.set_cons_zero, List.set_cons_succ]
  refine wpAnyH_take (i := 19) (v := ?_) (by simp only [List.getElem?_toArray, List.getElem?_cons_succ, List.getElem?_cons_zero]; rfl) (by kernel_rfl) (by kernel_rfl) (by kernel_rfl) (fun _ _ _ h => h) (Or.inl ⟨by rfl, ?_⟩) HS ?_
  rotate_left
  · intro wz hSw
    try dsimp only at hSw
    go_simp
    try with_reducible rfl
  try simp only [Act.put, List.setIfInBounds_toArray, List.set_cons_zero, List.set_cons_succ]
  refine wpAnyH_take (i := 20) (v := ?_) (by simp only [List.getElem?_toArray, List.getElem?_cons_succ, List.getElem?_cons_zero]; rfl) (by kernel_rfl) (by kernel_rfl) (by kernel_rfl) (fun _ _ _ h => h) (Or.inl ⟨by rfl, ?_⟩) HS ?_
  rotate_left
  · intro wz hSw
    try dsimp only at hSw
    go_simp
    try with_reducible rfl
  try simp only [Act.put, List.setIfInBounds_toArray, List.set_cons_zero, List.set_cons_succ]
  refine wpAnyH_done (by kernel_rfl) ?_ _
  refine NoPanic.normal ?_
  go_wp2_with fail
  go_ret
  exact ⟨rfl, hb1.drew⟩

theorem atRange_any (w : World) (b bp cap T : Nat) (ps : List Tok) (q : RS) (h : Rdr w b bp cap T ps q) :
    Calls Tryz.prog 112 #[.pointer (some ⟨b, 0, none⟩)] w fun e w' => e = .returned (.bool (atRangeM ps q.next)) ∧ Below w.heap.size w w' := by
  unfold atRangeM
  rcases hk1 : ((cur ps q.next).kind == 1) with _ | _
  · rcases hk2 : ((cur ps q.next).kind == 2) with _ | _
    · exact atRange_else w b bp cap T ps q h hk1 hk2
    · exact atRange_word w b bp cap T ps q h hk1 hk2
  · exact atRange_name w b bp cap T ps q h hk1
end

section
open Go.RowKit
set_option linter.unusedSimpArgs false
set_option linter.unusedVariables false

set_option maxHeartbeats 3000000 in
theorem range_any {ps : List Tok} {E : Nat → Nat → R Ex} {B : Nat → Nat → R (List St)} (hE : SaidE ps E) (hB : SaidB ps B) : SaidF 113 ps (rangeM ps E B) := by
  intro w b bp cap T q r h hr
  have hbs := h.bsize
  have hps := h.lt
  have hfar := h.far
  have h0 := h.below ((Below.refl w.heap.size w).alloc (Nat.le_refl _) (.cells #[.int .i64 0, .string ⟨#[]⟩, .string ⟨#[]⟩, .slice none 0 0, .slice none 0 0, .slice none 0 0, .slice none 0 0] 63))
  have hx0 := heap_alloc_new w (.cells #[.int .i64 0, .string ⟨#[]⟩, .string ⟨#[]⟩, .slice none 0 0, .slice none 0 0, .slice none 0 0, .slice none 0 0] 63)
  unfold rangeM at hr
  go_enter Tryz.func113, Tryz.ntmps113
  go_wp2_with fail
  rcases bindR_some hr with ⟨k, g0, rfl⟩ | ⟨nm0, n1, g0, f0⟩
  · rcases nameM_some g0 with ⟨hT, h3⟩ | ⟨hT, h3⟩
    · cases h3
    · cases h3
      refine (name_no _ _ _ _ _ _ _ h0 hT).mono ?_
      rintro e w1 ⟨rfl, hR, k1⟩
      have hblk := (k1.block w.heap.size (by simp) (by omega)).trans hx0
      have hc := cells7 hblk
      have hz := thaw4 hblk
      go_wp2_with fail
      exact fin_stmt Tryz.results113 rfl rfl rfl (store7 hblk _ _ _ _ _ _ _) (postS_bad h (((Kept.refl _ _).alloc _).trans k1) (kept7 _ _ _ _ _ _ _ _ _) (Nat.le_refl _) hR)
  · rcases nameM_some g0 with ⟨hT, h3⟩ | ⟨hT, h3⟩
    rotate_left
    · cases h3
    cases h3
    refine (name_yes _ _ _ _ _ _ _ h0 hT).mono ?_
    rintro e w1 ⟨rfl, hR1, k1⟩
    have hs1 := k1.size
    simp at hs1
    have hx1 := (k1.block w.heap.size (by simp) (by omega)).trans hx0
    have kw1 : Kept b w w1 := ((Kept.refl b w).alloc _).trans k1
    go_wp2_with fail
    rcases bindR_some f0 with ⟨k, g1, rfl⟩ | ⟨nm1, n2, g1, f1⟩
    · rcases needM_some g1 with ⟨hT, h3⟩ | ⟨hT, h3⟩
      · cases h3
      · cases h3
        refine (mark_no _ _ _ _ _ _ _ _ hR1 hT).mono ?_
        rintro e w2 ⟨rfl, hR, k2⟩
        have hblk := (k2.block w.heap.size (by omega) (by omega)).trans hx1
        have hc := cells7 hblk
        have hz := thaw4 hblk
        go_wp2_with fail
        exact fin_stmt Tryz.results113 rfl rfl rfl (store7 hblk _ _ _ _ _ _ _) (postS_bad h (kw1.trans k2) (kept7 _ _ _ _ _ _ _ _ _) (Nat.le_refl _) hR)
    · rcases needM_some g1 with ⟨hT, h3⟩ | ⟨hT, h3⟩
      rotate_left
      · cases h3
      cases h3
      refine (mark_yes _ _ _ _ _ _ _ _ hR1 hT).mono ?_
      rintro e w2 ⟨rfl, hR2, k2⟩
      have hs2 := k2.size
      have hx2 := (k2.block w.heap.size (by omega) (by omega)).trans hx1
      have kw2 := kw1.trans k2
      go_wp2_with fail
      rcases bindR_some f1 with ⟨k, g2, rfl⟩ | ⟨nm2, n3, g2, f2⟩
      · rcases nameM_some g2 with ⟨hT, h3⟩ | ⟨hT, h3⟩
        · cases h3
        · cases h3
          refine (name_no _ _ _ _ _ _ _ hR2 hT).mono ?_
          rintro e w3 ⟨rfl, hR, k3⟩
          have hblk := (k3.block w.heap.size (by omega) (by omega)).trans hx2
          have hc := cells7 hblk
          have hz := thaw4 hblk
          go_wp2_with fail
          exact fin_stmt Tryz.results113 rfl rfl rfl (store7 hblk _ _ _ _ _ _ _) (postS_bad h (kw2.trans k3) (kept7 _ _ _ _ _ _ _ _ _) (Nat.le_refl _) hR)
      · rcases nameM_some g2 with ⟨hT, h3⟩ | ⟨hT, h3⟩
        rotate_left
        · cases h3
        cases h3
        refine (name_yes _ _ _ _ _ _ _ hR2 hT).mono ?_
        rintro e w3 ⟨rfl, hR3, k3⟩
        have hs3 := k3.size
        have hx3 := (k3.block w.heap.size (by omega) (by omega)).trans hx2
        have kw3 := kw2.trans k3
        go_wp2_with fail
        rcases bindR_some f2 with ⟨k, g3, rfl⟩ | ⟨nm3, n4, g3, f3⟩
        · rcases needM_some g3 with ⟨hT, h3⟩ | ⟨hT, h3⟩
          · cases h3
          · cases h3
            refine (mark_no _ _ _ _ _ _ _ _ hR3 hT).mono ?_
            rintro e w4 ⟨rfl, hR, k4⟩
            have hblk := (k4.block w.heap.size (by omega) (by omega)).trans hx3
            have hc := cells7 hblk
            have hz := thaw4 hblk
            go_wp2_with fail
            exact fin_stmt Tryz.results113 rfl rfl rfl (store7 hblk _ _ _ _ _ _ _) (postS_bad h (kw3.trans k4) (kept7 _ _ _ _ _ _ _ _ _) (Nat.le_refl _) hR)
        · rcases needM_some g3 with ⟨hT, h3⟩ | ⟨hT, h3⟩
          rotate_left
          · cases h3
          cases h3
          refine (mark_yes _ _ _ _ _ _ _ _ hR3 hT).mono ?_
          rintro e w4 ⟨rfl, hR4, k4⟩
          have hs4 := k4.size
          have hx4 := (k4.block w.heap.size (by omega) (by omega)).trans hx3
          have kw4 := kw3.trans k4
          go_wp2_with fail
          rcases bindR_some f3 with ⟨k, g4, rfl⟩ | ⟨nm4, n5, g4, f4⟩
          · rcases needM_some g4 with ⟨hT, h3⟩ | ⟨hT, h3⟩
            · cases h3
            · cases h3
              refine (keyword_no _ _ _ _ _ _ _ _ hR4 hT).mono ?_
              rintro e w5 ⟨rfl, hR, k5⟩
              have hblk := (k5.block w.heap.size (by omega) (by omega)).trans hx4
              have hc := cells7 hblk
              have hz := thaw4 hblk
              go_wp2_with fail
              exact fin_stmt Tryz.results113 rfl rfl rfl (store7 hblk _ _ _ _ _ _ _) (postS_bad h (kw4.trans k5) (kept7 _ _ _ _ _ _ _ _ _) (Nat.le_refl _) hR)
          · rcases needM_some g4 with ⟨hT, h3⟩ | ⟨hT, h3⟩
            rotate_left
            · cases h3
            cases h3
            refine (keyword_yes _ _ _ _ _ _ _ _ hR4 hT).mono ?_
            rintro e w5 ⟨rfl, hR5, k5⟩
            have hs5 := k5.size
            have hx5 := (k5.block w.heap.size (by omega) (by omega)).trans hx4
            have kw5 := kw4.trans k5
            go_wp2_with fail
            refine (headed_any hE hB _ b bp cap T _ 6 _ _ _ hR5 f4).mono ?_
            intro e wz hP
            obtain ⟨kz, v0, v1, v2, a3, l3, c3, a4, l4, c4, a5, l5, c5, a6, l6, c6, ok, rfl⟩ := hP.sh
            have hblk := (kz.block w.heap.size (by omega) (by omega)).trans hx5
            have hc := cells7 hblk
            have hz := thaw4 hblk
            have HP : Hid (_) := hP
            clear hP
            go_wp2_with fail
            exact fin_stmt Tryz.results113 rfl rfl rfl (store7 hblk _ _ _ _ _ _ _) (PostS.fwd h kw5 (by omega) (by omega) HP.out (kept7 _ _ _ _ _ _ _ _ _))

set_option maxHeartbeats 1000000 in
theorem loop_any {ps : List Tok} {E : Nat → Nat → R Ex} {B : Nat → Nat → R (List St)} (hE : SaidE ps E) (hB : SaidB ps B) : SaidF 92 ps (loopM ps E B) := by
  intro w b bp cap T q r h hr
  have hbs := h.bsize
  have hps := h.lt
  have hfar := h.far
  have h0 := h.below ((Below.refl w.heap.size w).alloc (Nat.le_refl _) (.cells #[.int .i64 0, .string ⟨#[]⟩, .string ⟨#[]⟩, .slice none 0 0, .slice none 0 0, .slice none 0 0, .slice none 0 0] 63))
  have hx0 := heap_alloc_new w (.cells #[.int .i64 0, .string ⟨#[]⟩, .string ⟨#[]⟩, .slice none 0 0, .slice none 0 0, .slice none 0 0, .slice none 0 0] 63)
  unfold loopM at hr
  go_enter Tryz.func92, Tryz.ntmps92
  go_wp2_with fail
  refine (atRange_any _ _ _ _ _ _ _ h0).mono ?_
  rintro e w1 ⟨rfl, hb1⟩
  have h1 := h0.below hb1
  have hs1 := hb1.size
  simp at hs1
  have hx1 := (hb1.block w.heap.size (by simp)).trans hx0
  have kw1 : Kept b w w1 := ((Kept.refl b w).alloc _).trans (Kept.of_below hb1)
  rcases hA : atRangeM ps q.next with _ | _
  · rw [hA] at hr
    simp only [Bool.false_eq_true, if_false] at hr
    go_wp2_with fail
    refine (headed_any hE hB _ b bp cap T _ 5 [] [] _ h1 hr).mono ?_
    intro e wz hP
    obtain ⟨kz, v0, v1, v2, a3, l3, c3, a4, l4, c4, a5, l5, c5, a6, l6, c6, ok, rfl⟩ := hP.sh
    have hblk := (kz.block w.heap.size (by omega) (by omega)).trans hx1
    have hc := cells7 hblk
    have hz := thaw4 hblk
    have HP : Hid (_) := hP
    clear hP
    go_wp2_with fail
    exact fin_stmt Tryz.results92 rfl rfl rfl (store7 hblk _ _ _ _ _ _ _) (PostS.fwd (n := q.next) h kw1 (by omega) (by omega) HP.out (kept7 _ _ _ _ _ _ _ _ _))
  · rw [hA] at hr
    simp only [if_true] at hr
    go_wp2_with fail
    refine (range_any hE hB _ b bp cap T _ _ h1 hr).mono ?_
    intro e wz hP
    obtain ⟨kz, v0, v1, v2, a3, l3, c3, a4, l4, c4, a5, l5, c5, a6, l6, c6, ok, rfl⟩ := hP.sh
    have hblk := (kz.block w.heap.size (by omega) (by omega)).trans hx1
    have hc := cells7 hblk
    have hz := thaw4 hblk
    have HP : Hid (_) := hP
    clear hP
    go_wp2_with fail
    exact fin_stmt Tryz.results92 rfl rfl rfl (store7 hblk _ _ _ _ _ _ _) (PostS.fwd (n := q.next) h kw1 (by omega) (by omega) HP.out (kept7 _ _ _ _ _ _ _ _ _))
end

section
open Go.RowKit
set_option linter.unusedSimpArgs false
set_option linter.unusedVariables false

theorem PostB.sh {b bp cap T : Nat} {ps : List Tok} {q : RS} {w w' : World} {r : Sum (Int × Int) (List St × Nat)} {e : Ending} (h : PostB b bp cap T ps q w r e w') : ∃ a l c ok, e = .returned (.tuple #[.slice a l c, .bool ok]) := by
  obtain ⟨_, h⟩ := h
  rcases r with k | x
  · obtain ⟨a, l, c, n', rfl, _⟩ := h; exact ⟨_, _, _, _, rfl⟩
  · obtain ⟨a, c, rfl, _⟩ := h; exact ⟨_, _, _, _, rfl⟩

set_option maxHeartbeats 1000000 in
theorem caseBody_any {ps : List Tok} {B : Nat → Nat → R (List St)} (hB : SaidB ps B) (w : World) (b bp cap T : Nat) (q : RS) (r : Sum (Int × Int) (List St × Nat)) (h : Rdr w b bp cap T ps q) (hr : caseBodyM ps B q.depth q.next = some r) :
    Calls Tryz.prog 115 #[.pointer (some ⟨b, 0, none⟩)] w (PostB b bp cap T ps q w r) := by
  unfold caseBodyM at hr
  go_enter Tryz.func115, Tryz.ntmps115
  go_wp2_with fail
  rcases bindR_some hr with ⟨k, h1, rfl⟩ | ⟨u, n1, h1, h2⟩
  · rcases needM_some h1 with ⟨hT, h3⟩ | ⟨hT, h3⟩
    · cases h3
    · cases h3
      refine (mark_no _ _ _ _ _ _ _ _ h hT).mono ?_
      rintro e w1 ⟨rfl, hR, k1⟩
      go_wp2_with fail
      go_ret2
      exact ⟨k1, _, _, _, _, rfl, hR⟩
  · rcases needM_some h1 with ⟨hT, h3⟩ | ⟨hT, h3⟩
    · cases h3
      refine (mark_yes _ _ _ _ _ _ _ _ h hT).mono ?_
      rintro e w1 ⟨rfl, hR1, k1⟩
      have hs1 := k1.size
      go_wp2_with fail
      refine (hB _ _ _ _ _ _ _ hR1 h2).mono ?_
      intro e w2 hP
      obtain ⟨a, l, c, ok, rfl⟩ := hP.sh
      have HP : Hid (_) := hP
      clear hP
      go_wp2_with fail
      go_ret2
      obtain ⟨k2, hP⟩ := HP.out
      refine ⟨k1.trans k2, ?_⟩
      rcases r with k | x
      · exact hP
      · obtain ⟨a', c', he, hrow, hR2⟩ := hP
        exact ⟨a', c', he, hrow.move (fun g hg _ => ⟨by omega, rfl⟩) (fun u x hx => hx.move fun g hg _ => ⟨by omega, rfl⟩), hR2⟩
    · cases h3

/-- what a call that reads a number leaves -/
def PostN (b bp cap T : Nat) (ps : List Tok) (q : RS) (w : World) (r : Sum (Int × Int) (Int × Nat)) (e : Ending) (w' : World) : Prop :=
  Kept b w w' ∧ match r with
  | .inl k => ∃ v n', e = .returned (.tuple #[.int .i64 v, .bool false]) ∧ Rdr w' b bp cap T ps ⟨n', q.depth, k.1, k.2⟩
  | .inr x => e = .returned (.tuple #[.int .i64 x.1, .bool true]) ∧ Rdr w' b bp cap T ps { q with next := x.2 }

set_option maxHeartbeats 2000000 in
theorem caseNumber_any {ps : List Tok} (w : World) (b bp cap T : Nat) (q : RS) (r : Sum (Int × Int) (Int × Nat)) (h : Rdr w b bp cap T ps q) (hr : numM ps q.next = some r) :
    Calls Tryz.prog 128 #[.pointer (some ⟨b, 0, none⟩)] w (PostN b bp cap T ps q w r) := by
  unfold numM at hr
  go_enter Tryz.func128, Tryz.ntmps128
  go_wp2_with fail
  rcases hT : isT (cur ps q.next) 5 [45] with _ | _
  · rw [hT] at hr
    simp only [Bool.false_eq_true, if_false] at hr
    refine (skip_no _ _ _ _ _ _ _ _ _ h hT).mono ?_
    rintro e w1 ⟨rfl, h1, k1⟩
    go_wp2_with fail
    refine (peek_any _ _ _ _ _ _ _ h1).mono ?_
    rintro e w2 ⟨rfl, hb2⟩
    have h2 := h1.below hb2
    have h2a := h2.below ((Below.refl w2.heap.size w2).alloc (Nat.le_refl _) (.cells #[.int .i64 (cur ps q.next).kind, .int .i64 (cur ps q.next).at_, .int .i64 (cur ps q.next).n, .string ⟨(cur ps q.next).s.toArray⟩] 69))
    have HK : Hid (Kept b w (w2.alloc (.cells #[.int .i64 (cur ps q.next).kind, .int .i64 (cur ps q.next).at_, .int .i64 (cur ps q.next).n, .string ⟨(cur ps q.next).s.toArray⟩] 69))) := (k1.trans (Kept.of_below hb2)).trans ((Kept.refl _ _).alloc _)
    have hblk := heap_alloc_new w2 (.cells #[.int .i64 (cur ps q.next).kind, .int .i64 (cur ps q.next).at_, .int .i64 (cur ps q.next).n, .string ⟨(cur ps q.next).s.toArray⟩] 69)
    have hbs := h2.bsize
    rcases hk : ((cur ps q.next).kind == 3) with _ | _
    · rw [hk] at hr
      cases hr
      have hkn : ((cur ps q.next).kind != 3) = true := by simp [bne, hk]
      unfold Tok.val
      go_wp2_with fail
      refine (refuse_any _ _ _ _ _ _ _ h2a).mono ?_
      rintro e w3 ⟨rfl, h3, k3⟩
      go_wp2_with fail
      go_ret2
      exact ⟨HK.out.trans k3, _, _, rfl, h3⟩
    · rw [hk] at hr
      cases hr
      have hkn : ((cur ps q.next).kind != 3) = false := by simp [bne, hk]
      have hk0 : ((cur ps q.next).kind != 0) = true := by
        have : (cur ps q.next).kind = 3 := by simpa using hk
        rw [this]; rfl
      unfold Tok.val
      go_wp2_with fail
      refine (step_any _ _ _ _ _ _ _ h2a hk0).mono ?_
      rintro e w3 ⟨rfl, h3, k3⟩
      have hc3 := cells4 ((k3.block w2.heap.size (by simp) (by omega)).trans hblk)
      go_wp2_with fail
      go_ret2
      exact ⟨HK.out.trans k3, rfl, h3⟩
  · rw [hT] at hr
    simp only [if_true] at hr
    refine (skip_yes _ _ _ _ _ _ _ _ _ h rfl hT).mono ?_
    rintro e w1 ⟨rfl, h1, k1⟩
    go_wp2_with fail
    refine (peek_any _ _ _ _ _ _ _ h1).mono ?_
    rintro e w2 ⟨rfl, hb2⟩
    have h2 := h1.below hb2
    have h2a := h2.below ((Below.refl w2.heap.size w2).alloc (Nat.le_refl _) (.cells #[.int .i64 (cur ps (q.next + 1)).kind, .int .i64 (cur ps (q.next + 1)).at_, .int .i64 (cur ps (q.next + 1)).n, .string ⟨(cur ps (q.next + 1)).s.toArray⟩] 69))
    have HK : Hid (Kept b w (w2.alloc (.cells #[.int .i64 (cur ps (q.next + 1)).kind, .int .i64 (cur ps (q.next + 1)).at_, .int .i64 (cur ps (q.next + 1)).n, .string ⟨(cur ps (q.next + 1)).s.toArray⟩] 69))) := (k1.trans (Kept.of_below hb2)).trans ((Kept.refl _ _).alloc _)
    have hblk := heap_alloc_new w2 (.cells #[.int .i64 (cur ps (q.next + 1)).kind, .int .i64 (cur ps (q.next + 1)).at_, .int .i64 (cur ps (q.next + 1)).n, .string ⟨(cur ps (q.next + 1)).s.toArray⟩] 69)
    have hbs := h2.bsize
    rcases hk : ((cur ps (q.next + 1)).kind == 3) with _ | _
    · rw [hk] at hr
      cases hr
      have hkn : ((cur ps (q.next + 1)).kind != 3) = true := by simp [bne, hk]
      unfold Tok.val
      go_wp2_with fail
      refine (refuse_any _ _ _ _ _ _ _ h2a).mono ?_
      rintro e w3 ⟨rfl, h3, k3⟩
      go_wp2_with fail
      go_ret2
      exact ⟨HK.out.trans k3, _, _, rfl, h3⟩
    · rw [hk] at hr
      cases hr
      have hkn : ((cur ps (q.next + 1)).kind != 3) = false := by simp [bne, hk]
      have hk0 : ((cur ps (q.next + 1)).kind != 0) = true := by
        have : (cur ps (q.next + 1)).kind = 3 := by simpa using hk
        rw [this]; rfl
      unfold Tok.val
      go_wp2_with fail
      refine (step_any _ _ _ _ _ _ _ h2a hk0).mono ?_
      rintro e w3 ⟨rfl, h3, k3⟩
      have hc3 := cells4 ((k3.block w2.heap.size (by simp) (by omega)).trans hblk)
      go_wp2_with fail
      go_ret2
      exact ⟨HK.out.trans k3, by show _ = Ending.returned (.tuple #[.int .i64 (IntKind.i64.wrap (-(cur ps (q.next + 1)).n)), .bool true]); rw [show IntKind.i64.wrap (-(cur ps (q.next + 1)).n) = wrap64 (-(cur ps (q.next + 1)).n) by unfold wrap64; exact IntKind.wrap_i64 _]; rfl, h3⟩
end

section
open Go.RowKit
set_option linter.unusedSimpArgs false
set_option linter.unusedVariables false

def IsI (_ : Nat → Prop) (_ : World) (v : Value) (x : Int) : Prop := v = .agg #[.int .i64 x]

theorem moves_IsI : Moves IsI := fun _ _ _ _ _ _ h _ => h

theorem infoInt : (Tryz.prog.info? 3).map (fun i => (i.zero, i.size, i.bytes)) = some (some (.int .i64 0), 1, 8) := by kernel_rfl
theorem infoCase : (Tryz.prog.info? 66).map (fun i => (i.zero, i.size, i.bytes)) = some (some (.agg #[.slice none 0 0, .slice none 0 0]), 2, 48) := by kernel_rfl

theorem ints_plain {S : Nat → Prop} {w : World} : ∀ {vs : List Value} {ns : List Int}, AllP (IsI S w) vs ns → ∃ vs', flat vs' = flat vs ∧ AllP (fun u n => u = .int .i64 n) vs' ns
  | [], [], _ => ⟨[], rfl, trivial⟩
  | v :: vs, n :: ns, ⟨h, t⟩ => by
    obtain ⟨vs', h1, h2⟩ := ints_plain t
    refine ⟨.int .i64 n :: vs', ?_, rfl, h2⟩
    rw [h]
    simp only [flat, List.flatMap_cons] at h1 ⊢
    rw [h1]
    simp [Value.cells]
  | [], _ :: _, h => h.elim
  | _ :: _, [], h => h.elim

theorem row_ints {S : Nat → Prop} {w : World} {v : Value} {ns : List Int} (h : Row S w (IsI S w) v ns) : Row S w (fun u n => u = .int .i64 n) v ns := by
  obtain ⟨vs, h1, h2⟩ := h
  obtain ⟨vs', e, h3⟩ := ints_plain h2
  exact ⟨vs', by rw [e]; exact h1, h3⟩

theorem cells2 {w : World} {x : Nat} {T : TypeId} {f : Nat × Nat} {c0 c1 : Value} (h : w.heap[x]? = some (.cells #[c0, c1] T f)) : w.cell? ⟨x, 0, none⟩ = some c0 ∧ w.cell? ⟨x, 1, none⟩ = some c1 := by
  simp [World.cell?, h]

theorem store2 {w : World} {x : Nat} {T : TypeId} {f : Nat × Nat} {c0 c1 : Value} (h : w.heap[x]? = some (.cells #[c0, c1] T f)) (v0 v1 : Value) : ((w.setCell ⟨x, 0, none⟩ v0).setCell ⟨x, 1, none⟩ v1).heap[x]? = some (.cells #[v0, v1] T f) := by
  rw [heap_setCell_same (heap_setCell_same h _)]; simp

theorem kept2 (x : Nat) (w : World) (v0 v1 : Value) : Kept x w ((w.setCell ⟨x, 0, none⟩ v0).setCell ⟨x, 1, none⟩ v1) := ((Kept.refl _ _).setCell _ _).setCell _ _

theorem fin_case {fn : Func} {Q : Ending → World → Prop} {a : Act} {w : World} {rt st x : Nat} {v0 v1 : Value} {ok : Bool} {T : TypeId} {f : Nat × Nat}
    (hres : fn.results = #[.cell rt 66, .tmp st]) (hp : a.tmps.getD rt undef = .pointer (some ⟨x, 0, none⟩)) (ho : a.tmps.getD st undef = .bool ok) (hd : a.defers = [])
    (hblk : w.heap[x]? = some (.cells #[v0, v1] T f)) (hQ : Q (.returned (.tuple #[.agg #[v0, v1], .bool ok])) w) : bodyPost Tryz.prog fn Q Exit.ret a w := by
  obtain ⟨q0, q1⟩ := cells2 hblk
  simp only [Array.getD_eq_getD_getElem?] at hp ho
  exact bodyPost_ret (v := .tuple #[.agg #[v0, v1], .bool ok]) (by simp [results, hres, hp, ho, go_sem, q0, q1]) hd hQ

/-- what holds ahead of each round: the numbers so far -/
structure CasI (w : World) (b bp cap T : Nat) (ps : List Tok) (q : RS) (acc : List Int) (n : Nat) (wr : World) : Prop where
  kp : Kept b w wr
  sz : w.heap.size + 2 ≤ wr.heap.size
  r0 : wr.heap[w.heap.size]? = some (.cells #[.slice none 0 0, .slice none 0 0] 66 (0, 0))
  ca : ∃ v vs, wr.heap[w.heap.size + 1]? = some (.cells #[v, .slice none 0 0] 66 (0, 0)) ∧ Grow IsI 3 1 (w.heap.size + 2) wr v vs acc
  rd : Rdr wr b bp cap T ps { q with next := n }

theorem CasI.kept {w wr w' : World} {b bp cap T n n' : Nat} {ps : List Tok} {q : RS} {acc : List Int} (hb : b < w.heap.size) (h : CasI w b bp cap T ps q acc n wr) (k : Kept b wr w') (hR : Rdr w' b bp cap T ps { q with next := n' }) : CasI w b bp cap T ps q acc n' w' := by
  have hs := h.sz
  obtain ⟨v, vs, h1, h2⟩ := h.ca
  exact ⟨h.kp.trans k, Nat.le_trans h.sz k.size, by rw [k.block _ (by omega) (by omega)]; exact h.r0, ⟨v, vs, by rw [k.block _ (by omega) (by omega)]; exact h1, h2.kept moves_IsI k (by omega)⟩, hR⟩

/-- what a call that reads a case leaves -/
def PostK (b bp cap T : Nat) (ps : List Tok) (q : RS) (w : World) (r : Sum (Int × Int) ((List Int × List St) × Nat)) (e : Ending) (w' : World) : Prop :=
  Kept b w w' ∧ match r with
  | .inl k => ∃ a1 l1 c1 a2 l2 c2 n', e = .returned (.tuple #[.agg #[.slice a1 l1 c1, .slice a2 l2 c2], .bool false]) ∧ Rdr w' b bp cap T ps ⟨n', q.depth, k.1, k.2⟩
  | .inr x => ∃ a1 l1 c1 a2 l2 c2, e = .returned (.tuple #[.agg #[.slice a1 l1 c1, .slice a2 l2 c2], .bool true]) ∧ AnC (fun g => w.heap.size ≤ g) w' (.agg #[.slice a1 l1 c1, .slice a2 l2 c2]) x.1 ∧ Rdr w' b bp cap T ps { q with next := x.2 }

theorem int_one (k : Int) : ∀ u ∈ [Value.int .i64 k], u.oneCell' = true := by
  intro u hu
  simp at hu
  subst hu; rfl

set_option maxHeartbeats 3000000 in
theorem switchCase_any {ps : List Tok} {B : Nat → Nat → R (List St)} (hB : SaidB ps B) (f : Nat) (hf : f ≤ 1000000) (w : World) (b bp cap T : Nat) (q : RS) (r : Sum (Int × Int) ((List Int × List St) × Nat)) (h : Rdr w b bp cap T ps q)
    (hr : caseM ps B f q.depth q.next = some r) :
    Calls Tryz.prog 114 #[.pointer (some ⟨b, 0, none⟩)] w (PostK b bp cap T ps q w r) := by
  have hbs := h.bsize
  have hps := h.lt
  have hfar := h.far
  have h0 := h.below (((Below.refl w.heap.size w).alloc (Nat.le_refl _) (.cells #[.slice none 0 0, .slice none 0 0] 66)).alloc (by simp) (.cells #[.slice none 0 0, .slice none 0 0] 66))
  have hx0 := heap_alloc2 w (.cells #[.slice none 0 0, .slice none 0 0] 66) (.cells #[.slice none 0 0, .slice none 0 0] 66)
  obtain ⟨i0, hi, hz0, hz1, hz2⟩ := info_parts infoInt
  unfold caseM at hr
  obtain ⟨r1, hr1⟩ : ∃ r1, numsLoop ps f [] q.next = some r1 := by
    rcases hx : numsLoop ps f [] q.next with _ | r1
    · rw [hx] at hr; cases hr
    · exact ⟨r1, rfl⟩
  rw [hr1] at hr
  have HR : Hid (_) := hr
  have HI : Hid (CasI w b bp cap T ps q [] q.next ((w.alloc (.cells #[.slice none 0 0, .slice none 0 0] 66)).alloc (.cells #[.slice none 0 0, .slice none 0 0] 66))) :=
    ⟨((Kept.refl _ _).alloc _).alloc _, by simp, hx0.1, ⟨_, [], hx0.2, Grow.nil _ _ _ _ _⟩, h0⟩
  clear hr h0 hx0 h
  go_enter Tryz.func114, Tryz.ntmps114
  go_wp2_with fail
  go_loopg [5] f (fun g s5 wr => ∃ (mo : Bool) (acc : List Int) (n : Nat), s5 = .bool mo ∧ Hid (CasI w b bp cap T ps q acc n wr) ∧ acc.length + g ≤ f ∧ Hid ((if mo then numsLoop ps g acc n else okR acc n) = some r1))
  case atStart => exact ⟨true, [], _, rfl, HI, by simp, hr1⟩
  case round =>
    clear HI hr1
    obtain ⟨mo, acc, n, rfl, HI, hlen, HN⟩ := hrel
    have hI := HI.out
    obtain ⟨v, vs, hca, hgr⟩ := hI.ca
    obtain ⟨av, cv, rfl⟩ := hgr.slice
    have hsz := hI.sz
    have hR := hI.rd
    have hc1 := cells2 hca
    cases mo with
    | false =>
      have hr1 : okR acc n = some r1 := HN.out
      cases hr1
      have hr := HR.out
      simp only [bindR] at hr
      have HG : Hid (Row (fun g => w.heap.size + 2 ≤ g) wr (IsI (fun g => w.heap.size + 2 ≤ g) wr) (.slice av acc.length cv) acc) := hgr.row moves_IsI (Nat.le_refl _)
      clear hgr
      go_wp2_with fail
      rcases hbo : caseBodyM ps B q.depth n with _ | r2
      · rw [hbo] at hr; cases hr
      · rw [hbo] at hr
        refine (caseBody_any hB _ _ _ _ _ _ _ hR hbo).mono ?_
        intro e w4 hP
        obtain ⟨a2, l2, c2, ok, rfl⟩ := hP.sh
        have k4 := hP.1
        have hs4 := k4.size
        have hca4 := (k4.block (w.heap.size + 1) (by omega) (by omega)).trans hca
        have hr04 := (k4.block w.heap.size (by omega) (by omega)).trans hI.r0
        have hc4 := cells2 hca4
        have hz4 := thaw4 hca4
        have hd4 := cells2 hr04
        have hy4 := thaw4 hr04
        have kZ : Kept (w.heap.size + 1) w4 (w4.setCell ⟨w.heap.size + 1, 1, none⟩ (.slice a2 l2 c2)) := (Kept.refl _ _).setCell _ _
        have hca5 : (w4.setCell ⟨w.heap.size + 1, 1, none⟩ (.slice a2 l2 c2)).heap[w.heap.size + 1]? = some (.cells #[.slice av acc.length cv, .slice a2 l2 c2] 66 (0, 0)) := by rw [heap_setCell_same hca4]; simp
        have hr05 := (kZ.block w.heap.size (by omega) (by omega)).trans hr04
        have HP : Hid (_) := hP
        clear hP
        go_wp2_with fail
        have kW := (hI.kp.trans k4).own kZ (by omega)
        refine fin_case Tryz.results114 rfl rfl rfl (store2 hr05 _ _) ?_
        have kX := kept2 w.heap.size (w4.setCell ⟨w.heap.size + 1, 1, none⟩ (.slice a2 l2 c2)) (.slice av acc.length cv) (.slice a2 l2 c2)
        obtain ⟨_, hP⟩ := HP.out
        rcases r2 with k | ⟨l, n2⟩
        · cases hr
          obtain ⟨a3, l3, c3, n', he, hR4⟩ := hP
          cases he
          exact ⟨kW.own kX (Nat.le_refl _), _, _, _, _, _, _, n', rfl, (hR4.own kZ (by omega) (by omega) (by omega)).own kX (by omega) (by omega) (by omega)⟩
        · cases hr
          obtain ⟨a3, c3, he, hrow, hR4⟩ := hP
          cases he
          refine ⟨kW.own kX (Nat.le_refl _), _, _, _, _, _, _, rfl, ?_, (hR4.own kZ (by omega) (by omega) (by omega)).own kX (by omega) (by omega) (by omega)⟩
          refine ⟨_, _, rfl, ?_, ?_⟩
          · have g1 := HG.out.own (S' := fun g => w.heap.size + 2 ≤ g) k4 (fun g hg => by omega) (fun _ _ h => h)
            have g2 := g1.own (S' := fun g => w.heap.size + 2 ≤ g) kZ (fun g hg => by omega) (fun _ _ h => h)
            have g3 := g2.own (S' := fun g => w.heap.size ≤ g) kX (fun g hg => by omega) (fun _ _ h => h)
            exact row_ints g3
          · have g2 := RowS.own (S' := fun g => w.heap.size + 2 ≤ g) hrow kZ (fun g hg => by omega)
            exact RowS.own (S' := fun g => w.heap.size ≤ g) g2 kX (fun g hg => by omega)
    | true =>
      cases gk with
      | zero => exact absurd HN.out (by simp [numsLoop])
      | succ g =>
        have hN : numsLoop ps (g + 1) acc n = some r1 := HN.out
        simp only [numsLoop] at hN
        have HV : Hid (∀ k, (Value.slice av acc.length cv).ownBlock = some k → w.heap.size + 2 ≤ k ∧ k < wr.heap.size) := hgr.1.lt
        have HGR : Hid (Grow IsI 3 1 (w.heap.size + 2) wr (.slice av acc.length cv) vs acc) := hgr
        clear hgr
        go_wp2_with fail
        rcases hnm : numM ps n with _ | r3
        · rw [hnm] at hN; cases hN
        · rw [hnm] at hN
          refine (caseNumber_any _ _ _ _ _ _ _ hR hnm).mono ?_
          rintro e w3 ⟨k3, hP⟩
          have hs3 := k3.size
          have hca3 := (k3.block (w.heap.size + 1) (by omega) (by omega)).trans hca
          have hr03 := (k3.block w.heap.size (by omega) (by omega)).trans hI.r0
          have hc3 := cells2 hca3
          have hz3 := thaw4 hca3
          rcases r3 with k | ⟨kn, n1⟩
          · cases hN
            have hr := HR.out
            cases hr
            obtain ⟨v0, n', rfl, hR3⟩ := hP
            have hd3 := cells2 hr03
            have hy3 := thaw4 hr03
            go_wp2_with fail
            refine fin_case Tryz.results114 rfl rfl rfl (store2 hr03 _ _) ?_
            have kX := kept2 w.heap.size w3 (.slice none 0 0) (.slice none 0 0)
            exact ⟨(hI.kp.trans k3).own kX (Nat.le_refl _), _, _, _, _, _, _, n', rfl, hR3.own kX (by omega) (by omega) (by omega)⟩
          · obtain ⟨rfl, hR3⟩ := hP
            simp only [bindR] at hN
            have hgr3 := HGR.out.kept moves_IsI k3 (by omega)
            have HO : Hid ((w3.alloc (.cells #[.int .i64 kn] 3)).ownsRow (w.heap.size + 2) 3 1 (.slice av acc.length cv) acc.length (flat vs)) := hgr3.1.alloc _
            have HGR3 : Hid (Grow IsI 3 1 (w.heap.size + 2) w3 (.slice av acc.length cv) vs acc) := hgr3
            have HNW : Hid (∀ j u, [Value.int .i64 kn][j]? = some u → (w3.alloc (.cells #[.int .i64 kn] 3)).cell? ((⟨w3.heap.size, 0, none⟩ : Addr).add j) = some u) :=
              World.news_of_block (B := w3.heap.size) (cs := #[.int .i64 kn]) (heap_alloc_new w3 _)
            have hm63 : acc.length + 1 ≤ maxLen := by unfold maxLen; omega
            have HN3 : Hid (_) := hN
            clear hgr3 hN
            go_wp2_with (at_builtin; refine wpList_append_lies _ rfl _ _ 64 (by rfl) (w.heap.size + 2) 3 i0 _ 1 8 Tryz.underlying64 hi hz0 hz1 hz2 rfl (by decide) (.slice av acc.length cv) acc.length (flat vs) (by rfl) HO.out ⟨w3.heap.size, 0, none⟩ 1 1 [.int .i64 kn] (by rfl) rfl HNW.out (int_one _) (by decide) hm63 (by omega) (by simp; omega) (w3.heap.size + 1) (by simp) ?_)
            intro gg cp w8 hown8 hgrow8 hat8 hlt8
            have hv := HV.out
            have hca8 : w8.heap[w.heap.size + 1]? = some (.cells #[.slice av acc.length cv, .slice none 0 0] 66 (0, 0)) := (hgrow8.block (w.heap.size + 1) (by simp; omega) (fun e => by have := hv _ e.symm; omega)).trans (blk_alloc hca3 _)
            have hr08 : w8.heap[w.heap.size]? = some (.cells #[.slice none 0 0, .slice none 0 0] 66 (0, 0)) := (hgrow8.block w.heap.size (by simp; omega) (fun e => by have := hv _ e.symm; omega)).trans (blk_alloc hr03 _)
            have hsg := hgrow8.size
            simp at hsg
            have hgg : w.heap.size + 2 ≤ gg := by
              rcases hat8 with e | e
              · have := hv _ e; omega
              · omega
            have ka : Kept b w3 (w3.alloc (.cells #[.int .i64 kn] 3)) := (Kept.refl b w3).alloc _
            have k8 := kept_grown ((hI.kp.trans k3).trans ka) hgrow8 (fun k e => by have := hv k e; omega)
            have kx : Kept (w.heap.size + 1) w8 (w8.setCell ⟨w.heap.size + 1, 0, none⟩ (.slice (some ⟨gg, 0, none⟩) (acc.length + 1) cp)) := (Kept.refl _ _).setCell _ _
            have hR8 := rdr_grown (z := w.heap.size) (hR3.below ((Below.refl _ _).alloc (Nat.le_refl _) _)) hgrow8 (fun k e => by have := hv k e; omega) hbs hps
            have hgr8 := HGR3.out.snoc (z := wr.heap.size) (ys := [.int .i64 kn]) (x := kn) moves_IsI rfl (by omega) (fun k e => (hv k e).2) (by simp [flat, Value.cells]) (fun k hk => Below.heap_alloc _ _ _ hk) (by simp) hgrow8 (by simpa using hat8) hown8
            have HI8 : Hid (CasI w b bp cap T ps q (acc ++ [kn]) n1 (w8.setCell ⟨w.heap.size + 1, 0, none⟩ (.slice (some ⟨gg, 0, none⟩) (acc.length + 1) cp))) :=
              ⟨k8.own kx (by omega), by rw [size_set]; omega, (kx.block _ (by omega) (by omega)).trans hr08, ⟨.slice (some ⟨gg, 0, none⟩) (acc.length + 1) cp, _, by rw [heap_setCell_same hca8]; simp, by simpa using hgr8.kept moves_IsI kx (by omega)⟩, hR8.own kx (by omega) (by omega) (by omega)⟩
            have c8 := cells2 hca8
            have z8 := thaw4 hca8
            clear hown8 hgrow8 hat8 hv hgr8 hR8 k8 kx ka hgg hsg hr08 hca8 hlt8
            go_wp2_with fail
            have hRx := HI8.out.rd
            rcases hT : isT (cur ps n1) 5 [44] with _ | _
            · refine (skip_no _ _ _ _ _ _ _ _ _ hRx hT).mono ?_
              rintro e w9 ⟨rfl, h9, k9⟩
              have HI9 : Hid (_) := HI8.out.kept hbs k9 h9
              have hN := HN3.out
              rw [hT] at hN
              have HN9 : Hid (_) := hN
              clear hN h9 k9 hRx
              go_wp2_with fail
              go_roundg g
              case measure => omega
              case rel => exact ⟨false, _, _, rfl, HI9, by simp; omega, HN9⟩
            · refine (skip_yes _ _ _ _ _ _ _ _ _ hRx rfl hT).mono ?_
              rintro e w9 ⟨rfl, h9, k9⟩
              have HI9 : Hid (_) := HI8.out.kept hbs k9 h9
              have hN := HN3.out
              rw [hT] at hN
              have HN9 : Hid (_) := hN
              clear hN h9 k9 hRx
              go_wp2_with fail
              go_roundg g
              case measure => omega
              case rel => exact ⟨true, _, _, rfl, HI9, by simp; omega, HN9⟩
end

section
open Go.RowKit
set_option linter.unusedSimpArgs false
set_option linter.unusedVariables false

theorem moves_AnC : Moves AnC := fun _ _ _ _ _ _ h k => IsC.move h k fun _ _ h => h.move k

/-- what holds ahead of each round: the cases so far; G: where the statement lies -/
structure SwI (w : World) (G b bp cap T : Nat) (ps : List Tok) (q : RS) (x : Ex) (acc : List (List Int × List St)) (n : Nat) (wr : World) : Prop where
  kp : Kept b w wr
  gl : w.heap.size + 1 < G
  sz : G + 1 ≤ wr.heap.size
  r0 : wr.heap[w.heap.size]? = some (.cells #[.int .i64 0, .string ⟨#[]⟩, .string ⟨#[]⟩, .slice none 0 0, .slice none 0 0, .slice none 0 0, .slice none 0 0] 63 (0, 0))
  ex : Row (fun g => w.heap.size < g ∧ g < G) wr (AnE (fun g => w.heap.size < g ∧ g < G) wr) (.slice (some ⟨G - 1, 0, none⟩) 1 1) [x]
  ca : ∃ v vs, wr.heap[G]? = some (.cells #[.int .i64 7, .string ⟨#[]⟩, .string ⟨#[]⟩, .slice (some ⟨G - 1, 0, none⟩) 1 1, .slice none 0 0, .slice none 0 0, v] 63 (0, 0)) ∧ Grow AnC 66 2 (G + 1) wr v vs acc
  rd : Rdr wr b bp cap T ps { q with next := n }

theorem SwI.kept {w wr w' : World} {G b bp cap T n n' : Nat} {ps : List Tok} {q : RS} {x : Ex} {acc : List (List Int × List St)} (hb : b < w.heap.size) (h : SwI w G b bp cap T ps q x acc n wr) (k : Kept b wr w') (hR : Rdr w' b bp cap T ps { q with next := n' }) : SwI w G b bp cap T ps q x acc n' w' := by
  have hs := h.sz
  have hg := h.gl
  obtain ⟨v, vs, h1, h2⟩ := h.ca
  exact ⟨h.kp.trans k, hg, Nat.le_trans h.sz k.size, by rw [k.block _ (by omega) (by omega)]; exact h.r0, RowE.own h.ex k (fun g hg => by omega), ⟨v, vs, by rw [k.block _ (by omega) (by omega)]; exact h1, h2.kept moves_AnC k (by omega)⟩, hR⟩

theorem case_one (a1 a2 : Option Addr) (l1 c1 l2 c2 : Nat) : ∀ u ∈ [Value.slice a1 l1 c1, .slice a2 l2 c2], u.oneCell' = true := by
  intro u hu
  simp at hu
  rcases hu with rfl | rfl <;> rfl

theorem casesLoop_bind {A : Type} {x : R A} {C : Type} {f : A → Nat → R C} {r : Sum (Int × Int) (C × Nat)} (h : bindR x f = some r) : ∃ r1, x = some r1 := by
  rcases x with _ | r1
  · cases h
  · exact ⟨r1, rfl⟩


/-- the statement as it stands ahead of its end -/
structure SwT (w : World) (G b bp cap T : Nat) (ps : List Tok) (q : RS) (x : Ex) (acc : List (List Int × List St)) (els : List St) (n : Nat) (ve v : Value) (wr : World) : Prop where
  kp : Kept b w wr
  gl : w.heap.size + 1 < G
  sz : G + 1 ≤ wr.heap.size
  r0 : wr.heap[w.heap.size]? = some (.cells #[.int .i64 0, .string ⟨#[]⟩, .string ⟨#[]⟩, .slice none 0 0, .slice none 0 0, .slice none 0 0, .slice none 0 0] 63 (0, 0))
  sb : wr.heap[G]? = some (.cells #[.int .i64 7, .string ⟨#[]⟩, .string ⟨#[]⟩, .slice (some ⟨G - 1, 0, none⟩) 1 1, .slice none 0 0, ve, v] 63 (0, 0))
  an : AnS (fun g => w.heap.size ≤ g ∧ g ≠ w.heap.size) wr (.agg #[.int .i64 7, .string ⟨#[]⟩, .string ⟨#[]⟩, .slice (some ⟨G - 1, 0, none⟩) 1 1, .slice none 0 0, ve, v]) ⟨7, [], [], [x], [], els, acc⟩
  rd : Rdr wr b bp cap T ps { q with next := n }

theorem SwI.tail {w wr : World} {G b bp cap T n : Nat} {ps : List Tok} {q : RS} {x : Ex} {acc : List (List Int × List St)} (h : SwI w G b bp cap T ps q x acc n wr) : ∃ a c, SwT w G b bp cap T ps q x acc [] n (.slice none 0 0) (.slice a acc.length c) wr := by
  obtain ⟨v, vs, h1, h2⟩ := h.ca
  obtain ⟨a, c, rfl⟩ := h2.slice
  have hg := h.gl
  refine ⟨a, c, h.kp, hg, h.sz, h.r0, h1, ?_, h.rd⟩
  refine AnS.mk 7 [] [] [x] [] [] acc (h.ex.move (fun g hg _ => ⟨by omega, rfl⟩) fun u y hy => hy.move fun g hg _ => ⟨by omega, rfl⟩) (Row.nil _ _ _) (Row.nil _ _ _) ?_
  exact (h2.row moves_AnC (z := G + 1) (Nat.le_refl _)).move (fun g hg _ => ⟨by omega, rfl⟩) fun u y hy => moves_AnC _ _ _ _ _ _ hy fun g hg _ => ⟨by omega, rfl⟩

/-- .. with a block behind 'default', which was stored -/
theorem SwI.tail2 {w wr w4 : World} {G b bp cap T n n' : Nat} {ps : List Tok} {q : RS} {x : Ex} {acc : List (List Int × List St)} {els : List St} {a2 : Option Addr} {c2 : Nat} {av : Option Addr} {cv : Nat} (h : SwI w G b bp cap T ps q x acc n wr) (hb : b < w.heap.size) (hp : bp < w.heap.size) (hG : 9 ≤ b)
    (k : Kept b wr w4) (hv : wr.heap[G]? = some (.cells #[.int .i64 7, .string ⟨#[]⟩, .string ⟨#[]⟩, .slice (some ⟨G - 1, 0, none⟩) 1 1, .slice none 0 0, .slice none 0 0, .slice av acc.length cv] 63 (0, 0)))
    (hrow : Row (fun g => wr.heap.size ≤ g) w4 (AnS (fun g => wr.heap.size ≤ g) w4) (.slice a2 els.length c2) els) (hR : Rdr w4 b bp cap T ps { q with next := n' }) :
    SwT w G b bp cap T ps q x acc els n' (.slice a2 els.length c2) (.slice av acc.length cv) (w4.setCell ⟨G, 5, none⟩ (.slice a2 els.length c2)) := by
  have h' := h.kept hb k hR
  obtain ⟨v, vs, h1, h2⟩ := h'.ca
  have hg := h.gl
  have hs := h.sz
  have hs4 := k.size
  have hfar := hR.far
  have e : Value.slice av acc.length cv = v := by
    have := (k.block G (by omega) (by omega)).trans hv
    rw [h1] at this
    simp at this
    exact this.symm
  subst e
  have kZ : Kept G w4 (w4.setCell ⟨G, 5, none⟩ (.slice a2 els.length c2)) := (Kept.refl _ _).setCell _ _
  refine ⟨h'.kp.own kZ (by omega), hg, by rw [size_set]; omega, (kZ.block _ (by omega) (by omega)).trans h'.r0, by rw [heap_setCell_same h1]; simp, ?_, hR.own kZ (by omega) (by omega) (by omega)⟩
  refine AnS.mk 7 [] [] [x] [] els acc (RowE.own h'.ex kZ fun g hg => by omega) (Row.nil _ _ _) (RowS.own hrow kZ fun g hg => by omega) ?_
  have g1 := h2.row moves_AnC (z := G + 1) (Nat.le_refl _)
  exact g1.move (fun g hg hlt => ⟨by omega, kZ.block g hlt (by omega)⟩) fun u y hy => moves_AnC _ _ _ _ _ _ hy fun g hg hlt => ⟨by omega, kZ.block g hlt (by omega)⟩

set_option maxHeartbeats 4000000 in
theorem switch_any {ps : List Tok} {E : Nat → Nat → R Ex} {B : Nat → Nat → R (List St)} (hE : SaidE ps E) (hB : SaidB ps B) (f : Nat) (hf : f ≤ 1000000) : SaidF 93 ps (switchM ps E B f) := by
  intro w b bp cap T q r h hr
  have hbs := h.bsize
  have hps := h.lt
  have hfar := h.far
  have h0 := h.below ((Below.refl w.heap.size w).alloc (Nat.le_refl _) (.cells #[.int .i64 0, .string ⟨#[]⟩, .string ⟨#[]⟩, .slice none 0 0, .slice none 0 0, .slice none 0 0, .slice none 0 0] 63))
  have hx0 := heap_alloc_new w (.cells #[.int .i64 0, .string ⟨#[]⟩, .string ⟨#[]⟩, .slice none 0 0, .slice none 0 0, .slice none 0 0, .slice none 0 0] 63)
  obtain ⟨i0, hi, hz0, hz1, hz2⟩ := info_parts infoCase
  unfold switchM at hr
  go_enter Tryz.func93, Tryz.ntmps93
  go_wp2_with fail
  rcases bindR_some hr with ⟨k, h1, rfl⟩ | ⟨x, n1, h1, h2⟩
  · refine (hE _ _ _ _ _ _ _ h0 h1).mono ?_
    rintro e w2 ⟨k2, v, n', ⟨v0, v1, v2, a3, l3, c3, rfl⟩, rfl, hR⟩
    have hs2 := k2.size
    simp at hs2
    have hblk := (k2.block w.heap.size (by simp) (by omega)).trans hx0
    have hc := cells7 hblk
    have hz := thaw4 hblk
    have hlt2 : w.heap.size < w2.heap.size := by omega
    go_wp2_with fail
    exact fin_stmt Tryz.results93 rfl rfl rfl (blk_alloc (store7 hblk _ _ _ _ _ _ _) _) (postS_bad h (((Kept.refl _ _).alloc _).trans k2) ((kept7 _ _ _ _ _ _ _ _ _).alloc _) (Nat.le_refl _) hR)
  · refine (hE _ _ _ _ _ _ _ h0 h1).mono ?_
    rintro e w2 ⟨k2, v, rfl, hA, hR⟩
    obtain ⟨v0, v1, v2, a3, l3, c3, rfl⟩ := hA.sh
    have hs2 := k2.size
    simp at hs2
    have hblk := (k2.block w.heap.size (by simp) (by omega)).trans hx0
    have hblk2 := blk_alloc hblk (.cells #[.int .i64 v0, .int .i64 v1, .string v2, .slice a3 l3 c3] 116)
    have hRa := hR.below ((Below.refl w2.heap.size w2).alloc (Nat.le_refl _) (.cells #[.int .i64 v0, .int .i64 v1, .string v2, .slice a3 l3 c3] 116))
    have hea := heap_alloc_new w2 (.cells #[.int .i64 v0, .int .i64 v1, .string v2, .slice a3 l3 c3] 116)
    have kw2 : Kept b w (w2.alloc (.cells #[.int .i64 v0, .int .i64 v1, .string v2, .slice a3 l3 c3] 116)) := (((Kept.refl b w).alloc _).trans k2).trans ((Kept.refl b w2).alloc _)
    have HA : Hid (AnE (fun g => w.heap.size < g ∧ g < w2.heap.size) (w2.alloc (.cells #[.int .i64 v0, .int .i64 v1, .string v2, .slice a3 l3 c3] 116)) (.agg #[.int .i64 v0, .int .i64 v1, .string v2, .slice a3 l3 c3]) x) :=
      hA.move fun g hg hlt => ⟨by simp at hg; omega, Below.heap_alloc _ _ _ hlt⟩
    clear hA
    go_wp2_with fail
    rcases bindR_some h2 with ⟨k, h3, rfl⟩ | ⟨u, n2, h3, h4⟩
    · rcases needM_some h3 with ⟨hT, h5⟩ | ⟨hT, h5⟩
      · cases h5
      · cases h5
        refine (mark_no _ _ _ _ _ _ _ _ hRa hT).mono ?_
        rintro e w3 ⟨rfl, hR3, k3⟩
        have hs3 := k3.size
        simp at hs3
        have hblk3 := (k3.block w.heap.size (by simp; omega) (by omega)).trans hblk2
        have hc := cells7 hblk3
        have hz := thaw4 hblk3
        go_wp2_with fail
        exact fin_stmt Tryz.results93 rfl rfl rfl (store7 hblk3 _ _ _ _ _ _ _) (postS_bad h (kw2.trans k3) (kept7 _ _ _ _ _ _ _ _ _) (Nat.le_refl _) hR3)
    · rcases needM_some h3 with ⟨hT, h5⟩ | ⟨hT, h5⟩
      · cases h5
        refine (mark_yes _ _ _ _ _ _ _ _ hRa hT).mono ?_
        rintro e w3 ⟨rfl, hR3, k3⟩
        have hs3 := k3.size
        simp at hs3
        have hblk3 := (k3.block w.heap.size (by simp; omega) (by omega)).trans hblk2
        have hea3 := (k3.block w2.heap.size (by simp) (by omega)).trans hea
        have hc3 := cells4 hea3
        have hlt3 : w2.heap.size < w3.heap.size := by omega
        have hal := heap_alloc2 w3 (.cells #[.int .i64 v0, .int .i64 v1, .string v2, .slice a3 l3 c3] 116) (.cells #[.int .i64 7, .string ⟨#[]⟩, .string ⟨#[]⟩, .slice (some ⟨w3.heap.size, 0, none⟩) 1 1, .slice none 0 0, .slice none 0 0, .slice none 0 0] 63)
        have HI : Hid (SwI w (w3.heap.size + 1) b bp cap T ps q x [] (n1 + 1) ((w3.alloc (.cells #[.int .i64 v0, .int .i64 v1, .string v2, .slice a3 l3 c3] 116)).alloc (.cells #[.int .i64 7, .string ⟨#[]⟩, .string ⟨#[]⟩, .slice (some ⟨w3.heap.size, 0, none⟩) 1 1, .slice none 0 0, .slice none 0 0, .slice none 0 0] 63))) := by
          refine ⟨(kw2.trans k3).trans (((Kept.refl _ _).alloc _).alloc _), by omega, by simp, blk_alloc (blk_alloc hblk3 _) _, ?_, ⟨_, [], hal.2, Grow.nil _ _ _ _ _⟩, hR3.below (((Below.refl _ _).alloc (Nat.le_refl _) _).alloc (by simp) _)⟩
          refine row1 hal.1 (by simp; omega) (HA.out.move fun g hg hlt => ⟨by omega, ?_⟩)
          rw [Below.heap_alloc _ _ _ (by simp; omega), Below.heap_alloc _ _ _ (by simp at hlt; omega), k3.block g hlt (by omega)]
        obtain ⟨r1, hr1⟩ := casesLoop_bind h4
        rw [hr1] at h4
        have HR : Hid (_) := h4
        clear h4 hal hR3 hblk3 hblk2 hblk hRa hR h0 hx0 hea hr h2 h1
        go_wp2_with fail
        go_loopg [3] f (fun g s3 wr => ∃ (acc : List (List Int × List St)) (n : Nat), s3 = .bool false ∧ Hid (SwI w (w3.heap.size + 1) b bp cap T ps q x acc n wr) ∧ acc.length + g ≤ f ∧ Hid (casesLoop ps B f q.depth g acc n = some r1))
        case atStart => exact ⟨[], _, rfl, HI, by simp, hr1⟩
        case round =>
          clear HI hr1
          obtain ⟨acc, n, rfl, HI, hlen, HN⟩ := hrel
          have hI := HI.out
          obtain ⟨v, vs, hca, hgr⟩ := hI.ca
          obtain ⟨av, cv, rfl⟩ := hgr.slice
          have hsz := hI.sz
          have hR := hI.rd
          cases gk with
          | zero => exact absurd HN.out (by simp [casesLoop])
          | succ g =>
            have hN : casesLoop ps B f q.depth (g + 1) acc n = some r1 := HN.out
            simp only [casesLoop] at hN
            rcases hT2 : isT (cur ps n) 2 [99, 97, 115, 101] with _ | _
            · rw [hT2] at hN
              cases hN
              have hr := HR.out
              simp only [bindR] at hr
              clear hgr
              go_wp2_with fail
              refine (skip_no _ _ _ _ _ _ _ _ _ hR hT2).mono ?_
              rintro e w4 ⟨rfl, hR4, k4⟩
              have HI4 : Hid (SwI w (w3.heap.size + 1) b bp cap T ps q x acc n w4) := hI.kept hbs k4 hR4
              clear hI HI hca
              go_wp2_with fail
              rcases hT3 : isT (cur ps n) 2 [100, 101, 102, 97, 117, 108, 116] with _ | _
              · rw [hT3] at hr
                simp only [Bool.false_eq_true, if_false] at hr
                refine (skip_no _ _ _ _ _ _ _ _ _ hR4 hT3).mono ?_
                rintro e w5 ⟨rfl, hR5, k5⟩
                obtain ⟨at2, ct2, hST⟩ := (HI4.out.kept hbs k5 hR5).tail
                have ST : Hid (_) := hST
                have hRt := hST.rd
                have hr0t := hST.r0
                have hsbt := hST.sb
                have hszt := hST.sz
                have hglt := hST.gl
                have hca := cells7 hsbt
                have hzt := thaw4 hsbt
                have hcr := cells7 hr0t
                have hzr := thaw4 hr0t
                clear hST hR4 hR5 hR k4 k5
                go_wp2_with fail
                rcases bindR_some hr with ⟨k, hm1, rfl⟩ | ⟨u, nz, hm1, hm2⟩
                · rcases needM_some hm1 with ⟨hTm, hm3⟩ | ⟨hTm, hm3⟩
                  · cases hm3
                  · cases hm3
                    go_region_with (go_at_call 61; refine (mark_no _ _ _ _ _ _ _ _ (hRt.below (Below.refl _ _).drew) hTm).mono ?_; rintro e w6 ⟨rfl, hR6, k6⟩; have hx6 := (k6.block w.heap.size (by simp; omega) (by omega)).trans hr0t; have hy6 := (k6.block (w3.heap.size + 1) (by simp; omega) (by omega)).trans hsbt; have hcx := cells7 hx6; have hcy := cells7 hy6; have hzz := thaw4 hx6)
                    all_goals
                      go_wp2_with fail
                      exact fin_stmt Tryz.results93 rfl rfl rfl (store7 hx6 _ _ _ _ _ _ _) (postS_bad h ((ST.out.kp.trans (Kept.refl _ _).drew).trans k6) (kept7 _ _ _ _ _ _ _ _ _) (Nat.le_refl _) hR6)
                · rcases needM_some hm1 with ⟨hTm, hm3⟩ | ⟨hTm, hm3⟩
                  · cases hm3
                    cases hm2
                    go_region_with (go_at_call 61; refine (mark_yes _ _ _ _ _ _ _ _ (hRt.below (Below.refl _ _).drew) hTm).mono ?_; rintro e w6 ⟨rfl, hR6, k6⟩; have hx6 := (k6.block w.heap.size (by simp; omega) (by omega)).trans hr0t; have hy6 := (k6.block (w3.heap.size + 1) (by simp; omega) (by omega)).trans hsbt; have hcx := cells7 hx6; have hcy := cells7 hy6; have hzz := thaw4 hx6)
                    all_goals
                      go_wp2_with fail
                      exact fin_stmt Tryz.results93 rfl rfl rfl (store7 hx6 _ _ _ _ _ _ _) (postS_ok h ((ST.out.kp.trans (Kept.refl _ _).drew).trans k6) (kept7 _ _ _ _ _ _ _ _ _) (Nat.le_refl _) hR6 (ST.out.an.move fun g hg hlt => ⟨hg, k6.block g hlt (by omega)⟩))
                  · cases hm3
              · rw [hT3] at hr
                simp only [if_true] at hr
                refine (skip_yes _ _ _ _ _ _ _ _ _ hR4 rfl hT3).mono ?_
                rintro e w5 ⟨rfl, hR5, k5⟩
                have hI5 := HI4.out.kept hbs k5 hR5
                obtain ⟨v5, vs5, hca5, hgr5⟩ := hI5.ca
                obtain ⟨av5, cv5, rfl⟩ := hgr5.slice
                have hsz5 := hI5.sz
                have hgl5 := hI5.gl
                have HI5 : Hid (_) := hI5
                clear hgr5 hR4 hR k4 k5
                go_wp2_with fail
                obtain ⟨r2, hr2⟩ := casesLoop_bind hr
                rw [hr2] at hr
                refine (caseBody_any hB _ _ _ _ _ _ _ hR5 hr2).mono ?_
                intro e w7 hP
                obtain ⟨a2, l2, c2, ok, rfl⟩ := hP.sh
                have k7 := hP.1
                have hs7 := k7.size
                have hca7 := (k7.block (w3.heap.size + 1) (by omega) (by omega)).trans hca5
                have hr07 := (k7.block w.heap.size (by omega) (by omega)).trans hI5.r0
                have hcy7 := cells7 hca7
                have hzy7 := thaw4 hca7
                have hcx7 := cells7 hr07
                have hzx7 := thaw4 hr07
                have kZ : Kept (w3.heap.size + 1) w7 (w7.setCell ⟨w3.heap.size + 1, 5, none⟩ (.slice a2 l2 c2)) := (Kept.refl _ _).setCell _ _
                have hca8 : (w7.setCell ⟨w3.heap.size + 1, 5, none⟩ (.slice a2 l2 c2)).heap[w3.heap.size + 1]? = some (.cells #[.int .i64 7, .string ⟨#[]⟩, .string ⟨#[]⟩, .slice (some ⟨w3.heap.size, 0, none⟩) 1 1, .slice none 0 0, .slice a2 l2 c2, .slice av5 acc.length cv5] 63 (0, 0)) := by rw [heap_setCell_same hca7]; simp
                have hr08 := (kZ.block w.heap.size (by omega) (by omega)).trans hr07
                rcases r2 with k | ⟨l, n7⟩
                · cases hr
                  obtain ⟨_, a9, l9, c9, n', he, hR7⟩ := hP
                  cases he
                  have hRz := hR7.own kZ (by omega) (by omega) (by omega)
                  have kWz := (hI5.kp.trans k7).own kZ (by omega)
                  have hsz8 := kZ.size
                  have hca9 := cells7 hca8
                  have hz9 := thaw4 hca8
                  have hcr9 := cells7 hr08
                  have hzr9 := thaw4 hr08
                  go_wp2_with fail
                  generalize (w7.setCell ⟨w3.heap.size + 1, 5, none⟩ (.slice a2 l2 c2)) = w8 at *
                  go_region
                  all_goals
                    go_wp2_with fail
                    exact fin_stmt Tryz.results93 rfl rfl rfl (blk_drew (store7 hr08 _ _ _ _ _ _ _)) (postS_bad h kWz (kept7 _ _ _ _ _ _ _ _ _).drew (Nat.le_refl _) hRz)
                · simp only [bindR] at hr
                  obtain ⟨_, a9, c9, he, hrow, hR7⟩ := hP
                  cases he
                  have hST := HI5.out.tail2 hbs hps hfar k7 hca5 hrow hR7
                  have ST : Hid (_) := hST
                  have hRt := hST.rd
                  have hr0t := hST.r0
                  have hsbt := hST.sb
                  have hszt := hST.sz
                  have hglt := hST.gl
                  have hca := cells7 hsbt
                  have hzt := thaw4 hsbt
                  have hcr := cells7 hr0t
                  have hzr := thaw4 hr0t
                  clear hST hR5 hrow HI5 HI4
                  go_wp2_with fail
                  generalize (w7.setCell ⟨w3.heap.size + 1, 5, none⟩ (.slice a2 l.length c2)) = w8 at *
                  rcases bindR_some hr with ⟨k, hm1, rfl⟩ | ⟨u, nz, hm1, hm2⟩
                  · rcases needM_some hm1 with ⟨hTm, hm3⟩ | ⟨hTm, hm3⟩
                    · cases hm3
                    · cases hm3
                      go_region_with (go_at_call 61; refine (mark_no _ _ _ _ _ _ _ _ (hRt.below (Below.refl _ _).drew) hTm).mono ?_; rintro e w6 ⟨rfl, hR6, k6⟩; have hx6 := (k6.block w.heap.size (by simp; omega) (by omega)).trans hr0t; have hy6 := (k6.block (w3.heap.size + 1) (by simp; omega) (by omega)).trans hsbt; have hcx := cells7 hx6; have hcy := cells7 hy6; have hzz := thaw4 hx6)
                      all_goals
                        go_wp2_with fail
                        exact fin_stmt Tryz.results93 rfl rfl rfl (store7 hx6 _ _ _ _ _ _ _) (postS_bad h ((ST.out.kp.trans (Kept.refl _ _).drew).trans k6) (kept7 _ _ _ _ _ _ _ _ _) (Nat.le_refl _) hR6)
                  · rcases needM_some hm1 with ⟨hTm, hm3⟩ | ⟨hTm, hm3⟩
                    · cases hm3
                      cases hm2
                      go_region_with (go_at_call 61; refine (mark_yes _ _ _ _ _ _ _ _ (hRt.below (Below.refl _ _).drew) hTm).mono ?_; rintro e w6 ⟨rfl, hR6, k6⟩; have hx6 := (k6.block w.heap.size (by simp; omega) (by omega)).trans hr0t; have hy6 := (k6.block (w3.heap.size + 1) (by simp; omega) (by omega)).trans hsbt; have hcx := cells7 hx6; have hcy := cells7 hy6; have hzz := thaw4 hx6)
                      all_goals
                        go_wp2_with fail
                        exact fin_stmt Tryz.results93 rfl rfl rfl (store7 hx6 _ _ _ _ _ _ _) (postS_ok h ((ST.out.kp.trans (Kept.refl _ _).drew).trans k6) (kept7 _ _ _ _ _ _ _ _ _) (Nat.le_refl _) hR6 (ST.out.an.move fun g hg hlt => ⟨hg, k6.block g hlt (by omega)⟩))
                    · cases hm3
            · rw [hT2] at hN
              simp only [if_true] at hN
              clear hgr
              go_wp2_with fail
              refine (skip_yes _ _ _ _ _ _ _ _ _ hR rfl hT2).mono ?_
              rintro e w4 ⟨rfl, hR4, k4⟩
              have hI4 := hI.kept hbs k4 hR4
              have hsz4 := hI4.sz
              have hgl4 := hI4.gl
              obtain ⟨v4, vs4, hca4, hgr4⟩ := hI4.ca
              obtain ⟨av4, cv4, rfl⟩ := hgr4.slice
              have HV : Hid (∀ k, (Value.slice av4 acc.length cv4).ownBlock = some k → w3.heap.size + 1 + 1 ≤ k ∧ k < w4.heap.size) := hgr4.1.lt
              have HI4 : Hid (SwI w (w3.heap.size + 1) b bp cap T ps q x acc (n + 1) w4) := hI4
              have HGR4 : Hid (Grow AnC 66 2 (w3.heap.size + 1 + 1) w4 (.slice av4 acc.length cv4) vs4 acc) := hgr4
              clear hgr4 hI4 hI HI hca hR k4
              go_wp2_with fail
              obtain ⟨r2, hr2⟩ := casesLoop_bind hN
              rw [hr2] at hN
              refine (switchCase_any hB f hf _ _ _ _ _ _ _ hR4 hr2).mono ?_
              rintro e w5 ⟨k5, hP⟩
              have hs5 := k5.size
              have hr05 := (k5.block w.heap.size (by omega) (by omega)).trans HI4.out.r0
              have hca5 := (k5.block (w3.heap.size + 1) (by omega) (by omega)).trans hca4
              rcases r2 with k | ⟨c, n4⟩
              · cases hN
                have hr := HR.out
                cases hr
                obtain ⟨a1, l1, c1, a2, l2, c2, n', rfl, hR5⟩ := hP
                have hcx := cells7 hr05
                have hzx := thaw4 hr05
                have hlt5 : w.heap.size < w5.heap.size := by omega
                go_wp2_with fail
                exact fin_stmt Tryz.results93 rfl rfl rfl (blk_alloc (store7 hr05 _ _ _ _ _ _ _) _) (postS_bad h (HI4.out.kp.trans k5) ((kept7 _ _ _ _ _ _ _ _ _).alloc _) (Nat.le_refl _) hR5)
              · simp only [bindR] at hN
                obtain ⟨a1, l1, c1, a2, l2, c2, rfl, hAC, hR5⟩ := hP
                have hgr5 := HGR4.out.kept moves_AnC k5 (by omega)
                have HGR5 : Hid (Grow AnC 66 2 (w3.heap.size + 1 + 1) w5 (.slice av4 acc.length cv4) vs4 acc) := hgr5
                have HO : Hid (((w5.alloc (.cells #[.slice a1 l1 c1, .slice a2 l2 c2] 66)).alloc (.cells #[.slice a1 l1 c1, .slice a2 l2 c2] 66)).ownsRow (w3.heap.size + 1 + 1) 66 2 (.slice av4 acc.length cv4) acc.length (flat vs4)) := (hgr5.1.alloc _).alloc _
                have HNW : Hid (∀ j u, [Value.slice a1 l1 c1, .slice a2 l2 c2][j]? = some u → ((w5.alloc (.cells #[.slice a1 l1 c1, .slice a2 l2 c2] 66)).alloc (.cells #[.slice a1 l1 c1, .slice a2 l2 c2] 66)).cell? ((⟨w5.heap.size + 1, 0, none⟩ : Addr).add j) = some u) :=
                  World.news_of_block (B := w5.heap.size + 1) (cs := #[.slice a1 l1 c1, .slice a2 l2 c2]) (heap_alloc2 w5 _ _).2
                have hm63 : acc.length + 1 ≤ maxLen := by unfold maxLen; omega
                have HN5 : Hid (_) := hN
                have HAC : Hid (_) := hAC
                have hcy5 := cells7 hca5
                have hlt5 : w3.heap.size + 1 < w5.heap.size := by omega
                clear hgr5 hN hAC
                go_wp2_with (at_builtin; refine wpList_append_lies _ rfl _ _ 61 (by rfl) (w3.heap.size + 1 + 1) 66 i0 _ 2 48 Tryz.underlying61 hi hz0 hz1 hz2 rfl (by decide) (.slice av4 acc.length cv4) acc.length (flat vs4) (by rfl) HO.out ⟨w5.heap.size + 1, 0, none⟩ 1 1 [.slice a1 l1 c1, .slice a2 l2 c2] (by rfl) rfl HNW.out (case_one _ _ _ _ _ _) (by decide) hm63 (by omega) (by simp; omega) (w5.heap.size + 2) (by simp) ?_)
                intro gg cp w8 hown8 hgrow8 hat8 hlt8
                have hv := HV.out
                have hal : ∀ k, k < w5.heap.size → ((w5.alloc (.cells #[.slice a1 l1 c1, .slice a2 l2 c2] 66)).alloc (.cells #[.slice a1 l1 c1, .slice a2 l2 c2] 66)).heap[k]? = w5.heap[k]? := fun k hk => (Below.heap_alloc _ _ _ (by simp; omega)).trans (Below.heap_alloc _ _ _ hk)
                have keep : ∀ k, k < w5.heap.size → k ≤ w3.heap.size + 1 → w8.heap[k]? = w5.heap[k]? := fun k hk hle => (hgrow8.block k (by simp; omega) (fun e => by have := hv _ e.symm; omega)).trans (hal k hk)
                have hca8 := (keep (w3.heap.size + 1) (by omega) (by omega)).trans hca5
                have hr08 := (keep w.heap.size (by omega) (by omega)).trans hr05
                have hsg := hgrow8.size
                simp at hsg
                have hgg : w3.heap.size + 1 + 1 ≤ gg := by
                  rcases hat8 with e | e
                  · have := hv _ e; omega
                  · omega
                have ka : Kept b w5 ((w5.alloc (.cells #[.slice a1 l1 c1, .slice a2 l2 c2] 66)).alloc (.cells #[.slice a1 l1 c1, .slice a2 l2 c2] 66)) := ((Kept.refl b w5).alloc _).alloc _
                have k8 := kept_grown ((HI4.out.kp.trans k5).trans ka) hgrow8 (fun k e => by have := hv k e; omega)
                have kx : Kept (w3.heap.size + 1) w8 (w8.setCell ⟨w3.heap.size + 1, 6, none⟩ (.slice (some ⟨gg, 0, none⟩) (acc.length + 1) cp)) := (Kept.refl _ _).setCell _ _
                have hR8 := rdr_grown (z := w.heap.size) (hR5.below (((Below.refl _ _).alloc (Nat.le_refl _) _).alloc (by simp) _)) hgrow8 (fun k e => by have := hv k e; omega) hbs hps
                have hgr8 := HGR5.out.snoc (z := w4.heap.size) (ys := [.slice a1 l1 c1, .slice a2 l2 c2]) (x := c) moves_AnC HAC.out (by omega) (fun k e => (hv k e).2) (by simp [flat, Value.cells]) hal (by simp; omega) hgrow8 (by simpa using hat8) hown8
                have hex8 : Row (fun g => w.heap.size < g ∧ g < w3.heap.size + 1) (w8.setCell ⟨w3.heap.size + 1, 6, none⟩ (.slice (some ⟨gg, 0, none⟩) (acc.length + 1) cp)) (AnE (fun g => w.heap.size < g ∧ g < w3.heap.size + 1) (w8.setCell ⟨w3.heap.size + 1, 6, none⟩ (.slice (some ⟨gg, 0, none⟩) (acc.length + 1) cp))) (.slice (some ⟨w3.heap.size, 0, none⟩) 1 1) [x] := by
                  have g5 := RowE.own (S' := fun g => w.heap.size < g ∧ g < w3.heap.size + 1) HI4.out.ex k5 (fun g hg => by omega)
                  have mv : ∀ g, (w.heap.size < g ∧ g < w3.heap.size + 1) → g < w5.heap.size → (w.heap.size < g ∧ g < w3.heap.size + 1) ∧ (w8.setCell ⟨w3.heap.size + 1, 6, none⟩ (.slice (some ⟨gg, 0, none⟩) (acc.length + 1) cp)).heap[g]? = w5.heap[g]? :=
                    fun g hg hlt => ⟨hg, (kx.block g (by omega) (by omega)).trans (keep g hlt (by omega))⟩
                  exact g5.move mv fun u y hy => hy.move mv
                have HI8 : Hid (SwI w (w3.heap.size + 1) b bp cap T ps q x (acc ++ [c]) n4 (w8.setCell ⟨w3.heap.size + 1, 6, none⟩ (.slice (some ⟨gg, 0, none⟩) (acc.length + 1) cp))) :=
                  ⟨k8.own kx (by omega), hgl4, by rw [size_set]; omega, (kx.block _ (by omega) (by omega)).trans hr08, hex8, ⟨.slice (some ⟨gg, 0, none⟩) (acc.length + 1) cp, _, by rw [heap_setCell_same hca8]; simp, by simpa using hgr8.kept moves_AnC kx (by omega)⟩, hR8.own kx (by omega) (by omega) (by omega)⟩
                have c8 := cells7 hca8
                have z8 := thaw4 hca8
                clear hown8 hgrow8 hat8 hv hgr8 hR8 k8 kx ka hgg hsg hr08 hca8 hlt8 hex8 keep hal
                go_wp2_with fail
                go_roundg g
                case measure => omega
                case rel => exact ⟨_, _, rfl, HI8, by simp; omega, HN5⟩
      · cases h5
end

section
open Go.RowKit
set_option linter.unusedSimpArgs false
set_option linter.unusedVariables false

def blockG (ps : List Tok) (E : Nat → Nat → R Ex) (f : Nat) : Nat → Nat → Nat → R (List St)
  | 0, _, _ => none
  | g + 1, d, n => blockM ps (statementN ps E (ifM ps E (blockG ps E f g) f) (loopM ps E (blockG ps E f g)) (switchM ps E (blockG ps E f g) f) f) f d n

theorem block_said {ps : List Tok} {E : Nat → Nat → R Ex} (hE : SaidE ps E) (f : Nat) (hf : f ≤ 1000000) : ∀ g, SaidB ps (blockG ps E f g)
  | 0 => fun _ _ _ _ _ _ _ _ h => by cases h
  | g + 1 => block_any (statement_any hE (if_said hE (block_said hE f hf g) f) (loop_any hE (block_said hE f hf g)) (switch_any hE (block_said hE f hf g) f hf) f hf) f hf

/-- all functions of the pieces: f: the fuel -/
def functionsM (ps : List Tok) (f : Nat) : R (List Fn') := funcsLoop ps (functionM ps (blockG ps (exprM ps f) f 40) f 0) f [] 0

theorem functions_said (ps : List Tok) (f : Nat) (hf : f ≤ 1000000) (w : World) (b bp cap T : Nat) (a k : Int) (r : Sum (Int × Int) (List Fn' × Nat)) (h : Rdr w b bp cap T ps ⟨0, 0, a, k⟩) (hr : functionsM ps f = some r) :
    Calls Tryz.prog 12 #[.pointer (some ⟨b, 0, none⟩)] w (PostFs b bp cap T ps ⟨0, 0, a, k⟩ w r) :=
  functions_any (block_said (expr_said ps f hf) f hf 40) w b bp cap T f f hf hf ⟨0, 0, a, k⟩ r h hr
end

end Go.Proofs.YtbpnfoihonehgabGreatDoor
