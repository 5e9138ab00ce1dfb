/-
  read.Read.
-/
import Derived.Test.YtgifghcaeoinoaaDoorReT
import Derived.Test.YtgifghcaeoinoaaDoorReK
namespace Go.Proofs.YtgifghcaeoinoaaDoor
open Go.RowKit
set_option linter.unusedSimpArgs false
set_option linter.unusedVariables false

theorem cutLoop_ok (s : ByteArray) : ∀ (f i : Nat) (acc l : List Tok), cutLoop s f i acc = some (.inr l) → l.length ≤ acc.length + f ∧ ∃ l' t, l = l' ++ [t] ∧ t.kind = 0
  | 0, i, acc, l, h => by simp [cutLoop] at h
  | f + 1, i, acc, l, h => by
    simp only [cutLoop] at h
    split at h
    · split at h
      · have := cutLoop_ok s f (i + 1) acc l h
        exact ⟨by omega, this.2⟩
      · split at h
        · cases h
        · have := cutLoop_ok s f _ _ l h
          simp at this
          exact ⟨by omega, by simpa using this.2⟩
    · cases h
      exact ⟨by simp, acc, _, rfl, rfl⟩

theorem last_fin {l l' : List Tok} {t : Tok} (h : l = l' ++ [t]) (ht : t.kind = 0) : ∀ i, i < l.length → (cur l i).kind ≠ 0 → i + 1 < l.length := by
  intro i hi hk
  subst h
  simp at hi ⊢
  rcases Nat.lt_or_ge i l'.length with h | h
  · omega
  · exfalso
    have : i = l'.length := by omega
    subst this
    apply hk
    simp [cur, ht]

theorem below_own2 {w w2 W : World} {x : Nat} (h : Below w.heap.size w w2) (k : Kept x w2 W) (hx : w.heap.size ≤ x) : Below w.heap.size w W :=
  ⟨k.os.trans h.os, k.tape.trans h.tape, k.output.trans h.output, Nat.le_trans h.size k.size, fun i hi => (k.block i (Nat.lt_of_lt_of_le hi h.size) (by omega)).trans (h.block i hi)⟩

/-- what reading a source answers: F: the fuel -/
def readM (F : Nat) (s : ByteArray) : Option (Sum (Int × Int) (List Fn')) :=
  if (4000 : Int) < (s.size : Nat) then some (.inl (0, 1))
  else match cutLoop s (s.size + 1) 0 [] with
    | none => none
    | some (.inl k) => some (.inl ((k.1 : Nat), k.2))
    | some (.inr l) => match functionsM l F with
      | none => none
      | some (.inl k) => some (.inl k)
      | some (.inr x) => some (.inr x.1)

def PostR (w : World) (r : Sum (Int × Int) (List Fn')) (e : Ending) (w' : World) : Prop :=
  Below w.heap.size w w' ∧ match r with
  | .inl k => e = .returned (.tuple #[.slice none 0 0, .int .i64 k.1, .int .i64 k.2])
  | .inr fs => ∃ a c, e = .returned (.tuple #[.slice a fs.length c, .int .i64 0, .int .i64 0]) ∧ Row (fun g => w.heap.size ≤ g) w' (IsFn (fun g => w.heap.size ≤ g) w') (.slice a fs.length c) fs

set_option maxHeartbeats 2000000 in
theorem read_any (F : Nat) (hF : F ≤ 1000000) (s : ByteArray) (w : World) (ht : Tab w) (hG : 8 ≤ w.heap.size) (r : Sum (Int × Int) (List Fn')) (hr : readM F s = some r) :
    Calls Tryd.prog 7 #[.string s] w (PostR w r) := by
  unfold readM at hr
  by_cases hbig : (4000 : Int) < (s.size : Nat)
  · rw [if_pos hbig] at hr
    cases hr
    have hbb : decide ((4000 : Int) < ((s.size : Nat) : Int)) = true := by simpa using hbig
    go_enter Tryd.func7, Tryd.ntmps7
    go_wp2_with fail
    exact bodyPost_ret (results_tmp3 Tryd.results7) rfl ⟨Below.refl _ _, rfl⟩
  · rw [if_neg hbig] at hr
    have hbb : decide ((4000 : Int) < ((s.size : Nat) : Int)) = false := by simpa using hbig
    have hle : ((s.size : Nat) : Int) ≤ 4000 := by omega
    rcases hc : cutLoop s (s.size + 1) 0 [] with _ | k | l
    · rw [hc] at hr; cases hr
    · rw [hc] at hr
      cases hr
      go_enter Tryd.func7, Tryd.ntmps7
      go_wp2_with fail
      refine (cut_any s (by omega) _ ht _ hc).mono ?_
      rintro e w1 ⟨hb1, rfl, hk0⟩
      have hkb : (k.2 != 0) = true := by simpa using hk0
      go_wp2_with fail
      exact bodyPost_ret (results_tmp3 Tryd.results7) rfl ⟨hb1, rfl⟩
    · rw [hc] at hr
      simp only at hr
      obtain ⟨hlen, l', t, hl', ht0⟩ := cutLoop_ok s _ _ _ _ hc
      have hfin := last_fin hl' ht0
      have hpos : 0 < l.length := by rw [hl']; simp
      simp at hlen
      go_enter Tryd.func7, Tryd.ntmps7
      go_wp2_with fail
      refine (cut_any s (by omega) _ ht _ hc).mono ?_
      rintro e w1 ⟨hb1, g, c, rfl, htr, hg1, hg2⟩
      have hs1 := hb1.size
      have hblk := heap_alloc_new w1 (.cells #[.slice (some ⟨g, 0, none⟩) l.length c, .int .i64 0, .int .i64 0, .int .i64 0, .int .i64 0] 52)
      have hkx : Below w1.heap.size w1 (w1.alloc (.cells #[.slice (some ⟨g, 0, none⟩) l.length c, .int .i64 0, .int .i64 0, .int .i64 0, .int .i64 0] 52)) := (Below.refl _ _).alloc (Nat.le_refl _) _
      have hR : Rdr (w1.alloc (.cells #[.slice (some ⟨g, 0, none⟩) l.length c, .int .i64 0, .int .i64 0, .int .i64 0, .int .i64 0] 52)) w1.heap.size g c 52 l ⟨0, 0, 0, 0⟩ := by
        refine ⟨hblk, ?_, by omega, by simp; omega, hpos, by omega, Nat.zero_le _, (ht.below hb1).below hkx, by omega, hfin⟩
        intro i hi
        have := htr i hi
        rw [← hkx.cell (p := ⟨g, i * 4, none⟩) hg2, ← hkx.cell (p := ⟨g, i * 4 + 1, none⟩) hg2, ← hkx.cell (p := ⟨g, i * 4 + 2, none⟩) hg2, ← hkx.cell (p := ⟨g, i * 4 + 3, none⟩) hg2] at this
        exact this
      have HB : Hid (Below w.heap.size w (w1.alloc (.cells #[.slice (some ⟨g, 0, none⟩) l.length c, .int .i64 0, .int .i64 0, .int .i64 0, .int .i64 0] 52))) := below_after hb1 hkx
      clear htr hblk hkx hb1 hfin hl'
      go_wp2_with fail
      rcases hfm : functionsM l F with _ | k | ⟨fs, nx⟩
      · rw [hfm] at hr; cases hr
      · rw [hfm] at hr
        cases hr
        refine (functions_said l F hF _ _ _ _ _ 0 0 _ hR hfm).mono ?_
        rintro e w2 ⟨k2, n', rfl, hR2⟩
        have hs2 := k2.size
        simp at hs2
        obtain ⟨c0, c1, c2, c3, c4⟩ := hR2.cells
        have hlt : w1.heap.size < w2.heap.size := by omega
        have HB2 : Hid (Below w.heap.size w w2) := below_own2 HB.out k2 hs1
        go_wp2_with fail
        go_region
        all_goals
          go_wp2_with fail
          exact bodyPost_ret (results_tmp3 Tryd.results7) rfl ⟨HB2.out.drew, rfl⟩
      · rw [hfm] at hr
        cases hr
        refine (functions_said l F hF _ _ _ _ _ 0 0 _ hR hfm).mono ?_
        rintro e w2 ⟨k2, a, cc, rfl, hrow, hR2⟩
        have HB2 : Hid (Below w.heap.size w w2) := below_own2 HB.out k2 hs1
        have HRW : Hid (Row (fun g => w.heap.size ≤ g) w2 (IsFn (fun g => w.heap.size ≤ g) w2) (.slice a fs.length cc) fs) :=
          hrow.move (fun g hg _ => ⟨by simp at hg; omega, rfl⟩) fun u x hx => moves_IsFn _ _ _ _ _ _ hx fun g hg _ => ⟨by simp at hg; omega, rfl⟩
        clear hrow hR2
        go_wp2_with fail
        exact bodyPost_ret (results_tmp3 Tryd.results7) rfl ⟨HB2.out, a, cc, rfl, HRW.out⟩

end Go.Proofs.YtgifghcaeoinoaaDoor
