/-
  A number.
-/
import Derived.Test.YtgifghcaeoinoaaDoorReO
namespace Go.Proofs.YtgifghcaeoinoaaDoor
open Go.RowKit
set_option linter.unusedSimpArgs false
set_option linter.unusedVariables false

/-- how far a number goes, and what it comes to: f bytes are left -/
def runN (s : ByteArray) : Nat → Nat → Int → Nat × Int
  | 0, i, n => (i, n)
  | f + 1, i, n => if isDigitB (bN s i) then runN s f (i + 1) (if n ≤ 1099511627776 then n * 10 + ((bN s i : Nat) - 48) else n) else (i, n)

def cutNumberM (s : ByteArray) : Sum Int (Tok × Nat) :=
  if (1099511627776 : Int) < (runN s s.size 0 0).2 then .inl 2
  else if ((bN s 0 : Nat) : Int) == 48 && decide ((1 : Int) < ((runN s s.size 0 0).1 : Nat)) then .inl 4
  else .inr (⟨3, 0, (runN s s.size 0 0).2, []⟩, (runN s s.size 0 0).1)

theorem digit_bounds {c : Int} (h : isDigitB c = true) : 48 ≤ c ∧ c ≤ 57 := by
  simpa [isDigitB] using h

set_option maxHeartbeats 2000000 in
theorem cutNumber_core (s : ByteArray) (hs : 0 < s.size) (hlim : s.size ≤ 1000000) (w : World) (e0 : Ending) (HE : Hid (lexE (cutNumberM s) = e0)) :
    Calls Tryd.prog 54 #[.string s] w fun e w' => e = e0 ∧ Below w.heap.size w w' := by
  go_enter Tryd.func54, Tryd.ntmps54
  go_wp2_with fail
  go_loopg [5, 6] s.size (fun g s5 s6 wr => ∃ (i : Nat) (n : Int), s5 = .int .i64 n ∧ s6 = .int .i64 (i : Nat) ∧ wr = (w.alloc (.cells #[.int .i64 0, .int .i64 0, .int .i64 0, .string ⟨#[]⟩] 78)) ∧ 0 ≤ n ∧ n ≤ 10995116277770 ∧ i + g = s.size ∧ Hid (runN s g i n = runN s s.size 0 0))
  case atStart => exact ⟨0, 0, rfl, rfl, rfl, by omega, by omega, by omega, rfl⟩
  case round =>
    obtain ⟨i, n, rfl, rfl, rfl, hn0, hn1, hi2, HN⟩ := hrel
    cases gk with
    | zero =>
      have hN : runN s s.size 0 0 = (i, n) := HN.out.symm
      have hlt : ¬ (i : Int) < (s.size : Int) := by omega
      have hltb : decide ((i : Int) < (s.size : Int)) = false := by simpa using hlt
      have hile : i ≤ s.size := by omega
      have hm := HE.out
      unfold cutNumberM at hm
      rw [hN] at hm
      simp only at hm
      by_cases hbig : (1099511627776 : Int) < n
      · have hbb : decide ((1099511627776 : Int) < n) = true := by simpa using hbig
        rw [if_pos hbig] at hm
        have HM : Hid (_) := hm
        clear hm
        go_wp2_with fail
        exact fin_lex Tryd.results54 rfl rfl rfl rfl (heap_alloc_new w _) ⟨HM.out, (Below.refl _ _).alloc (Nat.le_refl _) _⟩
      · have hbb : decide ((1099511627776 : Int) < n) = false := by simpa using hbig
        have hbn : n ≤ 1099511627776 := by omega
        rw [if_neg hbig] at hm
        rcases hz : (((bN s 0 : Nat) : Int) == 48) with _ | _
        · rw [hz] at hm
          have HM : Hid (_) := hm
          clear hm
          go_wp2_with fail
          exact fin_lex Tryd.results54 rfl rfl rfl rfl (heap_alloc_new w _) ⟨HM.out, (Below.refl _ _).alloc (Nat.le_refl _) _⟩
        · rw [hz] at hm
          by_cases hone : (1 : Int) < (i : Int)
          · have hob : decide ((1 : Int) < (i : Int)) = true := by simpa using hone
            rw [hob] at hm
            have HM : Hid (_) := hm
            clear hm
            go_wp2_with fail
            exact fin_lex Tryd.results54 rfl rfl rfl rfl (heap_alloc_new w _) ⟨HM.out, (Below.refl _ _).alloc (Nat.le_refl _) _⟩
          · have hob : decide ((1 : Int) < (i : Int)) = false := by simpa using hone
            have hon : (i : Int) ≤ 1 := by omega
            rw [hob] at hm
            have HM : Hid (_) := hm
            clear hm
            go_wp2_with fail
            exact fin_lex Tryd.results54 rfl rfl rfl rfl (heap_alloc_new w _) ⟨HM.out, (Below.refl _ _).alloc (Nat.le_refl _) _⟩
    | succ g =>
      have hlt : (i : Int) < (s.size : Int) := by omega
      have hltb : decide ((i : Int) < (s.size : Int)) = true := by simpa using hlt
      have hltn : i < s.size := by omega
      have hile : i ≤ s.size := by omega
      rcases hD : isDigitB ((bN s i : Nat) : Int) with _ | _
      · have hN : runN s s.size 0 0 = (i, n) := by rw [← HN.out, runN, hD]; rfl
        go_wp2_with fail
        refine (isDigit_any _ _).mono ?_
        rintro e w1 ⟨rfl, rfl⟩
        rw [hD]
        have hm := HE.out
        unfold cutNumberM at hm
        rw [hN] at hm
        simp only at hm
        by_cases hbig : (1099511627776 : Int) < n
        · have hbb : decide ((1099511627776 : Int) < n) = true := by simpa using hbig
          rw [if_pos hbig] at hm
          have HM : Hid (_) := hm
          clear hm
          go_wp2_with fail
          exact fin_lex Tryd.results54 rfl rfl rfl rfl (heap_alloc_new w _) ⟨HM.out, (Below.refl _ _).alloc (Nat.le_refl _) _⟩
        · have hbb : decide ((1099511627776 : Int) < n) = false := by simpa using hbig
          have hbn : n ≤ 1099511627776 := by omega
          rw [if_neg hbig] at hm
          rcases hz : (((bN s 0 : Nat) : Int) == 48) with _ | _
          · rw [hz] at hm
            have HM : Hid (_) := hm
            clear hm
            go_wp2_with fail
            exact fin_lex Tryd.results54 rfl rfl rfl rfl (heap_alloc_new w _) ⟨HM.out, (Below.refl _ _).alloc (Nat.le_refl _) _⟩
          · rw [hz] at hm
            by_cases hone : (1 : Int) < (i : Int)
            · have hob : decide ((1 : Int) < (i : Int)) = true := by simpa using hone
              rw [hob] at hm
              have HM : Hid (_) := hm
              clear hm
              go_wp2_with fail
              exact fin_lex Tryd.results54 rfl rfl rfl rfl (heap_alloc_new w _) ⟨HM.out, (Below.refl _ _).alloc (Nat.le_refl _) _⟩
            · have hob : decide ((1 : Int) < (i : Int)) = false := by simpa using hone
              have hon : (i : Int) ≤ 1 := by omega
              rw [hob] at hm
              have HM : Hid (_) := hm
              clear hm
              go_wp2_with fail
              exact fin_lex Tryd.results54 rfl rfl rfl rfl (heap_alloc_new w _) ⟨HM.out, (Below.refl _ _).alloc (Nat.le_refl _) _⟩
      · obtain ⟨hd1, hd2⟩ := digit_bounds hD
        have hR := HN.out
        rw [runN, hD] at hR
        simp only [if_true] at hR
        go_wp2_with fail
        refine (isDigit_any _ _).mono ?_
        rintro e w1 ⟨rfl, rfl⟩
        rw [hD]
        by_cases hsm : n ≤ 1099511627776
        · have hsb : decide (n ≤ 1099511627776) = true := by simpa using hsm
          rw [if_pos hsm] at hR
          have HR : Hid (_) := hR
          clear hR
          go_wp2_with fail
          go_roundg g
          case measure => omega
          case rel =>
            exact ⟨i + 1, n * 10 + ((bN s i : Nat) - 48), by go_num, by go_num, rfl, by omega, by omega, by omega, HR.out⟩
        · have hsb : decide (n ≤ 1099511627776) = false := by simpa using hsm
          rw [if_neg hsm] at hR
          have hsm' : 1099511627776 < n := by omega
          have HR : Hid (_) := hR
          clear hR
          go_wp2_with fail
          go_roundg g
          case measure => omega
          case rel => exact ⟨i + 1, n, rfl, by go_num, rfl, hn0, hn1, by omega, HR.out⟩

theorem cutNumber_any (s : ByteArray) (hs : 0 < s.size) (hlim : s.size ≤ 1000000) (w : World) :
    Calls Tryd.prog 54 #[.string s] w fun e w' => e = lexE (cutNumberM s) ∧ Below w.heap.size w w' :=
  cutNumber_core s hs hlim w _ rfl

end Go.Proofs.YtgifghcaeoinoaaDoor
