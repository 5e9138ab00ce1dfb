/-
  A word.
-/
import Derived.Test.YtgifghcaeoinoaaDoorReN
import Derived.Deep.LoopGhost
namespace Go.Proofs.YtgifghcaeoinoaaDoor
open Go.RowKit
set_option linter.unusedSimpArgs false
set_option linter.unusedVariables false

theorem below_own {w w2 W : World} (h : Below w.heap.size w w2) (k : Kept w.heap.size w2 W) : Below w.heap.size w W :=
  ⟨k.os.trans h.os, k.tape.trans h.tape, k.output.trans h.output, Nat.le_trans h.size k.size, fun i hi => (k.block i (Nat.lt_of_lt_of_le hi h.size) (by omega)).trans (h.block i hi)⟩

theorem below_after {w w1 w2 : World} (h : Below w.heap.size w w1) (k : Below w1.heap.size w1 w2) : Below w.heap.size w w2 :=
  ⟨k.os.trans h.os, k.tape.trans h.tape, k.output.trans h.output, Nat.le_trans h.size k.size, fun i hi => (k.block i (Nat.lt_of_lt_of_le hi h.size)).trans (h.block i hi)⟩

theorem none22 (x : List UInt8) (l : List (List UInt8)) (h : ∀ j, j < 22 → (x == l.getD j []) = false) (hl : l.length = 22) : l.any (fun o => x == o) = false := by
  rw [List.any_eq_false]
  intro o ho
  obtain ⟨j, hj, rfl⟩ := List.getElem_of_mem ho
  have := h j (by omega)
  rw [List.getD_eq_getElem?_getD, List.getElem?_eq_getElem hj] at this
  simpa using this

theorem any22 (x : List UInt8) (l : List (List UInt8)) (k : Nat) (hk : k < 22) (h : (x == l.getD k []) = true) (hl : l.length = 22) : l.any (fun o => x == o) = true := by
  rw [List.any_eq_true]
  have hj : k < l.length := by omega
  rw [List.getD_eq_getElem?_getD, List.getElem?_eq_getElem hj] at h
  exact ⟨_, List.getElem_mem hj, h⟩

/-- how far a word goes: from i on, f bytes are left -/
def runW (s : ByteArray) : Nat → Nat → Nat
  | 0, i => i
  | f + 1, i => if isLetterB (bN s i) || isDigitB (bN s i) then runW s f (i + 1) else i

def cutWordM (s : ByteArray) (kws : List (List UInt8)) : Sum Int (Tok × Nat) :=
  if (12 : Int) < (runW s (s.size - 1) 1 : Nat) then .inl 1
  else if kws.any (fun o => s.data.toList.take (runW s (s.size - 1) 1) == o) then .inr (⟨2, 0, 0, s.data.toList.take (runW s (s.size - 1) 1)⟩, runW s (s.size - 1) 1)
  else .inr (⟨1, 0, 0, s.data.toList.take (runW s (s.size - 1) 1)⟩, runW s (s.size - 1) 1)

set_option maxHeartbeats 2000000 in
theorem cutWord_core (s : ByteArray) (hs : 0 < s.size) (hlim : s.size ≤ 1000000) (w : World) (kwl : List (List UInt8)) (hkl : kwl.length = 22) (KW : List Value)
    (HRG : Hid ((w.alloc (.cells #[.int .i64 0, .int .i64 0, .int .i64 0, .string ⟨#[]⟩] 78)).rangeAt 2 0 KW)) (HSZ : Hid ((Tryd.prog.info? 113).map (·.size) = some KW.length))
    (HIDX : Hid (∀ k, k < 22 → ∀ w' : World, (Instr.index 113 (.agg KW.toArray) (.int .i64 (k : Nat))).run Tryd.prog w' = .ok (.string ⟨(kwl.getD k []).toArray⟩) w'))
    (e0 : Ending) (HE : Hid (e0 = lexE (cutWordM s kwl))) :
    Calls Tryd.prog 52 #[.string s] w fun e w' => e = e0 ∧ Below w.heap.size w w' := by
  go_enter Tryd.func52, Tryd.ntmps52
  go_wp2_with fail
  go_loopg [5] (s.size - 1) (fun g s5 wr => ∃ i : Nat, s5 = .int .i64 (i : Nat) ∧ wr = (w.alloc (.cells #[.int .i64 0, .int .i64 0, .int .i64 0, .string ⟨#[]⟩] 78)) ∧ 1 ≤ i ∧ i + g = s.size ∧ Hid (runW s g i = runW s (s.size - 1) 1))
  case atStart => exact ⟨1, rfl, rfl, by omega, by omega, rfl⟩
  case round =>
    obtain ⟨i, rfl, rfl, hi1, hi2, HN⟩ := hrel
    cases gk with
    | zero =>
      have hN : runW s (s.size - 1) 1 = i := HN.out.symm
      have hlt : ¬ (i : Int) < (s.size : Int) := by omega
      have hltb : decide ((i : Int) < (s.size : Int)) = false := by simpa using hlt
      have hile : i ≤ s.size := by omega
      by_cases hbig : (12 : Int) < (i : Int)
      · have hbb : decide ((12 : Int) < (i : Int)) = true := by simpa using hbig
        go_wp2_with fail
        exact fin_lex Tryd.results52 rfl rfl rfl rfl (heap_alloc_new w _) ⟨by rw [HE.out, cutWordM, hN, if_pos hbig]; rfl, (Below.refl _ _).alloc (Nat.le_refl _) _⟩
      · have hbb : decide ((12 : Int) < (i : Int)) = false := by simpa using hbig
        have hle : (i : Int) ≤ 12 := by omega
        have hE : e0 = lexE (if kwl.any (fun o => s.data.toList.take i == o) then .inr (⟨2, 0, 0, s.data.toList.take i⟩, i) else .inr (⟨1, 0, 0, s.data.toList.take i⟩, i)) := by rw [HE.out, cutWordM, hN, if_neg hbig]
        have HE2 : Hid (_) := hE
        clear hE hN
        have hex : s.extract 0 i = ⟨(s.data.toList.take i).toArray⟩ := by rw [Lib.extract_eq]; simp
        generalize hwd : s.data.toList.take i = wd at *
        go_wp2_with (refine wpList_load_mid (by rfl) 113 (.global 2) (by rfl) 2 0 (by rfl) KW _ HRG.out Tryd.underlying113 rfl HSZ.out ?_)
        go_loopg [30] 22 (fun g s30 wr => ∃ k : Nat, s30 = .int .i64 (k : Nat) ∧ wr = (w.alloc (.cells #[.int .i64 0, .int .i64 0, .int .i64 0, .string ⟨#[]⟩] 78)) ∧ k + g = 22 ∧ Hid (∀ j, j < k → (wd == kwl.getD j []) = false))
        case atStart => exact ⟨0, rfl, rfl, rfl, fun j hj => absurd hj (by omega)⟩
        case round =>
          obtain ⟨k, rfl, rfl, hk, HJ⟩ := hrel
          cases gk with
          | zero =>
            have hk22 : k = 22 := by omega
            subst hk22
            go_wp2_with fail
            refine (clone_any _ _ (by rw [← hex, ByteArray.size_extract]; omega)).mono ?_
            rintro e w2 ⟨rfl, hb2⟩
            have hblk := (hb2.block w.heap.size (by simp)).trans (heap_alloc_new w (.cells #[.int .i64 0, .int .i64 0, .int .i64 0, .string ⟨#[]⟩] 78))
            have hc := cells4 hblk
            have hz := thaw4 hblk
            go_wp2_with fail
            have kx := kept4 w.heap.size w2 (.int .i64 1) (.int .i64 0) (.int .i64 0) (.string ⟨wd.toArray⟩)
            have hno : kwl.any (fun o => wd == o) = false := none22 _ _ HJ.out hkl
            rw [hno] at HE2
            exact fin_lex Tryd.results52 rfl rfl rfl rfl (store4 hblk _ _ _ _) ⟨HE2.out.symm ▸ rfl, below_own (below_after ((Below.refl _ _).alloc (Nat.le_refl _) _) hb2) kx⟩
          | succ g =>
            have hk22 : k < 22 := by omega
            have hkI : (k : Int) < 22 := by omega
            obtain ⟨o, ho⟩ : ∃ o, o = kwl.getD k [] := ⟨_, rfl⟩
            have hi := fun w' => HIDX.out k hk22 w'
            rw [← ho] at hi
            have HO : Hid (o = kwl.getD k []) := ho
            clear ho
            rcases hm : (wd == o) with _ | _
            · go_wp2_with fail
              go_roundg g
              case measure => omega
              case rel =>
                refine ⟨k + 1, by go_num, rfl, by omega, fun j hj => ?_⟩
                rcases Nat.lt_or_ge j k with h | h
                · exact HJ.out j h
                · have : j = k := by omega
                  subst this; rw [← HO.out]; exact hm
            · go_wp2_with fail
              have hyes : kwl.any (fun o => wd == o) = true := any22 _ _ k hk22 (by rw [← HO.out]; exact hm) hkl
              have hkw : o = wd := (eq_of_beq hm).symm
              rw [hyes] at HE2
              exact fin_lex Tryd.results52 rfl rfl rfl rfl (heap_alloc_new w _) ⟨by rw [HE2.out]; rw [hkw]; rfl, (Below.refl _ _).alloc (Nat.le_refl _) _⟩
    | succ g =>
      have hlt : (i : Int) < (s.size : Int) := by omega
      have hltb : decide ((i : Int) < (s.size : Int)) = true := by simpa using hlt
      have hltn : i < s.size := by omega
      have hile : i ≤ s.size := by omega
      rcases hL : isLetterB ((bN s i : Nat) : Int) with _ | _
      · rcases hD : isDigitB ((bN s i : Nat) : Int) with _ | _
        · have hN : runW s (s.size - 1) 1 = i := by rw [← HN.out, runW, hL, hD]; rfl
          go_wp2_with fail
          refine (isLetter_any _ _).mono ?_
          rintro e w1 ⟨rfl, rfl⟩
          rw [hL]
          go_wp2_with fail
          refine (isDigit_any _ _).mono ?_
          rintro e w1 ⟨rfl, rfl⟩
          rw [hD]
          by_cases hbig : (12 : Int) < (i : Int)
          · have hbb : decide ((12 : Int) < (i : Int)) = true := by simpa using hbig
            go_wp2_with fail
            exact fin_lex Tryd.results52 rfl rfl rfl rfl (heap_alloc_new w _) ⟨by rw [HE.out, cutWordM, hN, if_pos hbig]; rfl, (Below.refl _ _).alloc (Nat.le_refl _) _⟩
          · have hbb : decide ((12 : Int) < (i : Int)) = false := by simpa using hbig
            have hle : (i : Int) ≤ 12 := by omega
            have hE : e0 = lexE (if kwl.any (fun o => s.data.toList.take i == o) then .inr (⟨2, 0, 0, s.data.toList.take i⟩, i) else .inr (⟨1, 0, 0, s.data.toList.take i⟩, i)) := by rw [HE.out, cutWordM, hN, if_neg hbig]
            have HE2 : Hid (_) := hE
            clear hE hN
            have hex : s.extract 0 i = ⟨(s.data.toList.take i).toArray⟩ := by rw [Lib.extract_eq]; simp
            generalize hwd : s.data.toList.take i = wd at *
            go_wp2_with (refine wpList_load_mid (by rfl) 113 (.global 2) (by rfl) 2 0 (by rfl) KW _ HRG.out Tryd.underlying113 rfl HSZ.out ?_)
            go_loopg [30] 22 (fun g s30 wr => ∃ k : Nat, s30 = .int .i64 (k : Nat) ∧ wr = (w.alloc (.cells #[.int .i64 0, .int .i64 0, .int .i64 0, .string ⟨#[]⟩] 78)) ∧ k + g = 22 ∧ Hid (∀ j, j < k → (wd == kwl.getD j []) = false))
            case atStart => exact ⟨0, rfl, rfl, rfl, fun j hj => absurd hj (by omega)⟩
            case round =>
              obtain ⟨k, rfl, rfl, hk, HJ⟩ := hrel
              cases gk with
              | zero =>
                have hk22 : k = 22 := by omega
                subst hk22
                go_wp2_with fail
                refine (clone_any _ _ (by rw [← hex, ByteArray.size_extract]; omega)).mono ?_
                rintro e w2 ⟨rfl, hb2⟩
                have hblk := (hb2.block w.heap.size (by simp)).trans (heap_alloc_new w (.cells #[.int .i64 0, .int .i64 0, .int .i64 0, .string ⟨#[]⟩] 78))
                have hc := cells4 hblk
                have hz := thaw4 hblk
                go_wp2_with fail
                have kx := kept4 w.heap.size w2 (.int .i64 1) (.int .i64 0) (.int .i64 0) (.string ⟨wd.toArray⟩)
                have hno : kwl.any (fun o => wd == o) = false := none22 _ _ HJ.out hkl
                rw [hno] at HE2
                exact fin_lex Tryd.results52 rfl rfl rfl rfl (store4 hblk _ _ _ _) ⟨HE2.out.symm ▸ rfl, below_own (below_after ((Below.refl _ _).alloc (Nat.le_refl _) _) hb2) kx⟩
              | succ g =>
                have hk22 : k < 22 := by omega
                have hkI : (k : Int) < 22 := by omega
                obtain ⟨o, ho⟩ : ∃ o, o = kwl.getD k [] := ⟨_, rfl⟩
                have hi := fun w' => HIDX.out k hk22 w'
                rw [← ho] at hi
                have HO : Hid (o = kwl.getD k []) := ho
                clear ho
                rcases hm : (wd == o) with _ | _
                · go_wp2_with fail
                  go_roundg g
                  case measure => omega
                  case rel =>
                    refine ⟨k + 1, by go_num, rfl, by omega, fun j hj => ?_⟩
                    rcases Nat.lt_or_ge j k with h | h
                    · exact HJ.out j h
                    · have : j = k := by omega
                      subst this; rw [← HO.out]; exact hm
                · go_wp2_with fail
                  have hyes : kwl.any (fun o => wd == o) = true := any22 _ _ k hk22 (by rw [← HO.out]; exact hm) hkl
                  have hkw : o = wd := (eq_of_beq hm).symm
                  rw [hyes] at HE2
                  exact fin_lex Tryd.results52 rfl rfl rfl rfl (heap_alloc_new w _) ⟨by rw [HE2.out]; rw [hkw]; rfl, (Below.refl _ _).alloc (Nat.le_refl _) _⟩
        · go_wp2_with fail
          refine (isLetter_any _ _).mono ?_
          rintro e w1 ⟨rfl, rfl⟩
          rw [hL]
          go_wp2_with fail
          refine (isDigit_any _ _).mono ?_
          rintro e w1 ⟨rfl, rfl⟩
          rw [hD]
          go_wp2_with fail
          go_roundg g
          case measure => omega
          case rel =>
            refine ⟨i + 1, by go_num, rfl, by omega, by omega, ?_⟩
            have := HN.out
            rw [runW, hL, hD] at this
            exact this
      · go_wp2_with fail
        refine (isLetter_any _ _).mono ?_
        rintro e w1 ⟨rfl, rfl⟩
        rw [hL]
        go_wp2_with fail
        go_roundg g
        case measure => omega
        case rel =>
          refine ⟨i + 1, by go_num, rfl, by omega, by omega, ?_⟩
          have := HN.out
          rw [runW, hL] at this
          exact this

theorem tab_alloc {w : World} {g : Nat} {l : List (List UInt8)} (h : TabRow w g l) (hl : 0 < l.length) (o : Obj) : TabRow (w.alloc o) g l :=
  h.same (Below.heap_alloc _ _ _ (h.lt hl))

theorem cutWord_any (s : ByteArray) (hs : 0 < s.size) (hlim : s.size ≤ 1000000) (w : World) (ht : TabRow w 2 keywordsL) :
    Calls Tryd.prog 52 #[.string s] w fun e w' => e = lexE (cutWordM s keywordsL) ∧ Below w.heap.size w w' :=
  cutWord_core s hs hlim w keywordsL rfl _ (tab_range (tab_alloc ht (by decide) _)) size22_c idx22_c _ rfl

end Go.Proofs.YtgifghcaeoinoaaDoor
