/-
  The first piece of what is left of a source.
-/
import Derived.Test.YtgifghcaeoinoaaDoorReQ
namespace Go.Proofs.YtgifghcaeoinoaaDoor
open Go.RowKit
set_option linter.unusedSimpArgs false
set_option linter.unusedVariables false

theorem lexE_sh (r : Sum Int (Tok × Nat)) : ∃ (v0 v1 v2 : Int) (v3 : ByteArray) (n k : Int), lexE r = .returned (.tuple #[.agg #[.int .i64 v0, .int .i64 v1, .int .i64 v2, .string v3], .int .i64 n, .int .i64 k]) := by
  rcases r with k | x
  · exact ⟨_, _, _, _, _, _, rfl⟩
  · exact ⟨_, _, _, _, _, _, rfl⟩

def firstPieceM (s : ByteArray) (mrl : List (List UInt8)) : Sum Int (Tok × Nat) :=
  if isLetterB (bN s 0) then cutWordM s keywordsL
  else if isDigitB (bN s 0) then cutNumberM s
  else if ((bN s 0 : Nat) : Int) == 34 then cutTextM s
  else match mrl.find? (fun m => Lib.hasPrefix s.data.toList m) with
    | some m => .inr (⟨5, 0, 0, m⟩, m.length)
    | none => .inl 4

theorem find_none_of {p : List UInt8 → Bool} {l : List (List UInt8)} (h : ∀ j, j < l.length → p (l.getD j []) = false) : l.find? p = none := by
  rw [List.find?_eq_none]
  intro o ho
  obtain ⟨j, hj, rfl⟩ := List.getElem_of_mem ho
  have := h j hj
  rw [List.getD_eq_getElem?_getD, List.getElem?_eq_getElem hj] at this
  simpa using this

theorem find_some_of {p : List UInt8 → Bool} : ∀ {l : List (List UInt8)} (k : Nat), k < l.length → (∀ j, j < k → p (l.getD j []) = false) → p (l.getD k []) = true → l.find? p = some (l.getD k [])
  | [], k, hk, _, _ => by simp at hk
  | x :: l, 0, _, _, h => by
    have h' : p x = true := h
    simp [List.find?, h']
  | x :: l, k + 1, hk, hj, h => by
    have h0 : p x = false := hj 0 (by omega)
    have := find_some_of (l := l) k (by simpa using hk) (fun j hlt => hj (j + 1) (by omega)) h
    simp only [List.find?, h0]
    exact this

set_option maxHeartbeats 2000000 in
theorem first_core (s : ByteArray) (hs : 0 < s.size) (hlim : s.size ≤ 1000000) (w : World) (hkw : TabRow w 2 keywordsL) (mrl : List (List UInt8)) (hml : mrl.length = 24) (MR : List Value)
    (HRG : Hid ((w.alloc (.cells #[.int .i64 0, .int .i64 0, .int .i64 0, .string ⟨#[]⟩] 78)).rangeAt 1 0 MR)) (HSZ : Hid ((Tryd.prog.info? 99).map (·.size) = some MR.length))
    (HIDX : Hid (∀ k, k < 24 → ∀ w' : World, (Instr.index 99 (.agg MR.toArray) (.int .i64 (k : Nat))).run Tryd.prog w' = .ok (.string ⟨(mrl.getD k []).toArray⟩) w'))
    (r : Sum Int (Tok × Nat)) (hr : firstPieceM s mrl = r) :
    Calls Tryd.prog 27 #[.string s] w fun e w' => e = lexE r ∧ Below w.heap.size w w' := by
  have HKW : Hid (TabRow (w.alloc (.cells #[.int .i64 0, .int .i64 0, .int .i64 0, .string ⟨#[]⟩] 78)) 2 keywordsL) := tab_alloc hkw (by decide) _
  clear hkw
  unfold firstPieceM at hr
  have hsI : (0 : Int) < (s.size : Int) := by omega
  go_enter Tryd.func27, Tryd.ntmps27
  go_wp2_with fail
  refine (isLetter_any _ _).mono ?_
  rintro e w1 ⟨rfl, hw1⟩
  have hw1' := hw1.symm
  subst hw1'
  rcases hL : isLetterB ((bN s 0 : Nat) : Int) with _ | _
  · rw [hL] at hr
    simp only [Bool.false_eq_true, if_false] at hr
    go_wp2_with fail
    refine (isDigit_any _ _).mono ?_
    rintro e w1 ⟨rfl, hw1⟩
    have hw1' := hw1.symm
    subst hw1'
    rcases hD : isDigitB ((bN s 0 : Nat) : Int) with _ | _
    · rw [hD] at hr
      simp only [Bool.false_eq_true, if_false] at hr
      rcases h34 : (((bN s 0 : Nat) : Int) == 34) with _ | _
      · rw [h34] at hr
        simp only [Bool.false_eq_true, if_false] at hr
        have HM : Hid (_) := hr
        clear hr
        go_wp2_with (refine wpList_load_mid (by rfl) 99 (.global 1) (by rfl) 1 0 (by rfl) MR _ HRG.out Tryd.underlying99 rfl HSZ.out ?_)
        go_loopg [35] 24 (fun g s35 wr => ∃ k : Nat, s35 = .int .i64 (k : Nat) ∧ wr = (w.alloc (.cells #[.int .i64 0, .int .i64 0, .int .i64 0, .string ⟨#[]⟩] 78)) ∧ k + g = 24 ∧ Hid (∀ j, j < k → Lib.hasPrefix s.data.toList (mrl.getD j []) = false))
        case atStart => exact ⟨0, rfl, rfl, rfl, fun j hj => absurd hj (by omega)⟩
        case round =>
          obtain ⟨k, rfl, rfl, hk, HJ⟩ := hrel
          cases gk with
          | zero =>
            have hk24 : k = 24 := by omega
            subst hk24
            go_wp2_with fail
            have hm := HM.out
            rw [find_none_of (fun j hj => HJ.out j (by omega))] at hm
            exact fin_lex Tryd.results27 rfl rfl rfl rfl (heap_alloc_new w _) ⟨by rw [← hm]; rfl, (Below.refl _ _).alloc (Nat.le_refl _) _⟩
          | succ g =>
            have hk24 : k < 24 := by omega
            have hkI : (k : Int) < 24 := by omega
            obtain ⟨o, ho⟩ : ∃ o, o = mrl.getD k [] := ⟨_, rfl⟩
            have hi := fun w' => HIDX.out k hk24 w'
            rw [← ho] at hi
            have HO : Hid (o = mrl.getD k []) := ho
            clear ho
            go_wp2_with fail
            refine (hasPrefix_any _ _ _).mono ?_
            rintro e w1 ⟨rfl, hw1⟩
            have hw1' := hw1.symm
            subst hw1'
            have hod : (⟨o.toArray⟩ : ByteArray).data.toList = o := by simp
            rw [hod]
            have hosz : (⟨o.toArray⟩ : ByteArray).size = o.length := by rw [Lib.size_eq, hod]
            rcases hm : Lib.hasPrefix s.data.toList o with _ | _
            · go_wp2_with fail
              go_roundg g
              case measure => omega
              case rel =>
                refine ⟨k + 1, by go_num, rfl, by omega, fun j hj => ?_⟩
                rcases Nat.lt_or_ge j k with h | h
                · exact HJ.out j h
                · have : j = k := by omega
                  subst this; rw [← HO.out]; exact hm
            · go_wp2_with fail
              have hmm := HM.out
              rw [find_some_of k (by omega) HJ.out (by rw [← HO.out]; exact hm), ← HO.out] at hmm
              exact fin_lex Tryd.results27 rfl rfl rfl rfl (heap_alloc_new w _) ⟨by rw [← hmm]; simp [lexE, Tok.val, hosz], (Below.refl _ _).alloc (Nat.le_refl _) _⟩
      · rw [h34] at hr
        simp only [if_true] at hr
        have HR : Hid (cutTextM s = r) := hr
        clear hr
        go_wp2_with fail
        refine (cutText_any s hs hlim _).mono ?_
        rintro e w1 ⟨rfl, hb1⟩
        obtain ⟨v0, v1, v2, v3, nn, kk, hsh⟩ := lexE_sh r
        rw [HR.out, hsh]
        have HSH : Hid (_) := hsh
        clear hsh
        have hblk := (hb1.block w.heap.size (by simp)).trans (heap_alloc_new w (.cells #[.int .i64 0, .int .i64 0, .int .i64 0, .string ⟨#[]⟩] 78))
        have hc := cells4 hblk
        have hz := thaw4 hblk
        have HBB : Hid (_) := hb1
        clear hb1
        go_wp2_with fail
        exact fin_lex Tryd.results27 rfl rfl rfl rfl (store4 hblk _ _ _ _) ⟨HSH.out.symm, below_own (below_after ((Below.refl _ _).alloc (Nat.le_refl _) _) HBB.out) (kept4 _ _ _ _ _ _)⟩
    · rw [hD] at hr
      simp only [if_true] at hr
      have HR : Hid (cutNumberM s = r) := hr
      clear hr
      go_wp2_with fail
      refine (cutNumber_any s hs hlim _).mono ?_
      rintro e w1 ⟨rfl, hb1⟩
      obtain ⟨v0, v1, v2, v3, nn, kk, hsh⟩ := lexE_sh r
      rw [HR.out, hsh]
      have HSH : Hid (_) := hsh
      clear hsh
      have hblk := (hb1.block w.heap.size (by simp)).trans (heap_alloc_new w (.cells #[.int .i64 0, .int .i64 0, .int .i64 0, .string ⟨#[]⟩] 78))
      have hc := cells4 hblk
      have hz := thaw4 hblk
      have HBB : Hid (_) := hb1
      clear hb1
      go_wp2_with fail
      exact fin_lex Tryd.results27 rfl rfl rfl rfl (store4 hblk _ _ _ _) ⟨HSH.out.symm, below_own (below_after ((Below.refl _ _).alloc (Nat.le_refl _) _) HBB.out) (kept4 _ _ _ _ _ _)⟩
  · rw [hL] at hr
    simp only [if_true] at hr
    have HR : Hid (cutWordM s keywordsL = r) := hr
    clear hr
    go_wp2_with fail
    refine (cutWord_any s hs hlim _ HKW.out).mono ?_
    rintro e w1 ⟨rfl, hb1⟩
    obtain ⟨v0, v1, v2, v3, nn, kk, hsh⟩ := lexE_sh r
    rw [HR.out, hsh]
    have HSH : Hid (_) := hsh
    clear hsh
    have hblk := (hb1.block w.heap.size (by simp)).trans (heap_alloc_new w (.cells #[.int .i64 0, .int .i64 0, .int .i64 0, .string ⟨#[]⟩] 78))
    have hc := cells4 hblk
    have hz := thaw4 hblk
    have HBB : Hid (_) := hb1
    clear hb1
    go_wp2_with fail
    exact fin_lex Tryd.results27 rfl rfl rfl rfl (store4 hblk _ _ _ _) ⟨HSH.out.symm, below_own (below_after ((Below.refl _ _).alloc (Nat.le_refl _) _) HBB.out) (kept4 _ _ _ _ _ _)⟩

theorem first_any (s : ByteArray) (hs : 0 < s.size) (hlim : s.size ≤ 1000000) (w : World) (ht : Tab w) :
    Calls Tryd.prog 27 #[.string s] w fun e w' => e = lexE (firstPieceM s marksL) ∧ Below w.heap.size w w' :=
  first_core s hs hlim w ht.kw marksL rfl _ (tab_range (tab_alloc ht.mr (by decide) _)) size24_c idx24_c _ rfl

end Go.Proofs.YtgifghcaeoinoaaDoor
