/-
  read.Read.
-/
import Derived.Test.YtbpnfoihonehgabGreatDoorJReQ
import Derived.Test.YtbpnfoihonehgabGreatDoorJReJ
import Derived.Test.YtbpnfoihonehgabGreatDoorJReK
namespace Go.Proofs.YtbpnfoihonehgabGreatDoor
section
open Go.RowKit
set_option linter.unusedSimpArgs false
set_option linter.unusedVariables false

theorem lexE_sh (r : Sum Int (Tok × Nat)) : ∃ (v0 v1 v2 : Int) (v3 : ByteArray) (n k : Int), lexE r = .returned (.tuple #[.agg #[.int .i64 v0, .int .i64 v1, .int .i64 v2, .string v3], .int .i64 n, .int .i64 k]) := by
  rcases r with k | x
  · exact ⟨_, _, _, _, _, _, rfl⟩
  · exact ⟨_, _, _, _, _, _, rfl⟩

def firstPieceM (s : ByteArray) (mrl : List (List UInt8)) : Sum Int (Tok × Nat) :=
  if isLetterB (bN s 0) then cutWordM s keywordsL
  else if isDigitB (bN s 0) then cutNumberM s
  else if ((bN s 0 : Nat) : Int) == 34 then cutTextM s
  else match mrl.find? (fun m => Lib.hasPrefix s.data.toList m) with
    | some m => .inr (⟨5, 0, 0, m⟩, m.length)
    | none => .inl 4

theorem find_none_of {p : List UInt8 → Bool} {l : List (List UInt8)} (h : ∀ j, j < l.length → p (l.getD j []) = false) : l.find? p = none := by
  rw [List.find?_eq_none]
  intro o ho
  obtain ⟨j, hj, rfl⟩ := List.getElem_of_mem ho
  have := h j hj
  rw [List.getD_eq_getElem?_getD, List.getElem?_eq_getElem hj] at this
  simpa using this

theorem find_some_of {p : List UInt8 → Bool} : ∀ {l : List (List UInt8)} (k : Nat), k < l.length → (∀ j, j < k → p (l.getD j []) = false) → p (l.getD k []) = true → l.find? p = some (l.getD k [])
  | [], k, hk, _, _ => by simp at hk
  | x :: l, 0, _, _, h => by
    have h' : p x = true := h
    simp [List.find?, h']
  | x :: l, k + 1, hk, hj, h => by
    have h0 : p x = false := hj 0 (by omega)
    have := find_some_of (l := l) k (by simpa using hk) (fun j hlt => hj (j + 1) (by omega)) h
    simp only [List.find?, h0]
    exact this

set_option maxHeartbeats 2000000 in
theorem first_core (s : ByteArray) (hs : 0 < s.size) (hlim : s.size ≤ 1000000) (w : World) (hkw : TabRow w 2 keywordsL) (mrl : List (List UInt8)) (hml : mrl.length = 24) (MR : List Value)
    (HRG : Hid ((w.alloc (.cells #[.int .i64 0, .int .i64 0, .int .i64 0, .string ⟨#[]⟩] 69)).rangeAt 0 0 MR)) (HSZ : Hid ((Tryz.prog.info? 89).map (·.size) = some MR.length))
    (HIDX : Hid (∀ k, k < 24 → ∀ w' : World, (Instr.index 89 (.agg MR.toArray) (.int .i64 (k : Nat))).run Tryz.prog w' = .ok (.string ⟨(mrl.getD k []).toArray⟩) w'))
    (r : Sum Int (Tok × Nat)) (hr : firstPieceM s mrl = r) :
    Calls Tryz.prog 17 #[.string s] w fun e w' => e = lexE r ∧ Below w.heap.size w w' := by
  have HKW : Hid (TabRow (w.alloc (.cells #[.int .i64 0, .int .i64 0, .int .i64 0, .string ⟨#[]⟩] 69)) 2 keywordsL) := tab_alloc hkw (by decide) _
  clear hkw
  unfold firstPieceM at hr
  have hsI : (0 : Int) < (s.size : Int) := by omega
  rcases hL : isLetterB ((bN s 0 : Nat) : Int) with _ | _
  · rw [hL] at hr
    simp only [Bool.false_eq_true, if_false] at hr
    go_enter Tryz.func17, Tryz.ntmps17
    go_wp2_with fail
    refine (long_any s hs hlim _).mono ?_
    rintro e w1 ⟨rfl, hw1⟩
    have hw1' := hw1.symm
    subst hw1'
    have hlong : longM s = 0 := by rw [longM, hL]; rfl
    rw [hlong]
    clear hlong
    go_wp2_with fail
    refine (isDigit_any _ _).mono ?_
    rintro e w1 ⟨rfl, hw1⟩
    have hw1' := hw1.symm
    subst hw1'
    rcases hD : isDigitB ((bN s 0 : Nat) : Int) with _ | _
    · rw [hD] at hr
      simp only [Bool.false_eq_true, if_false] at hr
      rcases h34 : (((bN s 0 : Nat) : Int) == 34) with _ | _
      · rw [h34] at hr
        simp only [Bool.false_eq_true, if_false] at hr
        have HM : Hid (_) := hr
        clear hr
        go_wp2_with (refine wpList_load_mid (by rfl) 89 (.global 0) (by rfl) 0 0 (by rfl) MR _ HRG.out Tryz.underlying89 rfl HSZ.out ?_)
        go_loopg [38] 24 (fun g s38 wr => ∃ k : Nat, s38 = .int .i64 (k : Nat) ∧ wr = (w.alloc (.cells #[.int .i64 0, .int .i64 0, .int .i64 0, .string ⟨#[]⟩] 69)) ∧ k + g = 24 ∧ Hid (∀ j, j < k → Lib.hasPrefix s.data.toList (mrl.getD j []) = false))
        case atStart => exact ⟨0, rfl, rfl, rfl, fun j hj => absurd hj (by omega)⟩
        case round =>
          obtain ⟨k, rfl, rfl, hk, HJ⟩ := hrel
          cases gk with
          | zero =>
            have hk24 : k = 24 := by omega
            subst hk24
            go_wp2_with fail
            have hm := HM.out
            rw [find_none_of (fun j hj => HJ.out j (by omega))] at hm
            exact fin_lex Tryz.results17 rfl rfl rfl rfl (heap_alloc_new w _) ⟨by rw [← hm]; rfl, (Below.refl _ _).alloc (Nat.le_refl _) _⟩
          | succ g =>
            have hk24 : k < 24 := by omega
            have hkI : (k : Int) < 24 := by omega
            obtain ⟨o, ho⟩ : ∃ o, o = mrl.getD k [] := ⟨_, rfl⟩
            have hi := fun w' => HIDX.out k hk24 w'
            rw [← ho] at hi
            have HO : Hid (o = mrl.getD k []) := ho
            clear ho
            go_wp2_with fail
            refine (hasPrefix_any _ _ _).mono ?_
            rintro e w1 ⟨rfl, hw1⟩
            have hw1' := hw1.symm
            subst hw1'
            have hod : (⟨o.toArray⟩ : ByteArray).data.toList = o := by simp
            rw [hod]
            have hosz : (⟨o.toArray⟩ : ByteArray).size = o.length := by rw [Lib.size_eq, hod]
            rcases hm : Lib.hasPrefix s.data.toList o with _ | _
            · go_wp2_with fail
              go_roundg g
              case measure => omega
              case rel =>
                refine ⟨k + 1, by go_num, rfl, by omega, fun j hj => ?_⟩
                rcases Nat.lt_or_ge j k with h | h
                · exact HJ.out j h
                · have : j = k := by omega
                  subst this; rw [← HO.out]; exact hm
            · go_wp2_with fail
              have hmm := HM.out
              rw [find_some_of k (by omega) HJ.out (by rw [← HO.out]; exact hm), ← HO.out] at hmm
              exact fin_lex Tryz.results17 rfl rfl rfl rfl (heap_alloc_new w _) ⟨by rw [← hmm]; simp [lexE, Tok.val, hosz], (Below.refl _ _).alloc (Nat.le_refl _) _⟩
      · rw [h34] at hr
        simp only [if_true] at hr
        have HR : Hid (cutTextM s = r) := hr
        clear hr
        go_wp2_with fail
        refine (cutText_any s hs hlim _).mono ?_
        rintro e w1 ⟨rfl, hb1⟩
        obtain ⟨v0, v1, v2, v3, nn, kk, hsh⟩ := lexE_sh r
        rw [HR.out, hsh]
        have HSH : Hid (_) := hsh
        clear hsh
        have hblk := (hb1.block w.heap.size (by simp)).trans (heap_alloc_new w (.cells #[.int .i64 0, .int .i64 0, .int .i64 0, .string ⟨#[]⟩] 69))
        have hc := cells4 hblk
        have hz := thaw4 hblk
        have HBB : Hid (_) := hb1
        clear hb1
        go_wp2_with fail
        exact fin_lex Tryz.results17 rfl rfl rfl rfl (store4 hblk _ _ _ _) ⟨HSH.out.symm, below_own (below_after ((Below.refl _ _).alloc (Nat.le_refl _) _) HBB.out) (kept4 _ _ _ _ _ _)⟩
    · rw [hD] at hr
      simp only [if_true] at hr
      have HR : Hid (cutNumberM s = r) := hr
      clear hr
      go_wp2_with fail
      refine (cutNumber_any s hs hlim _).mono ?_
      rintro e w1 ⟨rfl, hb1⟩
      obtain ⟨v0, v1, v2, v3, nn, kk, hsh⟩ := lexE_sh r
      rw [HR.out, hsh]
      have HSH : Hid (_) := hsh
      clear hsh
      have hblk := (hb1.block w.heap.size (by simp)).trans (heap_alloc_new w (.cells #[.int .i64 0, .int .i64 0, .int .i64 0, .string ⟨#[]⟩] 69))
      have hc := cells4 hblk
      have hz := thaw4 hblk
      have HBB : Hid (_) := hb1
      clear hb1
      go_wp2_with fail
      exact fin_lex Tryz.results17 rfl rfl rfl rfl (store4 hblk _ _ _ _) ⟨HSH.out.symm, below_own (below_after ((Below.refl _ _).alloc (Nat.le_refl _) _) HBB.out) (kept4 _ _ _ _ _ _)⟩
  · rw [hL] at hr
    simp only [if_true] at hr
    obtain ⟨hcw, hlp, hll⟩ := wordPieceM_cut s hL hs
    have HR : Hid (cutWordM s keywordsL = r) := hr
    have hlen : (s.data.toList.take (longM s)).length = longM s := by
      rw [List.length_take, ← Lib.size_eq]; omega
    have hlpI : (0 : Int) < ((longM s : Nat) : Int) := by omega
    have hllI : ((longM s : Nat) : Int) ≤ ((s.size : Nat) : Int) := by omega
    have hex : s.extract 0 (longM s) = ⟨(s.data.toList.take (longM s)).toArray⟩ := by rw [Lib.extract_eq]; simp
    have HCW : Hid (lexE r = lexE (wordPieceM (s.data.toList.take (longM s)) keywordsL)) := by unfold Hid; rw [hcw, hr]
    have HLE : Hid ((s.data.toList.take (longM s)).length ≤ 1000000) := by unfold Hid; omega
    clear hr hcw hlen
    go_enter Tryz.func17, Tryz.ntmps17
    go_wp2_with fail
    refine (long_any s hs hlim _).mono ?_
    rintro e w1 ⟨rfl, hw1⟩
    have hw1' := hw1.symm
    subst hw1'
    generalize hln : longM s = ln at *
    clear hln
    generalize hwd : s.data.toList.take ln = wd at *
    clear hwd
    go_wp2_with fail
    refine (wordPiece_any wd HLE.out _ HKW.out _ HCW.out).mono ?_
    rintro e w1 ⟨rfl, hb1⟩
    obtain ⟨v0, v1, v2, v3, nn, kk, hsh⟩ := lexE_sh r
    rw [hsh]
    have HSH : Hid (_) := hsh
    clear hsh
    have hblk := (hb1.block w.heap.size (by simp)).trans (heap_alloc_new w (.cells #[.int .i64 0, .int .i64 0, .int .i64 0, .string ⟨#[]⟩] 69))
    have hc := cells4 hblk
    have hz := thaw4 hblk
    have HBB : Hid (_) := hb1
    clear hb1
    go_wp2_with fail
    exact fin_lex Tryz.results17 rfl rfl rfl rfl (store4 hblk _ _ _ _) ⟨HSH.out.symm, below_own (below_after ((Below.refl _ _).alloc (Nat.le_refl _) _) HBB.out) (kept4 _ _ _ _ _ _)⟩

theorem first_any (s : ByteArray) (hs : 0 < s.size) (hlim : s.size ≤ 1000000) (w : World) (ht : Tab w) :
    Calls Tryz.prog 17 #[.string s] w fun e w' => e = lexE (firstPieceM s marksL) ∧ Below w.heap.size w w' :=
  first_core s hs hlim w ht.kw marksL rfl _ (tab_range (tab_alloc ht.mr (by decide) _)) size24_c idx24_c _ rfl
end

section
open Go.RowKit
set_option linter.unusedSimpArgs false
set_option linter.unusedVariables false

theorem infoPiece : (Tryz.prog.info? 69).map (fun i => (i.zero, i.size, i.bytes)) = some (some (.agg #[.int .i64 0, .int .i64 0, .int .i64 0, .string ⟨#[]⟩]), 4, 40) := by kernel_rfl

def toksF (l : List Tok) : List Value := flat (l.map Tok.val)

theorem toksF_append (a b : List Tok) : toksF (a ++ b) = toksF a ++ toksF b := by simp [toksF, flat_append]

theorem toksF_cons (t : Tok) (l : List Tok) : toksF (t :: l) = [.int .i64 t.kind, .int .i64 t.at_, .int .i64 t.n, .string ⟨t.s.toArray⟩] ++ toksF l := by simp [toksF, flat, Tok.val, Value.cells]

theorem toksF_get : ∀ (l : List Tok) (i : Nat), i < l.length → (toksF l)[i * 4]? = some (.int .i64 (cur l i).kind) ∧ (toksF l)[i * 4 + 1]? = some (.int .i64 (cur l i).at_) ∧ (toksF l)[i * 4 + 2]? = some (.int .i64 (cur l i).n) ∧ (toksF l)[i * 4 + 3]? = some (.string ⟨(cur l i).s.toArray⟩)
  | [], i, h => by simp at h
  | t :: l, 0, _ => by rw [toksF_cons]; simp [cur]
  | t :: l, i + 1, h => by
    have ih := toksF_get l i (by simpa using h)
    have e : ∀ j, (toksF (t :: l))[(i + 1) * 4 + j]? = (toksF l)[i * 4 + j]? := by
      intro j
      rw [toksF_cons, List.getElem?_append_right (by simp; omega)]
      congr 1
      simp; omega
    have c : cur (t :: l) (i + 1) = cur l i := by simp [cur]
    rw [c]
    have e0 := e 0
    simp only [Nat.add_zero] at e0
    rw [e0, e 1, e 2, e 3]
    exact ih

theorem tokRow_of_owns {w : World} {base g cap : Nat} {e : TypeId} {l : List Tok} (h : w.ownsRow base e 4 (.slice (some ⟨g, 0, none⟩) l.length cap) l.length (toksF l)) : TokRow w g l ∧ base ≤ g ∧ g < w.heap.size := by
  obtain ⟨h1, h2⟩ := h
  rcases h2 with ⟨h2, _⟩ | ⟨g', cap', cc, hv, hb, hh, hn, hc, hs, ht⟩
  · cases h2
  · cases hv
    refine ⟨?_, hb, ?_⟩
    · intro i hi
      have hg := toksF_get l i hi
      have hcell : ∀ j, j < 4 → w.cell? ⟨g, i * 4 + j, none⟩ = (toksF l)[i * 4 + j]? := by
        intro j hj
        rw [← ht, List.getElem?_take_of_lt (by omega)]
        simp [World.cell?, hh]
      have e0 := hcell 0 (by omega)
      simp only [Nat.add_zero] at e0
      rw [e0, hcell 1 (by omega), hcell 2 (by omega), hcell 3 (by omega)]
      exact hg
    · rcases Nat.lt_or_ge g w.heap.size with h | h
      · exact h
      · rw [Array.getElem?_eq_none h] at hh; cases hh

/-! bounds of what is cut off -/
theorem runN_le (s : ByteArray) : ∀ f i n, (runN s f i n).1 ≤ i + f
  | 0, i, n => by simp [runN]
  | f + 1, i, n => by
    rw [runN]
    split
    · have := runN_le s f (i + 1) (if n ≤ 1099511627776 then n * 10 + ((bN s i : Nat) - 48) else n); omega
    · simp

theorem runT_ok (s : ByteArray) : ∀ f i acc, (∀ x, runT s f i acc = .inr x → x.2 ≤ s.size) ∧ (∀ k, runT s f i acc = .inl k → k ≠ 0)
  | 0, i, acc => ⟨fun x h => (by simp [runT] at h), fun k h => by simp [runT] at h; omega⟩
  | f + 1, i, acc => by
    rw [runT]
    split
    · split
      · exact ⟨fun x h => (by cases h; simp; omega), fun k h => by cases h⟩
      · split
        · exact ⟨fun x h => (by cases h), fun k h => by cases h; decide⟩
        · split
          · split
            · exact ⟨fun x h => (by cases h), fun k h => by cases h; decide⟩
            · exact runT_ok s f _ _
          · exact runT_ok s f _ _
    · exact ⟨fun x h => (by cases h), fun k h => by cases h; decide⟩

theorem prefix_len {a b : List UInt8} (h : Lib.hasPrefix a b = true) : b.length ≤ a.length := by
  rw [← Lib.hasPrefix_of_take] at h
  simp at h
  exact h.1

theorem firstPiece_ok (s : ByteArray) (hs : 0 < s.size) (m : List (List UInt8)) : (∀ x, firstPieceM s m = .inr x → x.2 ≤ s.size) ∧ (∀ k, firstPieceM s m = .inl k → k ≠ 0) := by
  unfold firstPieceM
  split
  · have hw := runW_le s (s.size - 1) 1
    unfold cutWordM
    split
    · exact ⟨fun x h => (by cases h), fun k h => by cases h; decide⟩
    · split
      · exact ⟨fun x h => (by cases h; simp; omega), fun k h => by cases h⟩
      · exact ⟨fun x h => (by cases h; simp; omega), fun k h => by cases h⟩
  · split
    · have hw := runN_le s s.size 0 0
      unfold cutNumberM
      split
      · exact ⟨fun x h => (by cases h), fun k h => by cases h; decide⟩
      · split
        · exact ⟨fun x h => (by cases h), fun k h => by cases h; decide⟩
        · exact ⟨fun x h => (by cases h; simp; omega), fun k h => by cases h⟩
    · split
      · exact runT_ok s _ _ _
      · split
        · rename_i mm hf
          have := List.find?_some hf
          have h2 := prefix_len this
          rw [← Lib.size_eq] at h2
          exact ⟨fun x h => (by cases h; exact h2), fun k h => by cases h⟩
        · exact ⟨fun x h => (by cases h), fun k h => by cases h; decide⟩

def cutLoop (s : ByteArray) : Nat → Nat → List Tok → Option (Sum (Nat × Int) (List Tok))
  | 0, _, _ => none
  | f + 1, i, acc =>
    if i < s.size then
      (if isBlankB (bN s i) then cutLoop s f (i + 1) acc
      else match firstPieceM (s.extract i s.size) marksL with
        | .inl k => some (.inl (i, k))
        | .inr x => cutLoop s f (i + x.2) (acc ++ [⟨x.1.kind, (i : Nat), x.1.n, x.1.s⟩]))
    else some (.inr (acc ++ [⟨0, (s.size : Nat), 0, []⟩]))

/-- what cutting a source leaves -/
def PostC (w : World) (r : Sum (Nat × Int) (List Tok)) (e : Ending) (w' : World) : Prop :=
  Below w.heap.size w w' ∧ match r with
  | .inl k => e = .returned (.tuple #[.slice none 0 0, .int .i64 (k.1 : Nat), .int .i64 k.2]) ∧ k.2 ≠ 0
  | .inr l => ∃ g c, e = .returned (.tuple #[.slice (some ⟨g, 0, none⟩) l.length c, .int .i64 0, .int .i64 0]) ∧ TokRow w' g l ∧ w.heap.size ≤ g ∧ g < w'.heap.size

theorem piece_one (p0 p1 p2 : Int) (p3 : ByteArray) : ∀ u ∈ [Value.int .i64 p0, .int .i64 p1, .int .i64 p2, .string p3], u.oneCell' = true := by
  intro u hu
  simp at hu
  rcases hu with rfl | rfl | rfl | rfl <;> rfl
end

section
open Go.RowKit
set_option linter.unusedSimpArgs false
set_option linter.unusedVariables false

theorem results_tmp3 {fn : Func} {a : Act} {w : World} {x y z : Nat} (h : fn.results = #[.tmp x, .tmp y, .tmp z]) : (results fn a.tmps).run Tryz.prog w = .ok (.tuple #[a.tmps.getD x undef, a.tmps.getD y undef, a.tmps.getD z undef]) w := by
  simp [results, h, go_sem]

theorem Tab.below {w w' : World} (h : Tab w) (k : Below w.heap.size w w') : Tab w' := h.same fun g hg _ => k.block g hg

theorem ownsRow_below {w w' : World} {base size n : Nat} {e : TypeId} {v : Value} {xs : List Value} (h : w.ownsRow base e size v n xs) (k : Below w.heap.size w w') : w'.ownsRow base e size v n xs := by
  refine ⟨h.1, ?_⟩
  rcases h.2 with h2 | ⟨g, cap, cc, hv, hg, hh, r⟩
  · exact Or.inl h2
  · refine Or.inr ⟨g, cap, cc, hv, hg, ?_, r⟩
    have hlt : g < w.heap.size := by
      rcases Nat.lt_or_ge g w.heap.size with hb | hb
      · exact hb
      · rw [Array.getElem?_eq_none hb] at hh; cases hh
    rw [k.block g hlt]; exact hh

set_option maxHeartbeats 3000000 in
theorem cut_core (s : ByteArray) (hlim : s.size ≤ 100000) (w : World) (ht : Tab w) (r : Sum (Nat × Int) (List Tok)) (HE : Hid (cutLoop s (s.size + 1) 0 [] = some r)) :
    Calls Tryz.prog 11 #[.string s] w (PostC w r) := by
  obtain ⟨i0, hi, hz0, hz1, hz2⟩ := info_parts infoPiece
  go_enter Tryz.func11, Tryz.ntmps11
  go_wp2_with fail
  go_loopg [5, 6] (s.size + 1) (fun g s5 s6 wr => ∃ (acc : List Tok) (i : Nat), s6 = .int .i64 (i : Nat) ∧ Below w.heap.size w wr ∧ wr.ownsRow w.heap.size 69 4 s5 acc.length (toksF acc) ∧ i ≤ s.size ∧ acc.length + g ≤ s.size + 1 ∧ Hid (cutLoop s g i acc = some r))
  case atStart => exact ⟨[], 0, rfl, Below.refl _ _, World.ownsRow_nil _ _ _ _, by omega, by simp, HE⟩
  case round =>
    obtain ⟨acc, i, rfl, hB, hown, hi1, hal, HN⟩ := hrel
    obtain ⟨av, cv, rfl⟩ := ownsRow_slice hown
    have HOW : Hid (wr.ownsRow w.heap.size 69 4 (.slice av acc.length cv) acc.length (toksF acc)) := hown
    have HB : Hid (Below w.heap.size w wr) := hB
    have hsw := hB.size
    have HT : Hid (Tab wr) := ht.below hB
    clear hown hB
    cases gk with
    | zero => exact absurd HN.out (by simp [cutLoop])
    | succ g =>
      have hr := HN.out
      simp only [cutLoop] at hr
      have hm63 : acc.length + 1 ≤ maxLen := by unfold maxLen; omega
      by_cases hin : i < s.size
      · rw [if_pos hin] at hr
        have hlt : (i : Int) < (s.size : Int) := by omega
        have hltb : decide ((i : Int) < (s.size : Int)) = true := by simpa using hlt
        have hile : (i : Int) ≤ (s.size : Int) := by omega
        go_wp2_with fail
        refine (isBlank_any _ _).mono ?_
        rintro e w1 ⟨rfl, hw1⟩
        have hw1' := hw1.symm
        subst hw1'
        rcases hBl : isBlankB ((bN s i : Nat) : Int) with _ | _
        · rw [hBl] at hr
          simp only [Bool.false_eq_true, if_false] at hr
          have hexs : (s.extract i s.size).size = s.size - i := by rw [ByteArray.size_extract]; omega
          have hok := firstPiece_ok (s.extract i s.size) (by omega) marksL
          go_wp2_with fail
          refine (first_any (s.extract i s.size) (by omega) (by omega) _ HT.out).mono ?_
          rintro e w5 ⟨rfl, hb5⟩
          have HB5 : Hid (Below wr.heap.size wr w5) := hb5
          clear hb5
          rcases hfp : firstPieceM (s.extract i s.size) marksL with k | x
          · rw [hfp] at hr
            simp only at hr
            cases hr
            have hk0 := hok.2 k hfp
            have hkb : (k != 0) = true := by simpa using hk0
            clear hok
            unfold lexE
            go_wp2_with fail
            exact bodyPost_ret (results_tmp3 Tryz.results11) rfl ⟨below_after (below_after HB.out HB5.out) ((Below.refl _ _).alloc (Nat.le_refl _) _), rfl, hk0⟩
          · rw [hfp] at hr
            simp only at hr
            have hx2 := hok.1 x hfp
            rw [hexs] at hx2
            clear hok hexs
            have HRR : Hid (_) := hr
            clear hr
            unfold lexE Tok.val
            obtain ⟨⟨p0, p1, p2, p3⟩, ln⟩ := x
            simp only at hx2 HRR ⊢
            have hs5 := HB5.out.size
            have HO5 : Hid (w5.ownsRow w.heap.size 69 4 (.slice av acc.length cv) acc.length (toksF acc)) := ownsRow_below HOW.out HB5.out
            have HO : Hid (((w5.alloc (.cells #[.int .i64 p0, .int .i64 (i : Nat), .int .i64 p2, .string ⟨p3.toArray⟩] 69)).alloc (.cells #[.int .i64 p0, .int .i64 (i : Nat), .int .i64 p2, .string ⟨p3.toArray⟩] 69)).ownsRow w.heap.size 69 4 (.slice av acc.length cv) acc.length (toksF acc)) := (HO5.out.alloc _).alloc _
            have HNW : Hid (∀ j u, [Value.int .i64 p0, .int .i64 (i : Nat), .int .i64 p2, .string ⟨p3.toArray⟩][j]? = some u → ((w5.alloc (.cells #[.int .i64 p0, .int .i64 (i : Nat), .int .i64 p2, .string ⟨p3.toArray⟩] 69)).alloc (.cells #[.int .i64 p0, .int .i64 (i : Nat), .int .i64 p2, .string ⟨p3.toArray⟩] 69)).cell? ((⟨w5.heap.size + 1, 0, none⟩ : Addr).add j) = some u) :=
              World.news_of_block (B := w5.heap.size + 1) (cs := #[.int .i64 p0, .int .i64 (i : Nat), .int .i64 p2, .string ⟨p3.toArray⟩]) (heap_alloc2 w5 _ _).2
            go_wp2_with (at_builtin; refine wpList_append_lies _ rfl _ _ 40 (by rfl) w.heap.size 69 i0 _ 4 40 Tryz.underlying40 hi hz0 hz1 hz2 rfl (by decide) (.slice av acc.length cv) acc.length (toksF acc) (by rfl) HO.out ⟨w5.heap.size + 1, 0, none⟩ 1 1 [.int .i64 p0, .int .i64 (i : Nat), .int .i64 p2, .string ⟨p3.toArray⟩] (by rfl) rfl HNW.out (piece_one _ _ _ _) (by decide) hm63 (by omega) (by simp; omega) (w5.heap.size + 2) (by simp) ?_)
            intro gg cp w8 hown8 hgrow8 hat8 hlt8
            have HO8 : Hid (_) := hown8
            have HG8 : Hid (_) := hgrow8
            clear hown8 hgrow8 hat8
            go_wp2_with fail
            go_roundg g
            case measure => omega
            case rel =>
              have hv := HO5.out.lt
              refine ⟨acc ++ [(⟨p0, ((i : Nat) : Int), p2, p3⟩ : Tok)], i + ln, by go_num, ?_, ?_, by omega, by simp; omega, HRR⟩
              · exact below_grown (below_after (below_after (below_after HB.out HB5.out) ((Below.refl _ _).alloc (Nat.le_refl _) _)) ((Below.refl _ _).alloc (Nat.le_refl _) _)) HG8.out (fun k e => by have := hv k e; omega)
              · rw [toksF_append, List.length_append]
                exact HO8.out
        · rw [hBl] at hr
          simp only [if_true] at hr
          have HRR : Hid (_) := hr
          clear hr
          go_wp2_with fail
          go_roundg g
          case measure => omega
          case rel => exact ⟨acc, i + 1, by go_num, HB.out, HOW.out, by omega, by omega, HRR.out⟩
      · rw [if_neg hin] at hr
        cases hr
        have hlt : ¬ (i : Int) < (s.size : Int) := by omega
        have hltb : decide ((i : Int) < (s.size : Int)) = false := by simpa using hlt
        have HO : Hid ((wr.alloc (.cells #[.int .i64 0, .int .i64 (s.size : Nat), .int .i64 0, .string ⟨#[]⟩] 69)).ownsRow w.heap.size 69 4 (.slice av acc.length cv) acc.length (toksF acc)) := HOW.out.alloc _
        have HNW : Hid (∀ j u, [Value.int .i64 0, .int .i64 (s.size : Nat), .int .i64 0, .string ⟨#[]⟩][j]? = some u → (wr.alloc (.cells #[.int .i64 0, .int .i64 (s.size : Nat), .int .i64 0, .string ⟨#[]⟩] 69)).cell? ((⟨wr.heap.size, 0, none⟩ : Addr).add j) = some u) :=
          World.news_of_block (B := wr.heap.size) (cs := #[.int .i64 0, .int .i64 (s.size : Nat), .int .i64 0, .string ⟨#[]⟩]) (heap_alloc_new wr _)
        go_wp2_with (at_builtin; refine wpList_append_lies _ rfl _ _ 40 (by rfl) w.heap.size 69 i0 _ 4 40 Tryz.underlying40 hi hz0 hz1 hz2 rfl (by decide) (.slice av acc.length cv) acc.length (toksF acc) (by rfl) HO.out ⟨wr.heap.size, 0, none⟩ 1 1 [.int .i64 0, .int .i64 (s.size : Nat), .int .i64 0, .string ⟨#[]⟩] (by rfl) rfl HNW.out (piece_one _ _ _ _) (by decide) hm63 (by omega) (by simp; omega) (wr.heap.size + 1) (by simp) ?_)
        intro gg cp w8 hown8 hgrow8 hat8 hlt8
        have HO8 : Hid (_) := hown8
        have HG8 : Hid (_) := hgrow8
        clear hown8 hgrow8 hat8
        go_wp2_with fail
        have hv := HOW.out.lt
        have htr := tokRow_of_owns (l := acc ++ [⟨0, (s.size : Nat), 0, []⟩]) (by rw [toksF_append, List.length_append]; exact HO8.out)
        refine bodyPost_ret (results_tmp3 Tryz.results11) rfl ⟨below_grown (below_after HB.out ((Below.refl _ _).alloc (Nat.le_refl _) _)) HG8.out (fun k e => by have := hv k e; omega), gg, cp, ?_, htr⟩
        simp

theorem cut_any (s : ByteArray) (hlim : s.size ≤ 100000) (w : World) (ht : Tab w) (r : Sum (Nat × Int) (List Tok)) (hr : cutLoop s (s.size + 1) 0 [] = some r) :
    Calls Tryz.prog 11 #[.string s] w (PostC w r) := cut_core s hlim w ht r hr
end

section
open Go.RowKit
set_option linter.unusedSimpArgs false
set_option linter.unusedVariables false

theorem cutLoop_ok (s : ByteArray) : ∀ (f i : Nat) (acc l : List Tok), cutLoop s f i acc = some (.inr l) → l.length ≤ acc.length + f ∧ ∃ l' t, l = l' ++ [t] ∧ t.kind = 0
  | 0, i, acc, l, h => by simp [cutLoop] at h
  | f + 1, i, acc, l, h => by
    simp only [cutLoop] at h
    split at h
    · split at h
      · have := cutLoop_ok s f (i + 1) acc l h
        exact ⟨by omega, this.2⟩
      · split at h
        · cases h
        · have := cutLoop_ok s f _ _ l h
          simp at this
          exact ⟨by omega, by simpa using this.2⟩
    · cases h
      exact ⟨by simp, acc, _, rfl, rfl⟩

theorem last_fin {l l' : List Tok} {t : Tok} (h : l = l' ++ [t]) (ht : t.kind = 0) : ∀ i, i < l.length → (cur l i).kind ≠ 0 → i + 1 < l.length := by
  intro i hi hk
  subst h
  simp at hi ⊢
  rcases Nat.lt_or_ge i l'.length with h | h
  · omega
  · exfalso
    have : i = l'.length := by omega
    subst this
    apply hk
    simp [cur, ht]

theorem below_own2 {w w2 W : World} {x : Nat} (h : Below w.heap.size w w2) (k : Kept x w2 W) (hx : w.heap.size ≤ x) : Below w.heap.size w W :=
  ⟨k.os.trans h.os, k.tape.trans h.tape, k.output.trans h.output, Nat.le_trans h.size k.size, fun i hi => (k.block i (Nat.lt_of_lt_of_le hi h.size) (by omega)).trans (h.block i hi)⟩

/-- what reading a source answers: F: the fuel -/
def readM (F : Nat) (s : ByteArray) : Option (Sum (Int × Int) (List Fn')) :=
  if (4000 : Int) < (s.size : Nat) then some (.inl (0, 1))
  else match cutLoop s (s.size + 1) 0 [] with
    | none => none
    | some (.inl k) => some (.inl ((k.1 : Nat), k.2))
    | some (.inr l) => match functionsM l F with
      | none => none
      | some (.inl k) => some (.inl k)
      | some (.inr x) => some (.inr x.1)

def PostR (w : World) (r : Sum (Int × Int) (List Fn')) (e : Ending) (w' : World) : Prop :=
  Below w.heap.size w w' ∧ match r with
  | .inl k => e = .returned (.tuple #[.slice none 0 0, .int .i64 k.1, .int .i64 k.2])
  | .inr fs => ∃ a c, e = .returned (.tuple #[.slice a fs.length c, .int .i64 0, .int .i64 0]) ∧ Row (fun g => w.heap.size ≤ g) w' (IsFn (fun g => w.heap.size ≤ g) w') (.slice a fs.length c) fs

set_option maxHeartbeats 2000000 in
theorem read_any (F : Nat) (hF : F ≤ 1000000) (s : ByteArray) (w : World) (ht : Tab w) (hG : 9 ≤ w.heap.size) (r : Sum (Int × Int) (List Fn')) (hr : readM F s = some r) :
    Calls Tryz.prog 6 #[.string s] w (PostR w r) := by
  unfold readM at hr
  by_cases hbig : (4000 : Int) < (s.size : Nat)
  · rw [if_pos hbig] at hr
    cases hr
    have hbb : decide ((4000 : Int) < ((s.size : Nat) : Int)) = true := by simpa using hbig
    go_enter Tryz.func6, Tryz.ntmps6
    go_wp2_with fail
    exact bodyPost_ret (results_tmp3 Tryz.results6) rfl ⟨Below.refl _ _, rfl⟩
  · rw [if_neg hbig] at hr
    have hbb : decide ((4000 : Int) < ((s.size : Nat) : Int)) = false := by simpa using hbig
    have hle : ((s.size : Nat) : Int) ≤ 4000 := by omega
    rcases hc : cutLoop s (s.size + 1) 0 [] with _ | k | l
    · rw [hc] at hr; cases hr
    · rw [hc] at hr
      cases hr
      go_enter Tryz.func6, Tryz.ntmps6
      go_wp2_with fail
      refine (cut_any s (by omega) _ ht _ hc).mono ?_
      rintro e w1 ⟨hb1, rfl, hk0⟩
      have hkb : (k.2 != 0) = true := by simpa using hk0
      go_wp2_with fail
      exact bodyPost_ret (results_tmp3 Tryz.results6) rfl ⟨hb1, rfl⟩
    · rw [hc] at hr
      simp only at hr
      obtain ⟨hlen, l', t, hl', ht0⟩ := cutLoop_ok s _ _ _ _ hc
      have hfin := last_fin hl' ht0
      have hpos : 0 < l.length := by rw [hl']; simp
      simp at hlen
      go_enter Tryz.func6, Tryz.ntmps6
      go_wp2_with fail
      refine (cut_any s (by omega) _ ht _ hc).mono ?_
      rintro e w1 ⟨hb1, g, c, rfl, htr, hg1, hg2⟩
      have hs1 := hb1.size
      have hblk := heap_alloc_new w1 (.cells #[.slice (some ⟨g, 0, none⟩) l.length c, .int .i64 0, .int .i64 0, .int .i64 0, .int .i64 0] 45)
      have hkx : Below w1.heap.size w1 (w1.alloc (.cells #[.slice (some ⟨g, 0, none⟩) l.length c, .int .i64 0, .int .i64 0, .int .i64 0, .int .i64 0] 45)) := (Below.refl _ _).alloc (Nat.le_refl _) _
      have hR : Rdr (w1.alloc (.cells #[.slice (some ⟨g, 0, none⟩) l.length c, .int .i64 0, .int .i64 0, .int .i64 0, .int .i64 0] 45)) w1.heap.size g c 45 l ⟨0, 0, 0, 0⟩ := by
        refine ⟨hblk, ?_, by omega, by simp; omega, hpos, by omega, Nat.zero_le _, (ht.below hb1).below hkx, by omega, hfin⟩
        intro i hi
        have := htr i hi
        rw [← hkx.cell (p := ⟨g, i * 4, none⟩) hg2, ← hkx.cell (p := ⟨g, i * 4 + 1, none⟩) hg2, ← hkx.cell (p := ⟨g, i * 4 + 2, none⟩) hg2, ← hkx.cell (p := ⟨g, i * 4 + 3, none⟩) hg2] at this
        exact this
      have HB : Hid (Below w.heap.size w (w1.alloc (.cells #[.slice (some ⟨g, 0, none⟩) l.length c, .int .i64 0, .int .i64 0, .int .i64 0, .int .i64 0] 45))) := below_after hb1 hkx
      clear htr hblk hkx hb1 hfin hl'
      go_wp2_with fail
      rcases hfm : functionsM l F with _ | k | ⟨fs, nx⟩
      · rw [hfm] at hr; cases hr
      · rw [hfm] at hr
        cases hr
        refine (functions_said l F hF _ _ _ _ _ 0 0 _ hR hfm).mono ?_
        rintro e w2 ⟨k2, n', rfl, hR2⟩
        have hs2 := k2.size
        simp at hs2
        obtain ⟨c0, c1, c2, c3, c4⟩ := hR2.cells
        have hlt : w1.heap.size < w2.heap.size := by omega
        have HB2 : Hid (Below w.heap.size w w2) := below_own2 HB.out k2 hs1
        go_wp2_with fail
        go_region
        all_goals
          go_wp2_with fail
          exact bodyPost_ret (results_tmp3 Tryz.results6) rfl ⟨HB2.out.drew, rfl⟩
      · rw [hfm] at hr
        cases hr
        refine (functions_said l F hF _ _ _ _ _ 0 0 _ hR hfm).mono ?_
        rintro e w2 ⟨k2, a, cc, rfl, hrow, hR2⟩
        have HB2 : Hid (Below w.heap.size w w2) := below_own2 HB.out k2 hs1
        have HRW : Hid (Row (fun g => w.heap.size ≤ g) w2 (IsFn (fun g => w.heap.size ≤ g) w2) (.slice a fs.length cc) fs) :=
          hrow.move (fun g hg _ => ⟨by simp at hg; omega, rfl⟩) fun u x hx => moves_IsFn _ _ _ _ _ _ hx fun g hg _ => ⟨by simp at hg; omega, rfl⟩
        clear hrow hR2
        go_wp2_with fail
        exact bodyPost_ret (results_tmp3 Tryz.results6) rfl ⟨HB2.out, a, cc, rfl, HRW.out⟩
end

end Go.Proofs.YtbpnfoihonehgabGreatDoor
