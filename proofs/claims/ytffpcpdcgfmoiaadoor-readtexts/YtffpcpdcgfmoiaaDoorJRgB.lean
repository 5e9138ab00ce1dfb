/-
  posternkeep.ReadTexts: the walk.
-/
import Derived.Test.YtffpcpdcgfmoiaaDoorJReU
import Derived.Laws.Concat
namespace Go.Proofs.YtffpcpdcgfmoiaaDoor
section
open Go.RowKit
set_option linter.unusedSimpArgs false
set_option linter.unusedVariables false

/-- how a byte of a text is written -/
def quo (c : UInt8) : List UInt8 := if c = 34 ∨ c = 92 then [92, c] else if c = 10 then [92, 110] else [c]

def quoted (t : List UInt8) : List UInt8 := t.flatMap quo

theorem quoted_nil : quoted [] = [] := rfl
theorem quoted_cons (c : UInt8) (t : List UInt8) : quoted (c :: t) = quo c ++ quoted t := by simp [quoted]
theorem quoted_snoc (c : UInt8) (t : List UInt8) : quoted (t ++ [c]) = quoted t ++ quo c := by simp [quoted]

theorem quo_len (c : UInt8) : 1 ≤ (quo c).length ∧ (quo c).length ≤ 2 := by
  unfold quo; split
  · simp
  · split <;> simp

theorem quoted_len : ∀ t : List UInt8, t.length ≤ (quoted t).length ∧ (quoted t).length ≤ 2 * t.length
  | [] => by simp [quoted]
  | c :: t => by
    have := quoted_len t
    have := quo_len c
    rw [quoted_cons]
    simp
    omega

theorem data_l (l : List UInt8) : (⟨l.toArray⟩ : ByteArray).data.toList = l := by simp
theorem size_l (l : List UInt8) : (⟨l.toArray⟩ : ByteArray).size = l.length := by rw [Lib.size_eq]

theorem ext_l (l : List UInt8) (i : Nat) : (⟨l.toArray⟩ : ByteArray).extract i l.length = ⟨(l.drop i).toArray⟩ := by
  rw [Lib.extract_eq, List.take_of_length_le (by simp)]

theorem drop_at {l : List UInt8} {i : Nat} {c : UInt8} {r : List UInt8} (h : l.drop i = c :: r) : i < l.length ∧ l.getD i 0 = c ∧ l.drop (i + 1) = r := by
  have hlt : i < l.length := by
    rcases Nat.lt_or_ge i l.length with h' | h'
    · exact h'
    · rw [List.drop_of_length_le h'] at h; cases h
  rw [List.drop_eq_getElem_cons hlt] at h
  obtain ⟨h1, h2⟩ := List.cons.inj h
  exact ⟨hlt, by rw [List.getD_eq_getElem?_getD, List.getElem?_eq_getElem hlt]; exact h1, h2⟩

theorem drop_app {l a r : List UInt8} {i : Nat} (h : l.drop i = a ++ r) : l.drop (i + a.length) = r := by
  rw [← List.drop_drop, h]; simp

theorem bN_l {l : List UInt8} {i : Nat} {c : UInt8} {r : List UInt8} (h : l.drop i = c :: r) : bN ⟨l.toArray⟩ i = c.toNat := by
  unfold bN; rw [data_l, (drop_at h).2.1]

theorem runW_word (l : List UInt8) (c : UInt8) (r : List UInt8) (hc : (isLetterB (c.toNat : Nat) || isDigitB (c.toNat : Nat)) = false) :
    ∀ (w : List UInt8) (f i : Nat), (∀ x ∈ w, (isLetterB (x.toNat : Nat) || isDigitB (x.toNat : Nat)) = true) → l.drop i = w ++ c :: r → w.length + 1 ≤ f → runW ⟨l.toArray⟩ f i = i + w.length
  | [], f, i, _, h, hf => by
    obtain ⟨f', rfl⟩ : ∃ f', f = f' + 1 := ⟨f - 1, by simp at hf; omega⟩
    rw [runW, bN_l h, hc]; simp
  | x :: w, f, i, hw, h, hf => by
    obtain ⟨f', rfl⟩ : ∃ f', f = f' + 1 := ⟨f - 1, by simp at hf; omega⟩
    rw [runW, bN_l h, hw x (by simp), if_pos rfl, runW_word l c r hc w f' (i + 1) (fun y hy => hw y (by simp [hy])) (drop_at h).2.2 (by simp at hf; omega)]
    simp; omega

theorem first_word (x : UInt8) (w : List UInt8) (c : UInt8) (r : List UInt8) (k : Int) (hx : isLetterB (x.toNat : Nat) = true) (hw : ∀ y ∈ w, (isLetterB (y.toNat : Nat) || isDigitB (y.toNat : Nat)) = true)
    (hc : (isLetterB (c.toNat : Nat) || isDigitB (c.toNat : Nat)) = false) (h12 : w.length + 1 ≤ 12) (hk : (if keywordsL.any (fun o => (x :: w) == o) then (2 : Int) else 1) = k) :
    firstPieceM ⟨((x :: w) ++ c :: r).toArray⟩ marksL = .inr (⟨k, 0, 0, x :: w⟩, w.length + 1) := by
  have h0 : bN ⟨((x :: w) ++ c :: r).toArray⟩ 0 = x.toNat := bN_l (l := (x :: w) ++ c :: r) (i := 0) (r := w ++ c :: r) (by simp)
  have hrun : runW ⟨((x :: w) ++ c :: r).toArray⟩ ((⟨((x :: w) ++ c :: r).toArray⟩ : ByteArray).size - 1) 1 = w.length + 1 := by
    have := runW_word ((x :: w) ++ c :: r) c r hc w ((⟨((x :: w) ++ c :: r).toArray⟩ : ByteArray).size - 1) 1 hw (by simp) (by rw [size_l]; simp)
    omega
  unfold firstPieceM
  rw [h0, hx, if_pos rfl]
  unfold cutWordM
  rw [hrun, data_l]
  have ht : ((x :: w) ++ c :: r).take (w.length + 1) = x :: w := by simp
  rw [ht, if_neg (by omega)]
  subst hk
  split <;> simp_all

theorem byteI (c k : UInt8) : (((c.toNat : Nat) : Int) == ((k.toNat : Nat) : Int)) = decide (c = k) := by
  rw [Bool.eq_iff_iff, beq_iff_eq, decide_eq_true_eq]
  exact ⟨fun h => UInt8.toNat_inj.1 (by omega), fun h => by rw [h]⟩

theorem escB_l (c : UInt8) (r : List UInt8) : escB ⟨(c :: r).toArray⟩ = if c = 34 ∨ c = 92 then some c else if c = 110 then some 10 else none := by
  unfold escB
  have h0 : ((⟨(c :: r).toArray⟩ : ByteArray).toList == []) = false := by rw [Lib.toList_data, data_l]; rfl
  have h1 : bN ⟨(c :: r).toArray⟩ 0 = c.toNat := bN_l (l := c :: r) (i := 0) (r := r) rfl
  have h2 : (⟨(c :: r).toArray⟩ : ByteArray).data.toList.getD 0 0 = c := by rw [data_l]; rfl
  have e : ∀ k : UInt8, (((c.toNat : Nat) : Int) == ((k.toNat : Nat) : Int)) = decide (c = k) := byteI c
  have e34 := e 34
  have e92 := e 92
  have e110 := e 110
  simp only [show ((UInt8.toNat 34 : Nat) : Int) = 34 from rfl, show ((UInt8.toNat 92 : Nat) : Int) = 92 from rfl, show ((UInt8.toNat 110 : Nat) : Int) = 110 from rfl] at e34 e92 e110
  rw [h0, h1, h2, e34, e92, e110]
  simp

theorem byte34 (c : UInt8) : (((c.toNat : Nat) : Int) == 34) = decide (c = 34) := byteI c 34
theorem byte10 (c : UInt8) : (((c.toNat : Nat) : Int) == 10) = decide (c = 10) := byteI c 10
theorem byte92 (c : UInt8) : (((c.toNat : Nat) : Int) == 92) = decide (c = 92) := byteI c 92

theorem runT_quoted (l r : List UInt8) : ∀ (t : List UInt8) (f i : Nat) (acc : List UInt8), l.drop i = quoted t ++ 34 :: r → t.length + 1 ≤ f →
    runT ⟨l.toArray⟩ f i acc = .inr (⟨4, 0, 0, acc ++ t⟩, i + (quoted t).length + 1)
  | [], f, i, acc, h, hf => by
    obtain ⟨f', rfl⟩ : ∃ f', f = f' + 1 := ⟨f - 1, by simp at hf; omega⟩
    rw [quoted_nil, List.nil_append] at h
    rw [runT, size_l, if_pos (drop_at h).1, bN_l h]
    simp [quoted_nil]
  | c :: t, f, i, acc, h, hf => by
    obtain ⟨f', rfl⟩ : ∃ f', f = f' + 1 := ⟨f - 1, by simp at hf; omega⟩
    rw [quoted_cons, List.append_assoc] at h
    have hf' : t.length + 1 ≤ f' := by simp at hf; omega
    by_cases h1 : c = 34 ∨ c = 92
    · have hq : quo c = [92, c] := by simp [quo, h1]
      rw [hq] at h
      have h2 : l.drop (i + 1) = c :: (quoted t ++ 34 :: r) := (drop_at h).2.2
      have h3 : l.drop (i + 1 + 1) = quoted t ++ 34 :: r := (drop_at h2).2.2
      rw [runT, size_l, if_pos (drop_at h).1, bN_l h, ext_l, h2, escB_l, if_pos h1]
      simp only [show ((((92 : UInt8).toNat : Nat) : Int) == 34) = false from rfl, show ((((92 : UInt8).toNat : Nat) : Int) == 10) = false from rfl, show ((((92 : UInt8).toNat : Nat) : Int) == 92) = true from rfl, Bool.false_eq_true, if_false, if_true]
      rw [runT_quoted l r t f' _ _ h3 hf', quoted_cons, hq]
      simp; omega
    · by_cases h10 : c = 10
      · have hq : quo c = [92, 110] := by simp [quo, h1, h10]
        rw [hq] at h
        have h2 : l.drop (i + 1) = 110 :: (quoted t ++ 34 :: r) := (drop_at h).2.2
        have h3 : l.drop (i + 1 + 1) = quoted t ++ 34 :: r := (drop_at h2).2.2
        rw [runT, size_l, if_pos (drop_at h).1, bN_l h, ext_l, h2, escB_l]
        simp only [show ((((92 : UInt8).toNat : Nat) : Int) == 34) = false from rfl, show ((((92 : UInt8).toNat : Nat) : Int) == 10) = false from rfl, show ((((92 : UInt8).toNat : Nat) : Int) == 92) = true from rfl, Bool.false_eq_true, if_false, if_true,
          show ¬ ((110 : UInt8) = 34 ∨ (110 : UInt8) = 92) from by decide]
        rw [runT_quoted l r t f' _ _ h3 hf', quoted_cons, hq, h10]
        simp; omega
      · have hq : quo c = [c] := by simp [quo, h1, h10]
        rw [hq] at h
        have h2 : l.drop (i + 1) = quoted t ++ 34 :: r := (drop_at h).2.2
        have hg := (drop_at h).2.1
        have n34 : ¬ c = 34 := fun e => h1 (Or.inl e)
        have n92 : ¬ c = 92 := fun e => h1 (Or.inr e)
        rw [runT, size_l, if_pos (drop_at h).1, bN_l h, data_l, hg, byte34, byte10, byte92]
        simp only [n34, n92, h10, decide_false, Bool.false_eq_true, if_false]
        rw [runT_quoted l r t f' _ _ h2 hf', quoted_cons, hq]
        simp; omega

theorem first_text (t r : List UInt8) : firstPieceM ⟨(34 :: (quoted t ++ 34 :: r)).toArray⟩ marksL = .inr (⟨4, 0, 0, t⟩, (quoted t).length + 2) := by
  have h0 : bN ⟨(34 :: (quoted t ++ 34 :: r)).toArray⟩ 0 = 34 := bN_l (l := 34 :: (quoted t ++ 34 :: r)) (i := 0) rfl
  unfold firstPieceM
  rw [h0]
  simp only [show isLetterB ((34 : Nat) : Int) = false from rfl, show isDigitB ((34 : Nat) : Int) = false from rfl, show (((34 : Nat) : Int) == 34) = true from rfl, Bool.false_eq_true, if_false, if_true]
  unfold cutTextM
  have hl := quoted_len t
  rw [runT_quoted _ r t _ 1 [] (by simp) (by rw [size_l]; simp; omega)]
  simp; omega

theorem cut_blank (l : List UInt8) (f i : Nat) (acc : List Tok) (c : UInt8) (r : List UInt8) (h : l.drop i = c :: r) (hb : isBlankB (c.toNat : Nat) = true) : cutLoop ⟨l.toArray⟩ (f + 1) i acc = cutLoop ⟨l.toArray⟩ f (i + 1) acc := by
  rw [cutLoop, size_l, if_pos (drop_at h).1, bN_l h, hb, if_pos rfl]

theorem cut_piece (l : List UInt8) (f i j : Nat) (acc : List Tok) (c : UInt8) (r : List UInt8) (x : Tok × Nat) (h : l.drop i = c :: r) (hb : isBlankB (c.toNat : Nat) = false) (hx : firstPieceM ⟨(c :: r).toArray⟩ marksL = .inr x) (hj : i + x.2 = j) :
    cutLoop ⟨l.toArray⟩ (f + 1) i acc = cutLoop ⟨l.toArray⟩ f j (acc ++ [⟨x.1.kind, (i : Nat), x.1.n, x.1.s⟩]) := by
  subst hj
  rw [cutLoop, size_l, if_pos (drop_at h).1, bN_l h, hb, ext_l, h, hx]
  rfl

theorem cut_end (l : List UInt8) (f : Nat) (acc : List Tok) : cutLoop ⟨l.toArray⟩ (f + 1) l.length acc = some (.inr (acc ++ [⟨0, (l.length : Nat), 0, []⟩])) := by
  rw [cutLoop, size_l, if_neg (by omega)]

theorem mark40 (r : List UInt8) : firstPieceM ⟨(40 :: r).toArray⟩ marksL = .inr (⟨5, 0, 0, [40]⟩, 1) := by kernel_rfl
theorem mark41 (r : List UInt8) : firstPieceM ⟨(41 :: r).toArray⟩ marksL = .inr (⟨5, 0, 0, [41]⟩, 1) := by kernel_rfl
theorem mark123 (r : List UInt8) : firstPieceM ⟨(123 :: r).toArray⟩ marksL = .inr (⟨5, 0, 0, [123]⟩, 1) := by kernel_rfl
theorem mark125 (r : List UInt8) : firstPieceM ⟨(125 :: r).toArray⟩ marksL = .inr (⟨5, 0, 0, [125]⟩, 1) := by kernel_rfl

/-- the source that prints a text -/
def preL : List UInt8 := [102, 117, 110, 99, 32, 109, 97, 105, 110, 40, 41, 32, 123, 32, 112, 114, 105, 110, 116, 40]
def postL : List UInt8 := [34, 41, 32, 125]
def srcL (t : List UInt8) : List UInt8 := preL ++ 34 :: (quoted t ++ postL)

def toksT (t : List UInt8) (a b c d : Int) : List Tok :=
  [⟨2, 0, 0, [102, 117, 110, 99]⟩, ⟨1, 5, 0, [109, 97, 105, 110]⟩, ⟨5, 9, 0, [40]⟩, ⟨5, 10, 0, [41]⟩, ⟨5, 12, 0, [123]⟩, ⟨2, 14, 0, [112, 114, 105, 110, 116]⟩, ⟨5, 19, 0, [40]⟩, ⟨4, a, 0, t⟩, ⟨5, b, 0, [41]⟩, ⟨5, c, 0, [125]⟩, ⟨0, d, 0, []⟩]

theorem src_len (t : List UInt8) : (srcL t).length = (quoted t).length + 25 := by simp [srcL, preL, postL]

theorem cut_src (t : List UInt8) : ∃ b c d, cutLoop ⟨(srcL t).toArray⟩ ((srcL t).length + 1) 0 [] = some (.inr (toksT t 20 b c d)) := by
  have e0 : (srcL t).drop 0 = (102 :: [117, 110, 99]) ++ 32 :: ([109, 97, 105, 110, 40, 41, 32, 123, 32, 112, 114, 105, 110, 116, 40] ++ 34 :: (quoted t ++ postL)) := rfl
  have e4 : (srcL t).drop 4 = 32 :: ([109, 97, 105, 110, 40, 41, 32, 123, 32, 112, 114, 105, 110, 116, 40] ++ 34 :: (quoted t ++ postL)) := rfl
  have e5 : (srcL t).drop 5 = (109 :: [97, 105, 110]) ++ 40 :: ([41, 32, 123, 32, 112, 114, 105, 110, 116, 40] ++ 34 :: (quoted t ++ postL)) := rfl
  have e9 : (srcL t).drop 9 = 40 :: ([41, 32, 123, 32, 112, 114, 105, 110, 116, 40] ++ 34 :: (quoted t ++ postL)) := rfl
  have e10 : (srcL t).drop 10 = 41 :: ([32, 123, 32, 112, 114, 105, 110, 116, 40] ++ 34 :: (quoted t ++ postL)) := rfl
  have e11 : (srcL t).drop 11 = 32 :: ([123, 32, 112, 114, 105, 110, 116, 40] ++ 34 :: (quoted t ++ postL)) := rfl
  have e12 : (srcL t).drop 12 = 123 :: ([32, 112, 114, 105, 110, 116, 40] ++ 34 :: (quoted t ++ postL)) := rfl
  have e13 : (srcL t).drop 13 = 32 :: ([112, 114, 105, 110, 116, 40] ++ 34 :: (quoted t ++ postL)) := rfl
  have e14 : (srcL t).drop 14 = (112 :: [114, 105, 110, 116]) ++ 40 :: (34 :: (quoted t ++ postL)) := rfl
  have e19 : (srcL t).drop 19 = 40 :: (34 :: (quoted t ++ postL)) := rfl
  have e20 : (srcL t).drop 20 = 34 :: (quoted t ++ 34 :: [41, 32, 125]) := rfl
  have e21 : (srcL t).drop 21 = quoted t ++ 34 :: [41, 32, 125] := rfl
  have f0 : (srcL t).drop (21 + (quoted t).length) = 34 :: [41, 32, 125] := drop_app e21
  have f1 : (srcL t).drop (21 + (quoted t).length + 1) = 41 :: [32, 125] := (drop_at f0).2.2
  have f2 : (srcL t).drop (21 + (quoted t).length + 1 + 1) = 32 :: [125] := (drop_at f1).2.2
  have f3 : (srcL t).drop (21 + (quoted t).length + 1 + 1 + 1) = 125 :: [] := (drop_at f2).2.2
  have g1 : 20 + ((quoted t).length + 2) = 21 + (quoted t).length + 1 := by omega
  refine ⟨((21 + (quoted t).length + 1 : Nat) : Int), ((21 + (quoted t).length + 1 + 1 + 1 : Nat) : Int), (((srcL t).length : Nat) : Int), ?_⟩
  have hfu : (srcL t).length + 1 = ((quoted t).length + 12) + 14 := by rw [src_len]
  rw [hfu]
  rw [cut_piece (srcL t) _ 0 4 _ _ _ _ e0 rfl (first_word 102 [117, 110, 99] 32 _ 2 rfl (by decide) rfl (by decide) rfl) rfl]
  rw [cut_blank (srcL t) _ 4 _ _ _ e4 rfl]
  rw [cut_piece (srcL t) _ 5 9 _ _ _ _ e5 rfl (first_word 109 [97, 105, 110] 40 _ 1 rfl (by decide) rfl (by decide) rfl) rfl]
  rw [cut_piece (srcL t) _ 9 10 _ _ _ _ e9 rfl (mark40 _) rfl]
  rw [cut_piece (srcL t) _ 10 11 _ _ _ _ e10 rfl (mark41 _) rfl]
  rw [cut_blank (srcL t) _ 11 _ _ _ e11 rfl]
  rw [cut_piece (srcL t) _ 12 13 _ _ _ _ e12 rfl (mark123 _) rfl]
  rw [cut_blank (srcL t) _ 13 _ _ _ e13 rfl]
  rw [cut_piece (srcL t) _ 14 19 _ _ _ _ e14 rfl (first_word 112 [114, 105, 110, 116] 40 _ 2 rfl (by decide) rfl (by decide) rfl) rfl]
  rw [cut_piece (srcL t) _ 19 20 _ _ _ _ e19 rfl (mark40 _) rfl]
  rw [cut_piece (srcL t) _ 20 (21 + (quoted t).length + 1) _ _ _ _ e20 rfl (first_text t _) g1]
  rw [cut_piece (srcL t) _ _ _ _ _ _ _ f1 rfl (mark41 _) rfl]
  rw [cut_blank (srcL t) _ _ _ _ _ f2 rfl]
  rw [cut_piece (srcL t) _ _ _ _ _ _ _ f3 rfl (mark125 _) rfl]
  have g2 : 21 + (quoted t).length + 1 + 1 + 1 + 1 = (srcL t).length := by rw [src_len]; omega
  rw [g2, cut_end]
  rfl

theorem funcs_src (t : List UInt8) (b c d : Int) : functionsM (toksT t 20 b c d) 60 = okR [⟨[109, 97, 105, 110], [], 0, [{ st0 9 [] [] with exprs := [⟨2, 0, t, []⟩] }]⟩] 10 := by kernel_rfl

theorem read_src (t : List UInt8) : readM 60 ⟨(srcL t).toArray⟩ = if (4000 : Int) < (((quoted t).length + 25 : Nat) : Int) then some (.inl (0, 1)) else some (.inr [⟨[109, 97, 105, 110], [], 0, [{ st0 9 [] [] with exprs := [⟨2, 0, t, []⟩] }]⟩]) := by
  unfold readM
  rw [size_l, src_len]
  split
  · rfl
  · obtain ⟨b, c, d, h⟩ := cut_src t
    rw [src_len] at h
    rw [h]
    simp only []
    rw [funcs_src]
    rfl
end

section
open Go.RowKit
set_option linter.unusedSimpArgs false
set_option linter.unusedVariables false

theorem row_one {B : Type} {S : Nat → Prop} {w : World} {P : Value → B → Prop} {v : Value} {x : B} (h : Row S w P v [x]) :
    ∃ g cap u, v = .slice (some ⟨g, 0, none⟩) 1 cap ∧ P u x ∧ ∀ j y, u.cells.toList[j]? = some y → w.cell? ⟨g, j, none⟩ = some y := by
  obtain ⟨vs, h1, h2⟩ := h
  match vs, h2 with
  | [u], h2 =>
    rcases h1 with ⟨_, h0, _⟩ | ⟨g, cap, cc, T, fz, hv, _, hg, ht⟩
    · cases h0
    · refine ⟨g, cap, u, hv, h2.1, fun j y hy => ?_⟩
      have hf : flat [u] = u.cells.toList := by simp [flat]
      rw [hf] at ht
      have hj : j < u.cells.toList.length := (List.getElem?_eq_some_iff.1 hy).1
      have h3 : (cc.toList.take u.cells.toList.length)[j]? = some y := by rw [ht]; exact hy
      rw [List.getElem?_take_of_lt hj] at h3
      simp only [World.cell?, hg]
      simpa using h3
  | [], h2 => exact h2.elim
  | _ :: _ :: _, h2 => exact h2.2.elim

theorem text_cells {S : Nat → Prop} {w : World} {v : Value} {nm t : List UInt8} {k : Int} {a b : List UInt8} (h : Row S w (IsFn S w) v [⟨nm, [], 0, [{ st0 k a b with exprs := [⟨2, 0, t, []⟩] }]⟩]) :
    ∃ g1 c1 g2 c2 g3 c3, v = .slice (some ⟨g1, 0, none⟩) 1 c1 ∧ w.cell? ⟨g1, 3, none⟩ = some (.slice (some ⟨g2, 0, none⟩) 1 c2) ∧ w.cell? ⟨g2, 3, none⟩ = some (.slice (some ⟨g3, 0, none⟩) 1 c3) ∧
      w.cell? ⟨g3, 2, none⟩ = some (.string ⟨t.toArray⟩) ∧ w.cell? ⟨g3, 0, none⟩ = some (.int .i64 2) := by
  obtain ⟨g1, c1, u1, rfl, ⟨ap, ab, rfl, _, hb⟩, hc1⟩ := row_one h
  obtain ⟨g2, c2, u2, rfl, ⟨f, hs⟩, hc2⟩ := row_one hb
  cases f with
  | zero => exact hs.elim
  | succ f =>
    obtain ⟨ae, ab', al, ac, rfl, he, _⟩ := hs
    obtain ⟨g3, c3, u3, rfl, ⟨f', hx⟩, hc3⟩ := row_one he
    cases f' with
    | zero => exact hx.elim
    | succ f' =>
      obtain ⟨a', rfl, _⟩ := hx
      exact ⟨g1, c1, g2, c2, g3, c3, rfl, hc1 3 _ rfl, hc2 3 _ rfl, hc3 2 _ rfl, hc3 0 _ rfl⟩

theorem bytes_add (x y : List UInt8) : ((⟨x.toArray⟩ : ByteArray) ++ ⟨y.toArray⟩) = ⟨(x ++ y).toArray⟩ := ByteArray.mk_append_mk x y

/-- what the law has written so far -/
def litL (l : List UInt8) (i : Nat) : List UInt8 := 34 :: quoted (l.take i)

theorem litL_succ (l : List UInt8) (i : Nat) (h : i < l.length) : litL l (i + 1) = litL l i ++ quo (l.getD i 0) := by
  unfold litL
  rw [List.take_succ_eq_append_getElem h, quoted_snoc, List.getD_eq_getElem?_getD, List.getElem?_eq_getElem h]
  rfl

theorem ext_one (s : ByteArray) (i : Nat) (h : i < s.size) : s.extract i (i + 1) = ⟨[s.data.toList.getD i 0].toArray⟩ := by
  rw [Lib.extract_eq]
  have h' : i < s.data.toList.length := by rw [← Lib.size_eq]; exact h
  have e : i + 1 - i = 1 := by omega
  rw [e, List.getD_eq_getElem?_getD, List.getElem?_eq_getElem h', List.drop_eq_getElem_cons h']
  rfl

theorem mk_l (s : ByteArray) : s = ⟨s.data.toList.toArray⟩ := by
  obtain ⟨⟨l⟩⟩ := s
  rfl

theorem lit_size (s : ByteArray) (hs : s.size ≤ 140737488355328) (i : Nat) : (litL s.data.toList i).length ≤ 281474976710657 := by
  have h1 := (quoted_len (s.data.toList.take i)).2
  have h2 : (s.data.toList.take i).length ≤ s.size := by rw [List.length_take, Lib.size_eq]; omega
  simp only [litL, List.length_cons]
  omega

theorem sum_run {A B Y : ByteArray} {n m : Nat} (ha : A.size = n) (hb : B.size = m) (hn : n ≤ 1000000000000000) (hm : m ≤ 1000) (hy : A ++ B = Y) : ∀ w' : World, (Op.stringOp .add A B).run Tryd.prog w' = .ok (.string Y) w' := by
  intro w'
  rw [run_string_add_sum w' A B (by omega), hy]

theorem sum_no {A B : ByteArray} {n m : Nat} (ha : A.size = n) (hb : B.size = m) (hn : n ≤ 1000000000000000) (hm : m ≤ 1000) : ¬ (A.size + B.size > 9223372036854775807) := by omega

theorem bN_byte (s : ByteArray) (i : Nat) (k : UInt8) : ((((bN s i : Nat) : Int) == ((k.toNat : Nat) : Int)) = true ↔ s.data.toList.getD i 0 = k) ∧ ((((bN s i : Nat) : Int) == ((k.toNat : Nat) : Int)) = false ↔ ¬ s.data.toList.getD i 0 = k) := by
  unfold bN
  rw [byteI]
  simp

theorem lit_back (s : ByteArray) (i : Nat) (h : i < s.size) (hc : (((bN s i : Nat) : Int) == 34) = true ∨ (((bN s i : Nat) : Int) == 92) = true) :
    ((⟨(litL s.data.toList i).toArray⟩ : ByteArray) ++ (⟨#[92]⟩ ++ s.extract i (i + 1))) = ⟨(litL s.data.toList (i + 1)).toArray⟩ := by
  have hc' : s.data.toList.getD i 0 = 34 ∨ s.data.toList.getD i 0 = 92 := hc.imp (bN_byte s i 34).1.1 (bN_byte s i 92).1.1
  have hl : i < s.data.toList.length := by rw [← Lib.size_eq]; exact h
  have e : (⟨#[92]⟩ : ByteArray) = ⟨[(92 : UInt8)].toArray⟩ := rfl
  have hq : quo (s.data.toList.getD i 0) = [92, s.data.toList.getD i 0] := by unfold quo; rw [if_pos hc']
  rw [litL_succ _ _ hl, ext_one s i h, e, bytes_add, bytes_add, hq]
  rfl

theorem lit_line (s : ByteArray) (i : Nat) (h : i < s.size) (hc : (((bN s i : Nat) : Int) == 10) = true) :
    ((⟨(litL s.data.toList i).toArray⟩ : ByteArray) ++ ⟨#[92, 110]⟩) = ⟨(litL s.data.toList (i + 1)).toArray⟩ := by
  have hc' : s.data.toList.getD i 0 = 10 := (bN_byte s i 10).1.1 hc
  have hl : i < s.data.toList.length := by rw [← Lib.size_eq]; exact h
  have e : (⟨#[92, 110]⟩ : ByteArray) = ⟨[(92 : UInt8), 110].toArray⟩ := rfl
  rw [litL_succ _ _ hl, hc', e, bytes_add]
  rfl

theorem lit_plain (s : ByteArray) (i : Nat) (h : i < s.size) (h34 : (((bN s i : Nat) : Int) == 34) = false) (h92 : (((bN s i : Nat) : Int) == 92) = false) (h10 : (((bN s i : Nat) : Int) == 10) = false) :
    ((⟨(litL s.data.toList i).toArray⟩ : ByteArray) ++ s.extract i (i + 1)) = ⟨(litL s.data.toList (i + 1)).toArray⟩ := by
  have n34 := (bN_byte s i 34).2.1 h34
  have n92 := (bN_byte s i 92).2.1 h92
  have n10 := (bN_byte s i 10).2.1 h10
  have hl : i < s.data.toList.length := by rw [← Lib.size_eq]; exact h
  have hq : quo (s.data.toList.getD i 0) = [s.data.toList.getD i 0] := by
    unfold quo; rw [if_neg (fun e => e.elim n34 n92), if_neg n10]
  rw [litL_succ _ _ hl, ext_one s i h, bytes_add, hq]

theorem src_eq (t : List UInt8) : ((⟨#[102, 117, 110, 99, 32, 109, 97, 105, 110, 40, 41, 32, 123, 32, 112, 114, 105, 110, 116, 40]⟩ : ByteArray) ++ ⟨(litL t t.length).toArray⟩ ++ ⟨#[34, 41, 32, 125]⟩) = ⟨(srcL t).toArray⟩ := by
  have e1 : (⟨#[102, 117, 110, 99, 32, 109, 97, 105, 110, 40, 41, 32, 123, 32, 112, 114, 105, 110, 116, 40]⟩ : ByteArray) = ⟨preL.toArray⟩ := rfl
  have e2 : (⟨#[34, 41, 32, 125]⟩ : ByteArray) = ⟨postL.toArray⟩ := rfl
  rw [e1, e2, bytes_add, bytes_add]
  have e3 : litL t t.length = 34 :: quoted t := by simp [litL]
  rw [e3]
  simp [srcL]

set_option maxHeartbeats 4000000 in
theorem readTexts_walk (s : ByteArray) (hs : s.size ≤ 140737488355328) (w : World) (ht : Tab w) (hG : 4 ≤ w.heap.size) :
    Calls Tryd.prog 4 #[.string s] w fun e w' => e = .returned (.bool true) ∧ Below w.heap.size w w' := by
  go_enter Tryd.func4, Tryd.ntmps4
  go_wp2_with fail
  go_loopg [3, 10] s.size (fun g s3 s10 wr => ∃ (i : Nat) (L : ByteArray), s3 = .string L ∧ s10 = .int .i64 (i : Nat) ∧ wr = w ∧ i + g = s.size ∧ Hid (L = ⟨(litL s.data.toList i).toArray⟩))
  case atStart => exact ⟨0, _, rfl, rfl, rfl, by omega, rfl⟩
  case round =>
    obtain ⟨i, L, rfl, rfl, rfl, hi, HL⟩ := hrel
    have hLs : L.size ≤ 281474976710657 := by rw [HL.out, size_l]; exact lit_size s hs i
    cases gk with
    | zero =>
      have hlt : ¬ (i : Int) < (s.size : Int) := by omega
      have hltb : decide ((i : Int) < (s.size : Int)) = false := by simpa using hlt
      have hil : i = s.data.toList.length := by rw [← Lib.size_eq]; omega
      have HSRC : Hid ((⟨#[102, 117, 110, 99, 32, 109, 97, 105, 110, 40, 41, 32, 123, 32, 112, 114, 105, 110, 116, 40]⟩ : ByteArray) ++ L ++ ⟨#[34, 41, 32, 125]⟩ = ⟨(srcL s.data.toList).toArray⟩) := by
        unfold Hid
        rw [HL.out, hil]
        exact src_eq s.data.toList
      have HLEN : Hid (L.size = (quoted s.data.toList).length + 1) := by
        unfold Hid
        rw [HL.out, size_l, hil]
        show (34 :: quoted (s.data.toList.take s.data.toList.length)).length = _
        rw [List.take_length]
        rfl
      have HT : Hid (Tab wr) := ht
      clear hil ht
      have hrd := read_src s.data.toList
      by_cases hbig : (4000 : Int) < (((quoted s.data.toList).length + 25 : Nat) : Int)
      · rw [if_pos hbig] at hrd
        have HRD : Hid (_) := hrd
        have hlb : (4000 : Int) < (L.size : Int) + 30 := by rw [HLEN.out]; omega
        have hlb2 : decide ((4000 : Int) < (L.size : Int) + 30) = true := by simpa using hlb
        clear hrd hbig
        go_wp2_with fail
        refine (read_any 60 (by decide) _ _ HT.out hG _ (by rw [HSRC.out]; exact HRD.out)).mono ?_
        rintro e w4 ⟨hb4, rfl⟩
        have HB4 : Hid (_) := hb4
        clear hb4
        go_wp2_with fail
        go_ret
        exact ⟨rfl, HB4.out⟩
      · rw [if_neg hbig] at hrd
        have HRD : Hid (_) := hrd
        clear hrd hbig
        by_cases hlb : (4000 : Int) < (L.size : Int) + 30
        · have hlb2 : decide ((4000 : Int) < (L.size : Int) + 30) = true := by simpa using hlb
          go_wp2_with fail
          refine (read_any 60 (by decide) _ _ HT.out hG _ (by rw [HSRC.out]; exact HRD.out)).mono ?_
          rintro e w4 ⟨hb4, a, c, rfl, hrow⟩
          have HB4 : Hid (_) := hb4
          clear hb4 hrow
          go_wp2_with fail
          go_ret
          exact ⟨rfl, HB4.out⟩
        · have hlb2 : decide ((4000 : Int) < (L.size : Int) + 30) = false := by simpa using hlb
          have hlb3 : (L.size : Int) + 30 ≤ 4000 := by omega
          go_wp2_with fail
          refine (read_any 60 (by decide) _ _ HT.out hG _ (by rw [HSRC.out]; exact HRD.out)).mono ?_
          rintro e w4 ⟨hb4, a, c, rfl, hrow⟩
          have HB4 : Hid (_) := hb4
          obtain ⟨g1, c1, g2, c2, g3, c3, hv, q1, q2, q3, q4⟩ := text_cells hrow
          have hva : a = some ⟨g1, 0, none⟩ ∧ c = c1 := by
            simp at hv
            exact hv
          obtain ⟨rfl, rfl⟩ := hva
          have hsl : (⟨s.data.toList.toArray⟩ : ByteArray) = s := (mk_l s).symm
          rw [hsl] at q3
          clear hb4 hrow hv hsl
          go_wp2_with fail
          go_ret
          exact ⟨by simp, HB4.out⟩
    | succ g =>
      have hlt : (i : Int) < (s.size : Int) := by omega
      have hltb : decide ((i : Int) < (s.size : Int)) = true := by simpa using hlt
      have hltn : i < s.size := by omega
      have hile : i ≤ s.size := by omega
      have hi1 : i + 1 ≤ s.size := by omega
      rcases h34 : (((bN s i : Nat) : Int) == 34) with _ | _
      · rcases h92 : (((bN s i : Nat) : Int) == 92) with _ | _
        · rcases h10 : (((bN s i : Nat) : Int) == 10) with _ | _
          · have HN : Hid (L ++ s.extract i (i + 1) = ⟨(litL s.data.toList (i + 1)).toArray⟩) := by rw [HL.out]; exact lit_plain s i hltn h34 h92 h10
            go_wp2_with fail
            go_roundg g
            case measure => omega
            case rel => exact ⟨i + 1, _, rfl, by go_num, rfl, by omega, HN⟩
          · have HN : Hid (L ++ ⟨#[92, 110]⟩ = ⟨(litL s.data.toList (i + 1)).toArray⟩) := by rw [HL.out]; exact lit_line s i hltn h10
            go_wp2_with fail
            go_roundg g
            case measure => omega
            case rel => exact ⟨i + 1, _, rfl, by go_num, rfl, by omega, HN⟩
        · have HN : Hid (L ++ (⟨#[92]⟩ ++ s.extract i (i + 1)) = ⟨(litL s.data.toList (i + 1)).toArray⟩) := by rw [HL.out]; exact lit_back s i hltn (.inr h92)
          go_wp2_with fail
          go_roundg g
          case measure => omega
          case rel => exact ⟨i + 1, _, rfl, by go_num, rfl, by omega, HN⟩
      · have HN : Hid (L ++ (⟨#[92]⟩ ++ s.extract i (i + 1)) = ⟨(litL s.data.toList (i + 1)).toArray⟩) := by rw [HL.out]; exact lit_back s i hltn (.inl h34)
        go_wp2_with fail
        go_roundg g
        case measure => omega
        case rel => exact ⟨i + 1, _, rfl, by go_num, rfl, by omega, HN⟩
end

end Go.Proofs.YtffpcpdcgfmoiaaDoor
