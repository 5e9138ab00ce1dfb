/-
  A source cut into pieces: the walk.
-/
import Derived.Test.YtgifghcaeoinoaaDoorReS
namespace Go.Proofs.YtgifghcaeoinoaaDoor
open Go.RowKit
set_option linter.unusedSimpArgs false
set_option linter.unusedVariables false

theorem results_tmp3 {fn : Func} {a : Act} {w : World} {x y z : Nat} (h : fn.results = #[.tmp x, .tmp y, .tmp z]) : (results fn a.tmps).run Tryd.prog w = .ok (.tuple #[a.tmps.getD x undef, a.tmps.getD y undef, a.tmps.getD z undef]) w := by
  simp [results, h, go_sem]

theorem Tab.below {w w' : World} (h : Tab w) (k : Below w.heap.size w w') : Tab w' := h.same fun g hg _ => k.block g hg

theorem ownsRow_below {w w' : World} {base size n : Nat} {e : TypeId} {v : Value} {xs : List Value} (h : w.ownsRow base e size v n xs) (k : Below w.heap.size w w') : w'.ownsRow base e size v n xs := by
  refine ⟨h.1, ?_⟩
  rcases h.2 with h2 | ⟨g, cap, cc, hv, hg, hh, r⟩
  · exact Or.inl h2
  · refine Or.inr ⟨g, cap, cc, hv, hg, ?_, r⟩
    have hlt : g < w.heap.size := by
      rcases Nat.lt_or_ge g w.heap.size with hb | hb
      · exact hb
      · rw [Array.getElem?_eq_none hb] at hh; cases hh
    rw [k.block g hlt]; exact hh

set_option maxHeartbeats 3000000 in
theorem cut_core (s : ByteArray) (hlim : s.size ≤ 100000) (w : World) (ht : Tab w) (r : Sum (Nat × Int) (List Tok)) (HE : Hid (cutLoop s (s.size + 1) 0 [] = some r)) :
    Calls Tryd.prog 13 #[.string s] w (PostC w r) := by
  obtain ⟨i0, hi, hz0, hz1, hz2⟩ := info_parts infoPiece
  go_enter Tryd.func13, Tryd.ntmps13
  go_wp2_with fail
  go_loopg [5, 6] (s.size + 1) (fun g s5 s6 wr => ∃ (acc : List Tok) (i : Nat), s6 = .int .i64 (i : Nat) ∧ Below w.heap.size w wr ∧ wr.ownsRow w.heap.size 78 4 s5 acc.length (toksF acc) ∧ i ≤ s.size ∧ acc.length + g ≤ s.size + 1 ∧ Hid (cutLoop s g i acc = some r))
  case atStart => exact ⟨[], 0, rfl, Below.refl _ _, World.ownsRow_nil _ _ _ _, by omega, by simp, HE⟩
  case round =>
    obtain ⟨acc, i, rfl, hB, hown, hi1, hal, HN⟩ := hrel
    obtain ⟨av, cv, rfl⟩ := ownsRow_slice hown
    have HOW : Hid (wr.ownsRow w.heap.size 78 4 (.slice av acc.length cv) acc.length (toksF acc)) := hown
    have HB : Hid (Below w.heap.size w wr) := hB
    have hsw := hB.size
    have HT : Hid (Tab wr) := ht.below hB
    clear hown hB
    cases gk with
    | zero => exact absurd HN.out (by simp [cutLoop])
    | succ g =>
      have hr := HN.out
      simp only [cutLoop] at hr
      have hm63 : acc.length + 1 ≤ maxLen := by unfold maxLen; omega
      by_cases hin : i < s.size
      · rw [if_pos hin] at hr
        have hlt : (i : Int) < (s.size : Int) := by omega
        have hltb : decide ((i : Int) < (s.size : Int)) = true := by simpa using hlt
        have hile : (i : Int) ≤ (s.size : Int) := by omega
        go_wp2_with fail
        refine (isBlank_any _ _).mono ?_
        rintro e w1 ⟨rfl, hw1⟩
        have hw1' := hw1.symm
        subst hw1'
        rcases hBl : isBlankB ((bN s i : Nat) : Int) with _ | _
        · rw [hBl] at hr
          simp only [Bool.false_eq_true, if_false] at hr
          have hexs : (s.extract i s.size).size = s.size - i := by rw [ByteArray.size_extract]; omega
          have hok := firstPiece_ok (s.extract i s.size) (by omega) marksL
          go_wp2_with fail
          refine (first_any (s.extract i s.size) (by omega) (by omega) _ HT.out).mono ?_
          rintro e w5 ⟨rfl, hb5⟩
          have HB5 : Hid (Below wr.heap.size wr w5) := hb5
          clear hb5
          rcases hfp : firstPieceM (s.extract i s.size) marksL with k | x
          · rw [hfp] at hr
            simp only at hr
            cases hr
            have hk0 := hok.2 k hfp
            have hkb : (k != 0) = true := by simpa using hk0
            clear hok
            unfold lexE
            go_wp2_with fail
            exact bodyPost_ret (results_tmp3 Tryd.results13) rfl ⟨below_after (below_after HB.out HB5.out) ((Below.refl _ _).alloc (Nat.le_refl _) _), rfl, hk0⟩
          · rw [hfp] at hr
            simp only at hr
            have hx2 := hok.1 x hfp
            rw [hexs] at hx2
            clear hok hexs
            have HRR : Hid (_) := hr
            clear hr
            unfold lexE Tok.val
            obtain ⟨⟨p0, p1, p2, p3⟩, ln⟩ := x
            simp only at hx2 HRR ⊢
            have hs5 := HB5.out.size
            have HO5 : Hid (w5.ownsRow w.heap.size 78 4 (.slice av acc.length cv) acc.length (toksF acc)) := ownsRow_below HOW.out HB5.out
            have HO : Hid (((w5.alloc (.cells #[.int .i64 p0, .int .i64 (i : Nat), .int .i64 p2, .string ⟨p3.toArray⟩] 78)).alloc (.cells #[.int .i64 p0, .int .i64 (i : Nat), .int .i64 p2, .string ⟨p3.toArray⟩] 78)).ownsRow w.heap.size 78 4 (.slice av acc.length cv) acc.length (toksF acc)) := (HO5.out.alloc _).alloc _
            have HNW : Hid (∀ j u, [Value.int .i64 p0, .int .i64 (i : Nat), .int .i64 p2, .string ⟨p3.toArray⟩][j]? = some u → ((w5.alloc (.cells #[.int .i64 p0, .int .i64 (i : Nat), .int .i64 p2, .string ⟨p3.toArray⟩] 78)).alloc (.cells #[.int .i64 p0, .int .i64 (i : Nat), .int .i64 p2, .string ⟨p3.toArray⟩] 78)).cell? ((⟨w5.heap.size + 1, 0, none⟩ : Addr).add j) = some u) :=
              World.news_of_block (B := w5.heap.size + 1) (cs := #[.int .i64 p0, .int .i64 (i : Nat), .int .i64 p2, .string ⟨p3.toArray⟩]) (heap_alloc2 w5 _ _).2
            go_wp2_with (at_builtin; refine wpList_append_lies _ rfl _ _ 47 (by rfl) w.heap.size 78 i0 _ 4 40 Tryd.underlying47 hi hz0 hz1 hz2 rfl (by decide) (.slice av acc.length cv) acc.length (toksF acc) (by rfl) HO.out ⟨w5.heap.size + 1, 0, none⟩ 1 1 [.int .i64 p0, .int .i64 (i : Nat), .int .i64 p2, .string ⟨p3.toArray⟩] (by rfl) rfl HNW.out (piece_one _ _ _ _) (by decide) hm63 (by omega) (by simp; omega) (w5.heap.size + 2) (by simp) ?_)
            intro gg cp w8 hown8 hgrow8 hat8 hlt8
            have HO8 : Hid (_) := hown8
            have HG8 : Hid (_) := hgrow8
            clear hown8 hgrow8 hat8
            go_wp2_with fail
            go_roundg g
            case measure => omega
            case rel =>
              have hv := HO5.out.lt
              refine ⟨acc ++ [(⟨p0, ((i : Nat) : Int), p2, p3⟩ : Tok)], i + ln, by go_num, ?_, ?_, by omega, by simp; omega, HRR⟩
              · exact below_grown (below_after (below_after (below_after HB.out HB5.out) ((Below.refl _ _).alloc (Nat.le_refl _) _)) ((Below.refl _ _).alloc (Nat.le_refl _) _)) HG8.out (fun k e => by have := hv k e; omega)
              · rw [toksF_append, List.length_append]
                exact HO8.out
        · rw [hBl] at hr
          simp only [if_true] at hr
          have HRR : Hid (_) := hr
          clear hr
          go_wp2_with fail
          go_roundg g
          case measure => omega
          case rel => exact ⟨acc, i + 1, by go_num, HB.out, HOW.out, by omega, by omega, HRR.out⟩
      · rw [if_neg hin] at hr
        cases hr
        have hlt : ¬ (i : Int) < (s.size : Int) := by omega
        have hltb : decide ((i : Int) < (s.size : Int)) = false := by simpa using hlt
        have HO : Hid ((wr.alloc (.cells #[.int .i64 0, .int .i64 (s.size : Nat), .int .i64 0, .string ⟨#[]⟩] 78)).ownsRow w.heap.size 78 4 (.slice av acc.length cv) acc.length (toksF acc)) := HOW.out.alloc _
        have HNW : Hid (∀ j u, [Value.int .i64 0, .int .i64 (s.size : Nat), .int .i64 0, .string ⟨#[]⟩][j]? = some u → (wr.alloc (.cells #[.int .i64 0, .int .i64 (s.size : Nat), .int .i64 0, .string ⟨#[]⟩] 78)).cell? ((⟨wr.heap.size, 0, none⟩ : Addr).add j) = some u) :=
          World.news_of_block (B := wr.heap.size) (cs := #[.int .i64 0, .int .i64 (s.size : Nat), .int .i64 0, .string ⟨#[]⟩]) (heap_alloc_new wr _)
        go_wp2_with (at_builtin; refine wpList_append_lies _ rfl _ _ 47 (by rfl) w.heap.size 78 i0 _ 4 40 Tryd.underlying47 hi hz0 hz1 hz2 rfl (by decide) (.slice av acc.length cv) acc.length (toksF acc) (by rfl) HO.out ⟨wr.heap.size, 0, none⟩ 1 1 [.int .i64 0, .int .i64 (s.size : Nat), .int .i64 0, .string ⟨#[]⟩] (by rfl) rfl HNW.out (piece_one _ _ _ _) (by decide) hm63 (by omega) (by simp; omega) (wr.heap.size + 1) (by simp) ?_)
        intro gg cp w8 hown8 hgrow8 hat8 hlt8
        have HO8 : Hid (_) := hown8
        have HG8 : Hid (_) := hgrow8
        clear hown8 hgrow8 hat8
        go_wp2_with fail
        have hv := HOW.out.lt
        have htr := tokRow_of_owns (l := acc ++ [⟨0, (s.size : Nat), 0, []⟩]) (by rw [toksF_append, List.length_append]; exact HO8.out)
        refine bodyPost_ret (results_tmp3 Tryd.results13) rfl ⟨below_grown (below_after HB.out ((Below.refl _ _).alloc (Nat.le_refl _) _)) HG8.out (fun k e => by have := hv k e; omega), gg, cp, ?_, htr⟩
        simp

theorem cut_any (s : ByteArray) (hlim : s.size ≤ 100000) (w : World) (ht : Tab w) (r : Sum (Nat × Int) (List Tok)) (hr : cutLoop s (s.size + 1) 0 [] = some r) :
    Calls Tryd.prog 13 #[.string s] w (PostC w r) := cut_core s hlim w ht r hr

end Go.Proofs.YtgifghcaeoinoaaDoor
