/-
  A text.
-/
import Derived.Test.YtgifghcaeoinoaaDoorReP
import Derived.Laws.IdiomStrings
import Derived.Laws.BytesArg
import Derived.Test.YtgifghcaeoinoaaDoorRdG
namespace Go.Proofs.YtgifghcaeoinoaaDoor
open Go.RowKit
set_option linter.unusedSimpArgs false
set_option linter.unusedVariables false

theorem conv_own {w : World} {base : Nat} {v : Value} {acc : List UInt8} (h : w.ownsRow base 5 1 v acc.length (Lib.byteCells acc)) : (convert 115 9 v).run Tryd.prog w = .ok (.string ⟨acc.toArray⟩) w := by
  rcases h.2 with ⟨rfl, h0⟩ | ⟨g, cap, cur, rfl, hb, hh, hn, hc, hs, ht⟩
  · have : acc = [] := List.eq_nil_of_length_eq_zero h0
    subst this
    exact run_convert_bytes_nil w 115 5 Tryd.underlying115 Tryd.underlying5 0 0 9 Tryd.underlying9
  · refine run_convert_bytes_back w 115 9 5 ⟨g, 0, none⟩ cap acc Tryd.underlying115 Tryd.underlying5 Tryd.underlying9 ?_
    intro j hj
    have e1 : (⟨g, 0, none⟩ : Addr).add j = ⟨g, j, none⟩ := by rw [Addr.add_mid]; simp
    have h1 : cur.toList[j]? = some (.int .u8 (acc[j].toNat : Int)) := by
      have h2 : (cur.toList.take (acc.length * 1))[j]? = (Lib.byteCells acc)[j]? := by rw [ht]
      rw [List.getElem?_take_of_lt (by omega)] at h2
      rw [h2]
      simp [Lib.byteCells, hj]
    rw [e1]
    simp only [World.cell?, hh]
    simpa using h1

theorem below_grown {w wa w2 : World} {o : Option Nat} (h : Below w.heap.size w wa) (hg : wa.grownBy w2 o) (ho : ∀ k, o = some k → w.heap.size ≤ k) : Below w.heap.size w w2 :=
  ⟨hg.os.trans h.os, hg.tape.trans h.tape, hg.output.trans h.output, Nat.le_trans h.size hg.size, fun i hi => (hg.block i (Nat.lt_of_lt_of_le hi h.size) (fun e => by have := ho i e.symm; omega)).trans (h.block i hi)⟩

def escB (s : ByteArray) : Option UInt8 :=
  if s.toList == [] then none
  else if ((bN s 0 : Nat) : Int) == 34 || ((bN s 0 : Nat) : Int) == 92 then some (s.data.toList.getD 0 0)
  else if ((bN s 0 : Nat) : Int) == 110 then some 10 else none

theorem escE_eq (s : ByteArray) : (∃ c, escB s = some c ∧ escE s = .returned (.tuple #[.int .u8 (c.toNat : Int), .bool true])) ∨ (escB s = none ∧ escE s = .returned (.tuple #[.int .u8 0, .bool false])) := by
  unfold escE escM escB
  split
  · exact .inr ⟨rfl, rfl⟩
  · split
    · exact .inl ⟨_, rfl, rfl⟩
    · split
      · exact .inl ⟨_, rfl, rfl⟩
      · exact .inr ⟨rfl, rfl⟩

/-- a text's bytes, from place i on: f: at least so many bytes are left -/
def runT (s : ByteArray) : Nat → Nat → List UInt8 → Sum Int (Tok × Nat)
  | 0, _, _ => .inl 5
  | f + 1, i, acc =>
    if i < s.size then
      (if ((bN s i : Nat) : Int) == 34 then .inr (⟨4, 0, 0, acc⟩, i + 1)
      else if ((bN s i : Nat) : Int) == 10 then .inl 4
      else if ((bN s i : Nat) : Int) == 92 then (match escB (s.extract (i + 1) s.size) with
        | none => .inl 4
        | some c => runT s f (i + 1 + 1) (acc ++ [c]))
      else runT s f (i + 1) (acc ++ [s.data.toList.getD i 0]))
    else .inl 5

def cutTextM (s : ByteArray) : Sum Int (Tok × Nat) := runT s (s.size + 1) 1 []

set_option maxHeartbeats 2000000 in
theorem cutText_core (s : ByteArray) (hs : 0 < s.size) (hlim : s.size ≤ 1000000) (w : World) (r : Sum Int (Tok × Nat)) (HE : Hid (cutTextM s = r)) :
    Calls Tryd.prog 55 #[.string s] w fun e w' => e = lexE r ∧ Below w.heap.size w w' := by
  obtain ⟨i0, hi, hz0, hz1, hz2⟩ := info_parts infoByte
  go_enter Tryd.func55, Tryd.ntmps55
  go_wp2_with fail
  go_loopg [5, 6] (s.size + 1) (fun g s5 s6 wr => ∃ (acc : List UInt8) (i : Nat), s6 = .int .i64 (i : Nat) ∧ Below w.heap.size w wr ∧ wr.heap[w.heap.size]? = some (.cells #[.int .i64 0, .int .i64 0, .int .i64 0, .string ⟨#[]⟩] 78 (0, 0)) ∧
    wr.ownsRow (w.heap.size + 1) 5 1 s5 acc.length (Lib.byteCells acc) ∧ i ≤ s.size ∧ s.size < i + g ∧ acc.length ≤ i ∧ Hid (runT s g i acc = r))
  case atStart => exact ⟨[], 1, rfl, (Below.refl _ _).alloc (Nat.le_refl _) _, heap_alloc_new w _, World.ownsRow_nil _ _ _ _, by omega, by omega, by simp, HE⟩
  case round =>
    obtain ⟨acc, i, rfl, hB, hx, hown, hi1, hi2, hal, HN⟩ := hrel
    obtain ⟨av, cv, rfl⟩ := ownsRow_slice hown
    have HOW : Hid (wr.ownsRow (w.heap.size + 1) 5 1 (.slice av acc.length cv) acc.length (Lib.byteCells acc)) := hown
    have HB : Hid (Below w.heap.size w wr) := hB
    have hsw := hB.size
    have hxl : w.heap.size < wr.heap.size := by
      rcases Nat.lt_or_ge w.heap.size wr.heap.size with h | h
      · exact h
      · rw [Array.getElem?_eq_none h] at hx; cases hx
    have hc := cells4 hx
    have hz := thaw4 hx
    have hcv := conv_own hown
    clear hown hB
    cases gk with
    | zero => exact absurd hi2 (by omega)
    | succ g =>
      have hr := HN.out
      simp only [runT] at hr
      by_cases hin : i < s.size
      · rw [if_pos hin] at hr
        have hlt : (i : Int) < (s.size : Int) := by omega
        have hltb : decide ((i : Int) < (s.size : Int)) = true := by simpa using hlt
        rcases h34 : (((bN s i : Nat) : Int) == 34) with _ | _
        · rw [h34] at hr
          simp only [Bool.false_eq_true, if_false] at hr
          rcases h10 : (((bN s i : Nat) : Int) == 10) with _ | _
          · rw [h10] at hr
            simp only [Bool.false_eq_true, if_false] at hr
            rcases h92 : (((bN s i : Nat) : Int) == 92) with _ | _
            · rw [h92] at hr
              simp only [Bool.false_eq_true, if_false] at hr
              have HR : Hid (_) := hr
              clear hr hcv
              have HO : Hid ((wr.alloc (.cells #[.int .u8 (bN s i : Nat)] 5)).ownsRow (w.heap.size + 1) 5 1 (.slice av acc.length cv) acc.length (Lib.byteCells acc)) := HOW.out.alloc _
              have HNW : Hid (∀ j u, [Value.int .u8 (bN s i : Nat)][j]? = some u → (wr.alloc (.cells #[.int .u8 (bN s i : Nat)] 5)).cell? ((⟨wr.heap.size, 0, none⟩ : Addr).add j) = some u) :=
                World.news_of_block (B := wr.heap.size) (cs := #[.int .u8 (bN s i : Nat)]) (heap_alloc_new wr _)
              have hm63 : acc.length + 1 ≤ maxLen := by unfold maxLen; omega
              have hone : ∀ u ∈ [Value.int .u8 (bN s i : Nat)], u.oneCell' = true := by
                intro u hu
                simp at hu
                subst hu; rfl
              go_wp2_with (at_builtin; refine wpList_append_lies _ rfl _ _ 115 (by rfl) (w.heap.size + 1) 5 i0 _ 1 1 Tryd.underlying115 hi hz0 hz1 hz2 rfl (by decide) (.slice av acc.length cv) acc.length (Lib.byteCells acc) (by rfl) HO.out ⟨wr.heap.size, 0, none⟩ 1 1 [.int .u8 (bN s i : Nat)] (by rfl) rfl HNW.out hone (by decide) hm63 (by omega) (by simp; omega) (wr.heap.size + 1) (by simp) ?_)
              intro gg cp w8 hown8 hgrow8 hat8 hlt8
              have HO8 : Hid (_) := hown8
              have HG8 : Hid (_) := hgrow8
              clear hown8 hgrow8 hat8 hone
              go_wp2_with fail
              go_roundg g
              case measure => omega
              case rel =>
                have hv := HOW.out.lt
                refine ⟨acc ++ [s.data.toList.getD i 0], i + 1, by go_num, ?_, ?_, ?_, by omega, by omega, by simp; omega, HR.out⟩
                · exact below_grown (below_after HB.out ((Below.refl _ _).alloc (Nat.le_refl _) _)) HG8.out (fun k e => by have := hv k e; omega)
                · have hsz := HB.out.size
                  rw [HG8.out.block w.heap.size (by simp; omega) (fun e => by have := hv _ e.symm; omega)]
                  exact blk_alloc hx _
                · have e1 : Lib.byteCells (acc ++ [s.data.toList.getD i 0]) = Lib.byteCells acc ++ [Value.int .u8 (bN s i : Nat)] := by simp [Lib.byteCells, bN]
                  rw [e1, List.length_append]
                  exact HO8.out
            · rw [h92] at hr
              simp only [if_true] at hr
              have hi1' : (i : Int) + 1 ≤ (s.size : Int) := by omega
              have hi0' : (0 : Int) ≤ (i : Int) + 1 := by omega
              have htn : ((i : Int) + 1).toNat = i + 1 := by omega
              clear hcv
              rcases escE_eq (s.extract (i + 1) s.size) with ⟨c, hb, he⟩ | ⟨hb, he⟩
              · rw [hb] at hr
                simp only at hr
                have HR : Hid (_) := hr
                have HEE : Hid (_) := he
                have hin2 : i + 1 < s.size := by
                  rcases Nat.lt_or_ge (i + 1) s.size with h | h
                  · exact h
                  · exfalso
                    have h0 : (s.extract (i + 1) s.size).toList == [] := by
                      rw [Lib.extract_toList]
                      have : i + 1 = s.size := by omega
                      simp [this]
                    unfold escB at hb
                    rw [if_pos h0] at hb
                    cases hb
                clear hr he hb
                go_wp2_with fail
                refine (escaped_any _ _).mono ?_
                rintro e w1 ⟨rfl, hw1⟩
                have hw1' := hw1.symm
                subst hw1'
                rw [HEE.out]
                have HO : Hid ((wr.alloc (.cells #[.int .u8 (c.toNat : Nat)] 5)).ownsRow (w.heap.size + 1) 5 1 (.slice av acc.length cv) acc.length (Lib.byteCells acc)) := HOW.out.alloc _
                have HNW : Hid (∀ j u, [Value.int .u8 (c.toNat : Nat)][j]? = some u → (wr.alloc (.cells #[.int .u8 (c.toNat : Nat)] 5)).cell? ((⟨wr.heap.size, 0, none⟩ : Addr).add j) = some u) :=
                  World.news_of_block (B := wr.heap.size) (cs := #[.int .u8 (c.toNat : Nat)]) (heap_alloc_new wr _)
                have hm63 : acc.length + 1 ≤ maxLen := by unfold maxLen; omega
                have hone : ∀ u ∈ [Value.int .u8 (c.toNat : Nat)], u.oneCell' = true := by
                  intro u hu
                  simp at hu
                  subst hu; rfl
                go_wp2_with (at_builtin; refine wpList_append_lies _ rfl _ _ 115 (by rfl) (w.heap.size + 1) 5 i0 _ 1 1 Tryd.underlying115 hi hz0 hz1 hz2 rfl (by decide) (.slice av acc.length cv) acc.length (Lib.byteCells acc) (by rfl) HO.out ⟨wr.heap.size, 0, none⟩ 1 1 [.int .u8 (c.toNat : Nat)] (by rfl) rfl HNW.out hone (by decide) hm63 (by omega) (by simp; omega) (wr.heap.size + 1) (by simp) ?_)
                intro gg cp w8 hown8 hgrow8 hat8 hlt8
                have HO8 : Hid (_) := hown8
                have HG8 : Hid (_) := hgrow8
                clear hown8 hgrow8 hat8 hone
                go_wp2_with fail
                go_roundg g
                case measure => omega
                case rel =>
                  have hv := HOW.out.lt
                  refine ⟨acc ++ [c], i + 1 + 1, by go_num, ?_, ?_, ?_, by omega, by omega, by simp; omega, HR.out⟩
                  · exact below_grown (below_after HB.out ((Below.refl _ _).alloc (Nat.le_refl _) _)) HG8.out (fun k e => by have := hv k e; omega)
                  · have hsz := HB.out.size
                    rw [HG8.out.block w.heap.size (by simp; omega) (fun e => by have := hv _ e.symm; omega)]
                    exact blk_alloc hx _
                  · have e1 : Lib.byteCells (acc ++ [c]) = Lib.byteCells acc ++ [Value.int .u8 (c.toNat : Nat)] := by simp [Lib.byteCells, bN]
                    rw [e1, List.length_append]
                    exact HO8.out
              · rw [hb] at hr
                simp only at hr
                subst hr
                have HEE : Hid (_) := he
                clear he hb
                go_wp2_with fail
                refine (escaped_any _ _).mono ?_
                rintro e w1 ⟨rfl, hw1⟩
                have hw1' := hw1.symm
                subst hw1'
                rw [HEE.out]
                go_wp2_with fail
                exact fin_lex Tryd.results55 rfl rfl rfl rfl (store4 hx _ _ _ _) ⟨rfl, below_own HB.out (kept4 _ _ _ _ _ _)⟩
          · rw [h10] at hr
            simp only [if_true] at hr
            subst hr
            clear hcv
            go_wp2_with fail
            exact fin_lex Tryd.results55 rfl rfl rfl rfl (store4 hx _ _ _ _) ⟨rfl, below_own HB.out (kept4 _ _ _ _ _ _)⟩
        · rw [h34] at hr
          simp only [if_true] at hr
          subst hr
          go_wp2_with fail
          exact fin_lex Tryd.results55 rfl rfl rfl rfl (store4 hx _ _ _ _) ⟨by simp [lexE, Tok.val], below_own HB.out (kept4 _ _ _ _ _ _)⟩
      · rw [if_neg hin] at hr
        subst hr
        have hlt : ¬ (i : Int) < (s.size : Int) := by omega
        have hltb : decide ((i : Int) < (s.size : Int)) = false := by simpa using hlt
        clear hcv
        go_wp2_with fail
        exact fin_lex Tryd.results55 rfl rfl rfl rfl (store4 hx _ _ _ _) ⟨rfl, below_own HB.out (kept4 _ _ _ _ _ _)⟩

theorem cutText_any (s : ByteArray) (hs : 0 < s.size) (hlim : s.size ≤ 1000000) (w : World) :
    Calls Tryd.prog 55 #[.string s] w fun e w' => e = lexE (cutTextM s) ∧ Below w.heap.size w w' :=
  cutText_core s hs hlim w _ rfl

end Go.Proofs.YtgifghcaeoinoaaDoor
