/-
  posternlaw.LowerWords answers true at every number: lower.Words says what the document says. The table of package lower starts as the program's text lays it.
-/
import Derived.Test.YtelpblpjalondaaDoorRows
import Derived.Test.YtelpblpjalondaaDoorChecked
import Derived.Test.YtelpblpjalondaaDoorTie
import Derived.Test.YtelpblpjalondaaDoorCards
import Derived.WalkKit
import Derived.WalkSpells
import Derived.Deep.RegionHeld3
import Derived.WalkLawsBesides
import Derived.ProofKit
import Derived.OpenShut
import Derived.ShutString
import Derived.ChangeOld
import Derived.ChangeSame
import Derived.Below
import Derived.Carry
import Derived.LaidMore
import Derived.Stop.Joined
import Derived.SevenTiedAt
namespace Go.Proofs.YtelpblpjalondaaDoor
open Go.ChangeShapes Go.WideShapes Go.ChangeAt Go.WideElems Go.RowKit
set_option linter.unusedSimpArgs false
set_option linter.unusedVariables false

def wcL : List Int := [0, 1, 1, 2, 3, 1]
def wc (i : Nat) : Int := wcL.getD i 0
def TabW (w : World) : Prop := ∀ i, i < 6 → w.cell? ⟨0, i, none⟩ = some (.int .i64 (wc i))

theorem words_in (t : Int) (k : Nat) (hk : k < 6) (ht : t = (k : Int)) (w : World) (hT : TabW w) :
    Calls Tryd.prog 4 #[.int .i64 t] w fun e w' => e = .returned (.int .i64 (wc k)) ∧ w' = w := by
  have h1 := hT k hk
  generalize wc k = x at h1 ⊢
  have hk0 : (0 : Int) ≤ t := by omega
  have hk6 : t < 6 := by omega
  have hkn : t.toNat = k := by omega
  clear hT
  subst ht
  go_enter Tryd.func4, Tryd.ntmps4
  go_wp2
  go_ret
  exact ⟨rfl, rfl⟩

theorem lowerWords_out (t : Int) (w : World) (hT : TabW w) (h : t < 0 ∨ 5 < t) : Calls Tryd.prog 3 #[.int .i64 t] w fun e w' => e = .returned (.bool true) ∧ Below w.heap.size w w' := by
  by_cases h1 : t < 0
  · go_enter Tryd.func3, Tryd.ntmps3
    go_wp2_with fail
    refine (words_in 3 3 (by decide) rfl _ hT).mono ?_
    rintro e w1 ⟨rfl, rfl⟩
    go_wp2_with fail
    refine (words_in 4 4 (by decide) rfl _ hT).mono ?_
    rintro e w1 ⟨rfl, rfl⟩
    go_wp2_with fail
    go_ret
    exact ⟨rfl, Below.refl _ _⟩
  · have h2 : 5 < t := by omega
    go_enter Tryd.func3, Tryd.ntmps3
    go_wp2_with fail
    refine (words_in 3 3 (by decide) rfl _ hT).mono ?_
    rintro e w1 ⟨rfl, rfl⟩
    go_wp2_with fail
    refine (words_in 4 4 (by decide) rfl _ hT).mono ?_
    rintro e w1 ⟨rfl, rfl⟩
    go_wp2_with fail
    go_ret
    exact ⟨rfl, Below.refl _ _⟩

theorem TabW.below {w w' : World} {B : Nat} (h : TabW w) (hB : 0 < B) (k : Below B w w') : TabW w' := by
  have g1 := hB
  intro i hi
  exact (k.cell (p := ⟨0, i, none⟩) g1).trans (h i hi)

/-- what the region keeps: only new blocks -/
theorem words_below (k : Nat) (x : Int) (hx : wc k = x) (hk : k < 6) (w w1 : World) (hG : 0 < w.heap.size) (hT : TabW w) (h : Below w.heap.size w w1) :
    Calls Tryd.prog 4 #[.int .i64 (k : Int)] w1 fun e w' => e = .returned (.int .i64 x) ∧ w1 = w' :=
  (words_in _ k hk rfl w1 (hT.below hG h)).mono fun _ _ ⟨a, b⟩ => ⟨hx ▸ a, b.symm⟩

set_option maxHeartbeats 4000000 in
theorem lowerWords_0 (w : World) (hG : 0 < w.heap.size) (hT : TabW w) : Calls Tryd.prog 3 #[.int .i64 0] w fun e w' => e = .returned (.bool true) ∧ Below w.heap.size w w' := by
  have HT : Hid (TabW w) := hT
  have HG : Hid (0 < w.heap.size) := hG
  clear hT hG
  go_enter Tryd.func3, Tryd.ntmps3
  go_wp2_with fail
  go_region_with (go_at_call 4; refine (words_below 0 0 rfl (by decide) w _ HG.out HT.out (by first | exact (Below.refl _ _).drew | exact ((Below.refl _ _).drew).alloc (Nat.le_refl _) _ | exact ((Below.refl _ _).alloc (Nat.le_refl _) _).drew | exact (Below.refl _ _).alloc (Nat.le_refl _) _)).mono ?_; rintro e w1 ⟨rfl, rfl⟩)
  all_goals (
    go_wp2_with fail
    go_ret
    exact ⟨rfl, by first | exact (Below.refl _ _).drew | exact ((Below.refl _ _).drew).alloc (Nat.le_refl _) _ | exact ((Below.refl _ _).alloc (Nat.le_refl _) _).drew | exact (Below.refl _ _).alloc (Nat.le_refl _) _⟩)

set_option maxHeartbeats 4000000 in
theorem lowerWords_1 (w : World) (hG : 0 < w.heap.size) (hT : TabW w) : Calls Tryd.prog 3 #[.int .i64 1] w fun e w' => e = .returned (.bool true) ∧ Below w.heap.size w w' := by
  have HT : Hid (TabW w) := hT
  have HG : Hid (0 < w.heap.size) := hG
  clear hT hG
  go_enter Tryd.func3, Tryd.ntmps3
  go_wp2_with fail
  go_region_with (go_at_call 4; refine (words_below 1 1 rfl (by decide) w _ HG.out HT.out (by first | exact (Below.refl _ _).drew | exact ((Below.refl _ _).drew).alloc (Nat.le_refl _) _ | exact ((Below.refl _ _).alloc (Nat.le_refl _) _).drew | exact (Below.refl _ _).alloc (Nat.le_refl _) _)).mono ?_; rintro e w1 ⟨rfl, rfl⟩)
  all_goals (
    go_wp2_with fail
    go_ret
    exact ⟨rfl, by first | exact (Below.refl _ _).drew | exact ((Below.refl _ _).drew).alloc (Nat.le_refl _) _ | exact ((Below.refl _ _).alloc (Nat.le_refl _) _).drew | exact (Below.refl _ _).alloc (Nat.le_refl _) _⟩)

set_option maxHeartbeats 4000000 in
theorem lowerWords_2 (w : World) (hG : 0 < w.heap.size) (hT : TabW w) : Calls Tryd.prog 3 #[.int .i64 2] w fun e w' => e = .returned (.bool true) ∧ Below w.heap.size w w' := by
  have HT : Hid (TabW w) := hT
  have HG : Hid (0 < w.heap.size) := hG
  clear hT hG
  go_enter Tryd.func3, Tryd.ntmps3
  go_wp2_with fail
  go_region_with (go_at_call 4; refine (words_below 2 1 rfl (by decide) w _ HG.out HT.out (by first | exact (Below.refl _ _).drew | exact ((Below.refl _ _).drew).alloc (Nat.le_refl _) _ | exact ((Below.refl _ _).alloc (Nat.le_refl _) _).drew | exact (Below.refl _ _).alloc (Nat.le_refl _) _)).mono ?_; rintro e w1 ⟨rfl, rfl⟩)
  all_goals (
    go_wp2_with fail
    go_ret
    exact ⟨rfl, by first | exact (Below.refl _ _).drew | exact ((Below.refl _ _).drew).alloc (Nat.le_refl _) _ | exact ((Below.refl _ _).alloc (Nat.le_refl _) _).drew | exact (Below.refl _ _).alloc (Nat.le_refl _) _⟩)

set_option maxHeartbeats 4000000 in
theorem lowerWords_3 (w : World) (hG : 0 < w.heap.size) (hT : TabW w) : Calls Tryd.prog 3 #[.int .i64 3] w fun e w' => e = .returned (.bool true) ∧ Below w.heap.size w w' := by
  have HT : Hid (TabW w) := hT
  have HG : Hid (0 < w.heap.size) := hG
  clear hT hG
  go_enter Tryd.func3, Tryd.ntmps3
  go_wp2_with fail
  go_region_with (go_at_call 4; refine (words_below 3 2 rfl (by decide) w _ HG.out HT.out (by first | exact (Below.refl _ _).drew | exact ((Below.refl _ _).drew).alloc (Nat.le_refl _) _ | exact ((Below.refl _ _).alloc (Nat.le_refl _) _).drew | exact (Below.refl _ _).alloc (Nat.le_refl _) _)).mono ?_; rintro e w1 ⟨rfl, rfl⟩)
  all_goals (
    go_wp2_with fail
    go_ret
    exact ⟨rfl, by first | exact (Below.refl _ _).drew | exact ((Below.refl _ _).drew).alloc (Nat.le_refl _) _ | exact ((Below.refl _ _).alloc (Nat.le_refl _) _).drew | exact (Below.refl _ _).alloc (Nat.le_refl _) _⟩)

set_option maxHeartbeats 4000000 in
theorem lowerWords_4 (w : World) (hG : 0 < w.heap.size) (hT : TabW w) : Calls Tryd.prog 3 #[.int .i64 4] w fun e w' => e = .returned (.bool true) ∧ Below w.heap.size w w' := by
  have HT : Hid (TabW w) := hT
  have HG : Hid (0 < w.heap.size) := hG
  clear hT hG
  go_enter Tryd.func3, Tryd.ntmps3
  go_wp2_with fail
  go_region_with (go_at_call 4; refine (words_below 4 3 rfl (by decide) w _ HG.out HT.out (by first | exact (Below.refl _ _).drew | exact ((Below.refl _ _).drew).alloc (Nat.le_refl _) _ | exact ((Below.refl _ _).alloc (Nat.le_refl _) _).drew | exact (Below.refl _ _).alloc (Nat.le_refl _) _)).mono ?_; rintro e w1 ⟨rfl, rfl⟩)
  all_goals (
    go_wp2_with fail
    go_ret
    exact ⟨rfl, by first | exact (Below.refl _ _).drew | exact ((Below.refl _ _).drew).alloc (Nat.le_refl _) _ | exact ((Below.refl _ _).alloc (Nat.le_refl _) _).drew | exact (Below.refl _ _).alloc (Nat.le_refl _) _⟩)

set_option maxHeartbeats 4000000 in
theorem lowerWords_5 (w : World) (hG : 0 < w.heap.size) (hT : TabW w) : Calls Tryd.prog 3 #[.int .i64 5] w fun e w' => e = .returned (.bool true) ∧ Below w.heap.size w w' := by
  have HT : Hid (TabW w) := hT
  have HG : Hid (0 < w.heap.size) := hG
  clear hT hG
  go_enter Tryd.func3, Tryd.ntmps3
  go_wp2_with fail
  go_region_with (go_at_call 4; refine (words_below 5 1 rfl (by decide) w _ HG.out HT.out (by first | exact (Below.refl _ _).drew | exact ((Below.refl _ _).drew).alloc (Nat.le_refl _) _ | exact ((Below.refl _ _).alloc (Nat.le_refl _) _).drew | exact (Below.refl _ _).alloc (Nat.le_refl _) _)).mono ?_; rintro e w1 ⟨rfl, rfl⟩)
  all_goals (
    go_wp2_with fail
    go_ret
    exact ⟨rfl, by first | exact (Below.refl _ _).drew | exact ((Below.refl _ _).drew).alloc (Nat.le_refl _) _ | exact ((Below.refl _ _).alloc (Nat.le_refl _) _).drew | exact (Below.refl _ _).alloc (Nat.le_refl _) _⟩)

theorem lowerWords_walk (t : Int) (w : World) (hG : 0 < w.heap.size) (hT : TabW w) : Calls Tryd.prog 3 #[.int .i64 t] w fun e w' => e = .returned (.bool true) ∧ Below w.heap.size w w' := by
  by_cases h : t < 0 ∨ 5 < t
  · exact lowerWords_out t w hT h
  · have h0 : 0 ≤ t := by omega
    have h5 : t ≤ 5 := by omega
    obtain rfl | rfl | rfl | rfl | rfl | rfl : t = 0 ∨ t = 1 ∨ t = 2 ∨ t = 3 ∨ t = 4 ∨ t = 5 := by omega
    · exact lowerWords_0 w hG hT
    · exact lowerWords_1 w hG hT
    · exact lowerWords_2 w hG hT
    · exact lowerWords_3 w hG hT
    · exact lowerWords_4 w hG hT
    · exact lowerWords_5 w hG hT

theorem own : ownKnob Tryd.prog.godebug = none := by kernel_rfl
theorem laidOut : laidOutB Tryd.prog = true := by kernel_rfl
theorem tWc : (Tryd.prog.globals[0]?).map (·.type) = some 25 := by kernel_rfl

theorem lit_int {H : Type} {enc : TypeId × Value → H} {W : World} {base fuel : Nat} {spare : Nat → Bool} {held : Bool} {cs : List Value} {y : DataW H × List MemPlace} {x : Int} (h : DataW.trod enc Tryd.prog W base spare held fuel 3 cs = some y) (hy : y.1 = .lit (.int .i64 x)) : cs = [.int .i64 x] := by
  obtain ⟨s, e1, e2, _⟩ := DataW.trod_int Tryd.underlying3 h
  rw [e2] at hy
  have := DataW.lit.inj hy
  injection this with _ h2
  rw [e1, h2]

theorem arr_words {H : Type} {enc : TypeId × Value → H} {W : World} {base fuel : Nat} {spare : Nat → Bool} {held : Bool} {cs : List Value} {p : List MemPlace}
    (h : DataW.trod enc Tryd.prog W base spare held fuel 25 cs = some (.agg (wcL.map fun x => .lit (.int .i64 x)), p)) : ∀ i, i < 6 → cs[i]? = some (.int .i64 (wc i)) := by
  have c1 : Tryd.prog.cellsOf 3 = 1 := by kernel_rfl
  obtain ⟨xs, m, rfl, hx, hlen, hn, hel⟩ := DataW.trod_array Tryd.underlying25 h
  simp only [Prod.mk.injEq, DataW.agg.injEq] at hx
  have hcl : wcL.length = 6 := by decide
  have hxl : xs.length = 6 := by
    have := congrArg List.length hx.1
    simpa [hcl] using this.symm
  intro i hi
  have h1 := hel i (by omega)
  have hix : i < xs.length := by omega
  have hic : i < wcL.length := by omega
  rw [List.getElem?_eq_getElem hix, c1] at h1
  have e3 : xs[i].1 = .lit (.int .i64 wcL[i]) := by
    have h2 : (xs.map (·.1))[i]? = (wcL.map fun x => DataW.lit (H := H) (.int .i64 x))[i]? := by rw [hx.1]
    rw [List.getElem?_map, List.getElem?_map, List.getElem?_eq_getElem hix, List.getElem?_eq_getElem hic] at h2
    simpa using h2
  have h4 := lit_int h1 e3
  have g : wcL.getD i 0 = wcL[i] := by rw [List.getD_eq_getElem?_getD, List.getElem?_eq_getElem hic]; rfl
  unfold wc
  rw [g]
  have k0 : ((cs.drop (i * 1)).take 1)[0]? = some (.int .i64 wcL[i]) := by rw [h4]; rfl
  rw [List.getElem?_take_of_lt (by omega), List.getElem?_drop] at k0
  simpa using k0

theorem of_laid_words {W : World} (h : laidMetH Tryd.prog [("postern/lower.wordCounts", Rows.laid_postern_lower_wordCounts)] W) : TabW W ∧ 0 < W.heap.size := by
  rw [MakeChecks.laidMetH_plain _ _ _ (by kernel_rfl)] at h
  obtain ⟨ps, ⟨g0, t0, cs0, f0, p0, q0, hg0, ht0, hv0, hd0, _⟩, _, _⟩ := h
  obtain rfl : 0 = g0 := Option.some.inj ((show some 0 = _ by kernel_rfl).trans hg0)
  obtain rfl := Option.some.inj (tWc.symm.trans ht0)
  have hT : TabW W := fun i hi => by
    have hc := World.var?_cell hg0 hv0 i
    have h1 := arr_words (cs := cs0.toList) hd0 i hi
    rw [hc]
    simpa using h1
  exact ⟨hT, World.block_lt_of_cell? W _ (hT 0 (by decide))⟩

theorem door_met_words (os : Os) (args : Array Value) : laidMetH Tryd.prog Rows.lowerWordsRow.laid ((World.doorLaid Tryd.prog 400 os).forCall (fun _ _ => 0) ⟨#[], args, []⟩).memory :=
  laidMetH_of_parts3 (fuel := 8) (laidMet_of_run' 8 (by kernel_rfl) (by kernel_rfl)) (by kernel_rfl) (by kernel_rfl)

set_option maxRecDepth 100000 in
theorem words_lifted (os : Os) (started : os.Started) (H : Type) (enc : TypeId × Value → H) :
    ReturnsInHanded {} Tryd.checked os 3 .any (fun w args => (Rows.lowerWordsSpec.pre enc Tryd.prog Tryd.f3 [] false w args ∧ laidMetH Tryd.prog Rows.lowerWordsRow.laid w) ∧ sizedMet enc Tryd.prog Tryd.f3 (OpenSpec.ofChange Rows.lowerWordsSpec) false w args)
      (Rows.lowerWordsSpec.post enc Tryd.prog Tryd.f3 false true false false) := by
  refine returnsInHanded_of_change_and (C := Tryd.checked) (X := fun w _ => laidMetH Tryd.prog Rows.lowerWordsRow.laid w) (fun _ _ _ hh h => h.of_heap hh) own started (by kernel_rfl) Tryd.func3
    (ChangeSpec.witness_shaped (enc := enc) (C := Tryd.checked) (os := os) (X := fun w _ => laidMetH Tryd.prog Rows.lowerWordsRow.laid w) false (World.doorLaid Tryd.prog 400 os) #[.int .i64 0] 8 rfl (World.shaped_of_RefB (by kernel_rfl) (by kernel_rfl)) (by kernel_rfl) (by kernel_rfl) (by kernel_rfl) (door_met_words os _)) ?_
  intro W base args ds gs before hval0 hW _ _ hL _
  have hval : ∀ (j : Nat) t v, Tryd.f3.params[j]? = some t → args[j]? = some v → Value.okWide Tryd.prog W .any base t v := hval0
  have hW' := hW
  obtain ⟨p, q, hA0, hV, rfl, hfz, hnd⟩ := hW
  have hA : DataW.TrodAll enc Tryd.prog W 0 (fun _ => true) true Tryd.f3.params.toList args.toList ds p := hA0
  rw [Tryd.params3] at hA hval
  obtain ⟨v0, d0, rfl, rfl, h0⟩ := trodAll_one hA
  obtain ⟨rfl, rfl⟩ := trodVars_none hV
  obtain ⟨a, rfl, rfl, rfl, wa⟩ := open_int Tryd.underlying3 (hval 0 3 v0 rfl rfl) h0
  obtain ⟨ht, hG⟩ := of_laid_words hL
  refine (lowerWords_walk a W hG ht).mono fun e W' ⟨he, hw⟩ => ?_
  subst he
  have e1 : Rows.lowerWordsSpec.fn H ([.lit (.int .i64 a)] ++ []) = { results := [.lit (.bool true)], args := [.lit (.int .i64 a)] } := by simp [Rows.lowerWordsSpec]
  refine ⟨_, rfl, _, _, _, [], [], [], hW', ?_, ?_, ?_, hw.frame _, fun h => by cases h⟩
  · rw [e1]; exact trodAll_mk1 (shut_bool Tryd.underlying4 true)
  · rw [e1]; exact trodAll_mk1 (shut_int Tryd.underlying3 wa)
  · rw [e1]; rfl

theorem lowerWords_row : Rows.LowerWordsSaid :=
  OpenClaim.holds_of_wide 3 Tryd.f3 rfl rfl rfl rfl rfl rfl rfl ⟨rfl, rfl, rfl, rfl, rfl⟩ rfl rfl rfl rfl rfl (by kernel_rfl) Tryd.func3 (by kernel_rfl)
    (of_decide_eq_true (by kernel_rfl)) (by unfold Func.isWrapper; first | (rw [if_pos (by decide +kernel)]; kernel_rfl) | (rw [if_neg (by decide +kernel)]; exact ⟨rfl, rfl⟩))
    (fun os started H enc _ => words_lifted os started H enc)

theorem lowerWords_holds : Rows.LowerWordsCardSaid :=
  Claim7.holds_tied_plain_at .later [] [.data] true Rows.lowerWordsCard.stood.harness Rows.lowerWordsCard.stood.looks
    lowerWords_row (fun _ h => by cases h) (by kernel_rfl) (fun _ h => by cases h) lowerWords_row_tie rfl ⟨rfl, rfl⟩ (by kernel_rfl) rfl
    (fun f fn hf hfn => by
      obtain rfl : 3 = f := Option.some.inj ((show some 3 = _ by kernel_rfl).trans hf)
      obtain rfl : fn = Tryd.f3 := (Option.some.inj (Tryd.func3.symm.trans hfn)).symm
      exact ⟨by kernel_rfl, fun j t ht => by
        rw [Tryd.params3] at ht
        have hm : t ∈ [3] := by simpa using Array.mem_of_getElem? ht
        have hall : ([3].all fun u => !Tryd.prog.wantsStandIn u) = true := by kernel_rfl
        exact (show Tryd.prog.wantsStandIn t = false by simpa using List.all_eq_true.1 hall t hm)⟩)
    (by kernel_rfl)
#print axioms lowerWords_holds

end Go.Proofs.YtelpblpjalondaaDoor
