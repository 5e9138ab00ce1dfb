/-
  Lists in round brackets: listed, whatever an item is.
-/
import Derived.Test.YtgifghcaeoinoaaDoorRdE
import Derived.Deep.LoopGhost
namespace Go.Proofs.YtgifghcaeoinoaaDoor
open Go.RowKit
set_option linter.unusedSimpArgs false
set_option linter.unusedVariables false

/-- what reading one item leaves -/
def ItemPost {A : Type} (b bp cap T : Nat) (ps : List Tok) (q : RS) (I : World → List A → Prop) (Bd : World → Prop) (acc : List A) (r : Sum (Int × Int) (A × Nat)) (e : Ending) (w' : World) : Prop := match r with
  | .inl k => e = .returned (.bool false) ∧ ∃ n', Rdr w' b bp cap T ps ⟨n', q.depth, k.1, k.2⟩ ∧ Bd w'
  | .inr x => e = .returned (.bool true) ∧ Rdr w' b bp cap T ps { q with next := x.2 } ∧ I w' (acc ++ [x.1])

/-- what reading all of them leaves -/
def ListPost {A : Type} (b bp cap T : Nat) (ps : List Tok) (q : RS) (I : World → List A → Prop) (Bd : World → Prop) (r : Sum (Int × Int) (List A × Nat)) (e : Ending) (w' : World) : Prop := match r with
  | .inl k => e = .returned (.bool false) ∧ ∃ n', Rdr w' b bp cap T ps ⟨n', q.depth, k.1, k.2⟩ ∧ Bd w'
  | .inr x => e = .returned (.bool true) ∧ Rdr w' b bp cap T ps { q with next := x.2 } ∧ I w' x.1

set_option maxHeartbeats 1000000 in
theorem listed_any {A : Type} {ps : List Tok} {item : Nat → R A} (b bp cap T d f : Nat) (F : FuncId) (caps : Array Value) (I : World → List A → Prop) (Bd : World → Prop)
    (hcall : ∀ w, (callFunc F caps).run Tryd.prog w = .ok (.enter F caps) w)
    (hitem : ∀ (w : World) (q : RS) (acc : List A) (r : Sum (Int × Int) (A × Nat)), acc.length < f → q.depth = d → Rdr w b bp cap T ps q → I w acc → item q.next = some r → Calls Tryd.prog F caps w (ItemPost b bp cap T ps q I Bd acc r))
    (hkeep : ∀ (w w' : World) (acc : List A), I w acc → Kept b w w' → I w' acc) (hbad : ∀ (w : World) (acc : List A), I w acc → Bd w)
    (w : World) (q : RS) (r : Sum (Int × Int) (List A × Nat)) (hd : q.depth = d) (h : Rdr w b bp cap T ps q) (hI : I w []) (hr : listM ps item f q.next = some r) :
    Calls Tryd.prog 77 #[.pointer (some ⟨b, 0, none⟩), .func (.func F) #[] caps] w (ListPost b bp cap T ps q I Bd r) := by
  have HI : Hid (∀ (w : World) (q : RS) (acc : List A) (r : Sum (Int × Int) (A × Nat)), acc.length < f → q.depth = d → Rdr w b bp cap T ps q → I w acc → item q.next = some r → Calls Tryd.prog F caps w (ItemPost b bp cap T ps q I Bd acc r)) := hitem
  have HK : Hid (∀ (w w' : World) (acc : List A), I w acc → Kept b w w' → I w' acc) := hkeep
  have HB : Hid (∀ (w : World) (acc : List A), I w acc → Bd w) := hbad
  have HD : Hid (q.depth = d) := hd
  clear hitem hkeep hbad hd
  unfold listM at hr
  rcases bindR_some hr with ⟨k, h1, rfl⟩ | ⟨u, n1, h1, h2⟩
  · rcases needM_some h1 with ⟨hT, h3⟩ | ⟨hT, h3⟩
    · cases h3
    · cases h3
      clear hr h1
      go_enter Tryd.func77, Tryd.ntmps77
      go_wp2_with fail
      refine (mark_no _ _ _ _ _ _ _ _ h hT).mono ?_
      rintro e w1 ⟨rfl, h1, k1⟩
      go_wp2_with fail
      go_ret
      exact ⟨rfl, _, h1, HB.out _ _ (HK.out _ _ _ hI k1)⟩
  · rcases needM_some h1 with ⟨hT, h3⟩ | ⟨hT, h3⟩
    · cases h3
      clear hr h1
      by_cases hT2 : isT (cur ps (q.next + 1)) 5 [41] = true
      · rw [if_pos hT2] at h2
        cases h2
        go_enter Tryd.func77, Tryd.ntmps77
        go_wp2_with fail
        refine (mark_yes _ _ _ _ _ _ _ _ h hT).mono ?_
        rintro e w1 ⟨rfl, h1, k1⟩
        go_wp2_with fail
        refine (skip_yes _ _ _ _ _ _ _ _ _ h1 rfl hT2).mono ?_
        rintro e w2 ⟨rfl, h2, k2⟩
        go_wp2_with fail
        go_ret
        exact ⟨rfl, h2, HK.out _ _ _ (HK.out _ _ _ hI k1) k2⟩
      · rw [if_neg hT2] at h2
        have hT2' : isT (cur ps (q.next + 1)) 5 [41] = false := by simpa using hT2
        clear hT2
        have H2 : Hid (listLoop ps item f [] (q.next + 1) = some r) := h2
        clear h2
        go_enter Tryd.func77, Tryd.ntmps77
        go_wp2_with fail
        refine (mark_yes _ _ _ _ _ _ _ _ h hT).mono ?_
        rintro e w1 ⟨rfl, h1, k1⟩
        go_wp2_with fail
        refine (skip_no _ _ _ _ _ _ _ _ _ h1 hT2').mono ?_
        rintro e w2 ⟨rfl, h2, k2⟩
        go_wp2_with fail
        go_loopg [] f (fun g wr => ∃ (n : Nat) (acc : List A), Rdr wr b bp cap T ps { q with next := n } ∧ I wr acc ∧ Aside (listLoop ps item g acc n = some r) ∧ acc.length + g = f)
        case atStart => exact ⟨_, [], h2, HK.out _ _ _ (HK.out _ _ _ hI k1) k2, H2, by simp⟩
        case round =>
          obtain ⟨n, acc, hR, hIw, hA, hgf⟩ := hrel
          cases gk with
          | zero => cases hA.out
          | succ g =>
            have hL := hA.out
            unfold listLoop at hL
            clear hA
            rcases bindR_some hL with ⟨k, h5, rfl⟩ | ⟨x, n5, h5, h6⟩
            · clear hL
              go_wp2_with fail
              refine (HI.out _ { q with next := n } _ _ (by omega) HD.out hR hIw h5).mono ?_
              rintro e w3 ⟨rfl, n', h3, h4⟩
              go_wp2_with fail
              go_ret
              exact ⟨rfl, n', h3, h4⟩
            · clear hL
              by_cases hT5 : isT (cur ps n5) 5 [41] = true
              · rw [if_pos hT5] at h6
                cases h6
                go_wp2_with fail
                refine (HI.out _ { q with next := n } _ _ (by omega) HD.out hR hIw h5).mono ?_
                rintro e w3 ⟨rfl, h3, h4⟩
                go_wp2_with fail
                refine (skip_yes _ _ _ _ _ _ _ _ _ h3 rfl hT5).mono ?_
                rintro e w4 ⟨rfl, h4', k4⟩
                go_wp2_with fail
                go_ret
                exact ⟨rfl, h4', HK.out _ _ _ h4 k4⟩
              · rw [if_neg hT5] at h6
                have hT5' : isT (cur ps n5) 5 [41] = false := by simpa using hT5
                clear hT5
                rcases bindR_some h6 with ⟨k, h7, rfl⟩ | ⟨u, n7, h7, h8⟩
                · rcases needM_some h7 with ⟨hT7, h9⟩ | ⟨hT7, h9⟩
                  · cases h9
                  · cases h9
                    clear h6 h7
                    go_wp2_with fail
                    refine (HI.out _ { q with next := n } _ _ (by omega) HD.out hR hIw h5).mono ?_
                    rintro e w3 ⟨rfl, h3, h4⟩
                    go_wp2_with fail
                    refine (skip_no _ _ _ _ _ _ _ _ _ h3 hT5').mono ?_
                    rintro e w4 ⟨rfl, h4', k4⟩
                    go_wp2_with fail
                    refine (mark_no _ _ _ _ _ _ _ _ h4' hT7).mono ?_
                    rintro e w5 ⟨rfl, h5', k5⟩
                    go_wp2_with fail
                    go_ret
                    exact ⟨rfl, _, h5', HB.out _ _ (HK.out _ _ _ (HK.out _ _ _ h4 k4) k5)⟩
                · rcases needM_some h7 with ⟨hT7, h9⟩ | ⟨hT7, h9⟩
                  · cases h9
                    clear h6 h7
                    have H8 : Hid (listLoop ps item g (acc ++ [x]) (n5 + 1) = some r) := h8
                    clear h8
                    go_wp2_with fail
                    refine (HI.out _ { q with next := n } _ _ (by omega) HD.out hR hIw h5).mono ?_
                    rintro e w3 ⟨rfl, h3, h4⟩
                    go_wp2_with fail
                    refine (skip_no _ _ _ _ _ _ _ _ _ h3 hT5').mono ?_
                    rintro e w4 ⟨rfl, h4', k4⟩
                    go_wp2_with fail
                    refine (mark_yes _ _ _ _ _ _ _ _ h4' hT7).mono ?_
                    rintro e w5 ⟨rfl, h5', k5⟩
                    go_wp2_with fail
                    go_roundg g
                    case measure => omega
                    case rel => exact ⟨_, _, h5', HK.out _ _ _ (HK.out _ _ _ h4 k4) k5, H8, by simp; omega⟩
                  · cases h9
    · cases h3

end Go.Proofs.YtgifghcaeoinoaaDoor
