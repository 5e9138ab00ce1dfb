/-
  Maps of package sound: the places of functions, by their names; numbers that were met.
-/
import Derived.Test.YthlngmknifpbjaaDoorJSsE
import Derived.Test.YthlngmknifpbjaaDoorJSoE
import Derived.Test.YthlngmknifpbjaaDoorJSbO2
import Derived.Maps.Own
import Derived.Maps.OwnOps
import Derived.Maps.OwnSet
import Derived.Maps.Views
namespace Go.Proofs.YthlngmknifpbjaaDoor
section
open Go.RowKit
set_option linter.unusedSimpArgs false
set_option linter.unusedVariables false

theorem cells14 {w : World} {x : Nat} {T : TypeId} {f : Nat × Nat} {c0 c1 c2 c3 c4 c5 c6 c7 c8 c9 c10 c11 c12 c13 : Value} (h : w.heap[x]? = some (.cells #[c0, c1, c2, c3, c4, c5, c6, c7, c8, c9, c10, c11, c12, c13] T f)) :
    w.cell? ⟨x, 0, none⟩ = some c0 ∧ w.cell? ⟨x, 1, none⟩ = some c1 ∧ w.cell? ⟨x, 2, none⟩ = some c2 ∧ w.cell? ⟨x, 3, none⟩ = some c3 ∧ w.cell? ⟨x, 4, none⟩ = some c4 ∧ w.cell? ⟨x, 5, none⟩ = some c5 ∧ w.cell? ⟨x, 6, none⟩ = some c6 ∧ w.cell? ⟨x, 7, none⟩ = some c7 ∧ w.cell? ⟨x, 8, none⟩ = some c8 ∧ w.cell? ⟨x, 9, none⟩ = some c9 ∧ w.cell? ⟨x, 10, none⟩ = some c10 ∧ w.cell? ⟨x, 11, none⟩ = some c11 ∧ w.cell? ⟨x, 12, none⟩ = some c12 ∧ w.cell? ⟨x, 13, none⟩ = some c13 := by
  simp [World.cell?, h]

/-- the checker: code, flow, where variables are set -/
def kobj (c : Cod) (vb f0 f1 f2 f3 f4 f5 f6 : Value) (mp : Nat) : Obj :=
  .cells #[.string ⟨c.name.toArray⟩, .int .i64 c.params, .int .i64 c.results, .int .i64 c.vars, .int .i64 c.slots, vb, f0, f1, f2, f3, f4, f5, f6, .map (some mp)] 48

theorem wrong_any (x vars : Int) (kb K : Nat) (w : World) (hk : w.cell? ⟨kb, 0, none⟩ = some (.pointer (some ⟨K, 0, none⟩))) (hv : w.cell? ⟨K, 3, none⟩ = some (.int .i64 vars)) :
    Calls Tryd.prog 32 #[.int .i64 x, .pointer (some ⟨kb, 0, none⟩)] w fun e w' => e = .returned (.bool (!(decide (0 ≤ x) && decide (x < vars)))) ∧ w' = w := by
  by_cases h1 : x < 0
  · have h1' : ¬ (0 ≤ x) := by omega
    go_enter Tryd.func32, Tryd.ntmps32
    go_wp2_with fail
    go_ret
    exact ⟨by simp [h1'], rfl⟩
  · have h1' : 0 ≤ x := by omega
    by_cases h2 : x ≥ vars
    · have h2' : ¬ (x < vars) := by omega
      go_enter Tryd.func32, Tryd.ntmps32
      go_wp2_with fail
      go_ret
      exact ⟨by simp [h2', h1'], rfl⟩
    · have h2' : x < vars := by omega
      go_enter Tryd.func32, Tryd.ntmps32
      go_wp2_with fail
      go_ret
      exact ⟨by simp [h2', h1'], rfl⟩

set_option maxHeartbeats 2000000 in
theorem idxWrong_any (vars : Int) (kb K B : Nat) (v : Value) (l : List Int) (w : World) (hk : w.cell? ⟨kb, 0, none⟩ = some (.pointer (some ⟨K, 0, none⟩))) (hv : w.cell? ⟨K, 3, none⟩ = some (.int .i64 vars)) (hl : Nums B w v l) :
    Calls Tryd.prog 49 #[v, .func (.func 32) #[] #[.pointer (some ⟨kb, 0, none⟩)]] w fun e w' => (∃ r : Int, e = .returned (.int .i64 r) ∧ decide (r ≥ 0) = !belowB vars l) ∧ w' = w := by
  obtain ⟨a, c, rfl⟩ := Lies.slice hl
  have hlm := hl.len
  unfold maxLen at hlm
  have HL : Hid (Nums B w (.slice a l.length c) l) := hl
  have HK : Hid (_) := hk
  have HV : Hid (_) := hv
  clear hl hk hv
  go_enter Tryd.func49, Tryd.ntmps49
  go_wp2_with fail
  go_loopg [8] l.length (fun g s8 wr => ∃ i : Nat, s8 = .int .i64 (i : Nat) ∧ i + g = l.length ∧ wr = w ∧ Hid (∀ j x, j < i → l[j]? = some x → (decide (0 ≤ x) && decide (x < vars)) = true))
  case atStart => exact ⟨0, rfl, by omega, rfl, fun j x hj => absurd hj (by omega)⟩
  case round =>
    obtain ⟨i, rfl, hi, rfl, HJ⟩ := hrel
    cases gk with
    | zero =>
      have hlt : ¬ (i : Int) < (l.length : Int) := by omega
      have HA : Hid (belowB vars l = true) := all_true fun j x hx => HJ.out j x (by have := (List.getElem?_eq_some_iff.1 hx).1; omega) hx
      go_wp2_with fail
      go_ret
      exact ⟨⟨_, rfl, by rw [HA.out]; rfl⟩, rfl⟩
    | succ g =>
      have hlt : (i : Int) < (l.length : Int) := by omega
      have hilt : i < l.length := by omega
      have hget : l[i]? = some l[i] := List.getElem?_eq_getElem hilt
      generalize l[i] = x at hget
      obtain ⟨ga, o, cs, rfl, hgB, hcs, hP, hcell⟩ := Lies.at HL.out hget
      obtain ⟨rfl, hx⟩ := hP
      have q0 := hcell 0 (by decide)
      simp at q0
      have HG : Hid (_) := hget
      clear hcell hget hcs
      go_wp2_with fail
      refine (wrong_any x vars kb K _ HK.out HV.out).mono ?_
      rintro e w1 ⟨rfl, hw1⟩
      have hw1' := hw1.symm
      subst hw1'
      rcases hb : (decide (0 ≤ x) && decide (x < vars)) with _ | _
      · have HA : Hid (belowB vars l = false) := all_false HG.out hb
        go_wp2_with fail
        go_ret
        exact ⟨⟨_, rfl, by rw [HA.out]; simp⟩, rfl⟩
      · go_wp2_with fail
        go_roundg g
        case measure => omega
        case rel =>
          refine ⟨i + 1, by go_num, by omega, rfl, fun j y hj hy => ?_⟩
          rcases Nat.lt_or_ge j i with h | h
          · exact HJ.out j y h hy
          · have : j = i := by omega
            subst this
            rw [HG.out] at hy
            cases hy
            exact hb

set_option maxHeartbeats 1000000 in
theorem hasWrong_any (vars : Int) (kb K B : Nat) (v : Value) (l : List Int) (w : World) (hk : w.cell? ⟨kb, 0, none⟩ = some (.pointer (some ⟨K, 0, none⟩))) (hv : w.cell? ⟨K, 3, none⟩ = some (.int .i64 vars)) (hl : Nums B w v l) :
    Calls Tryd.prog 33 #[v, .func (.func 32) #[] #[.pointer (some ⟨kb, 0, none⟩)]] w fun e w' => e = .returned (.bool (!belowB vars l)) ∧ w' = w := by
  have HL : Hid (_) := hl
  have HK : Hid (_) := hk
  have HV : Hid (_) := hv
  clear hl hk hv
  go_enter Tryd.func33, Tryd.ntmps33
  go_wp2_with fail
  refine (idxWrong_any vars kb K B v l _ HK.out HV.out HL.out).mono ?_
  rintro e w1 ⟨⟨r, rfl, hr⟩, hw1⟩
  have hw1' := hw1.symm
  subst hw1'
  have HR : Hid (_) := hr
  clear hr
  go_wp2_with fail
  go_ret
  exact ⟨by rw [← HR.out]; rfl, rfl⟩
end

section
open Go.RowKit Go.Maps
set_option linter.unusedSimpArgs false
set_option linter.unusedVariables false

theorem lawS : Keyed Tryd.prog 9 := string_keyed Tryd.underlying9
theorem lawI : Keyed Tryd.prog 3 := int_keyed Tryd.underlying3
theorem zeroI (w : World) : (zeroValue 3).run Tryd.prog w = .ok (.int .i64 0) w := by kernel_rfl

/-- block m is a map that reads as D -/
def MapAt (w : World) (m : Nat) (D : DataW Unit) : Prop := w.ownsMap Tryd.prog 9 (plainElem Tryd.prog 3) m (Maps.size D) D

theorem own_tight {w : World} {P : Program} {k : TypeId} {R : Value → Option (DataW Unit × List MemPlace)} {b n : Nat} {D : DataW Unit} (h : w.ownsMap P k R b n D) : w.ownsMap P k R b (Maps.size D) D := by
  obtain ⟨es, clock, hb, F, hs, rfl⟩ := h
  refine ⟨es, clock, hb, F, ?_, rfl⟩
  rw [Maps.size_eq, length_read]
  exact Nat.le_refl _

theorem MapAt.lt {w : World} {m : Nat} {D : DataW Unit} (h : MapAt w m D) : m < w.heap.size := World.ownsMap.lt h

theorem MapAt.same {w w' : World} {m : Nat} {D : DataW Unit} (h : MapAt w m D) (he : w'.heap[m]? = w.heap[m]?) : MapAt w' m D := by
  obtain ⟨es, clock, hb, r⟩ := h
  exact ⟨es, clock, by rw [he]; exact hb, r⟩

theorem mapAt_made (w : World) : MapAt (w.alloc (.map #[] 0)) w.heap.size (.map []) := own_tight (World.ownsMap_made (H := Unit) w Tryd.prog 9 (plainElem Tryd.prog 3))

theorem key_of (s : List UInt8) (hs : s.length ≤ maxLen) : keyOf Tryd.prog 9 (.string ⟨s.toArray⟩) = some (.string s) := by
  have := Go.WideMaps.keyOf_string_mk (P := Tryd.prog) Tryd.underlying9 (s := ⟨s.toArray⟩) (by
    have : (⟨s.toArray⟩ : ByteArray).size = s.length := by simp [ByteArray.size]
    rw [this]; exact hs)
  simpa using this

def valOf : DataW Unit → Int
  | .lit (.int _ n) => n
  | _ => 0

theorem keyS (s : List UInt8) : WideAt.IsKeyLit (.string s) := trivial
theorem keyN (n : Int) : WideAt.IsKeyLit (.int .i64 n) := trivial

/-- the places, from the i'th function on -/
def plD : Nat → DataW Unit → List Cod → DataW Unit
  | _, D, [] => D
  | i, D, c :: cs => plD (i + 1) (if Maps.has D (.string c.name) then D else D.put (.string c.name) (.lit (.int .i64 (i : Int)))) cs

theorem plD_keep (s : List UInt8) : ∀ (cs : List Cod) (i : Nat) (D : DataW Unit), Maps.has D (.string s) = true → Maps.has (plD i D cs) (.string s) = true ∧ ∀ z, (plD i D cs).atKey (.string s) z = D.atKey (.string s) z
  | [], i, D, h => ⟨h, fun _ => rfl⟩
  | c :: cs, i, D, h => by
    unfold plD
    by_cases hc : Maps.has D (.string c.name) = true
    · rw [if_pos hc]; exact plD_keep s cs _ D h
    · rw [if_neg hc]
      have hne : (Lit.string s) ≠ .string c.name := fun e => hc (e ▸ h)
      have h2 := plD_keep s cs (i + 1) (D.put (.string c.name) (.lit (.int .i64 (i : Int)))) (by rw [has_put_other hne]; exact h)
      exact ⟨h2.1, fun z => by rw [h2.2 z, atKey_put_other hne]⟩

theorem plD_look (s : List UInt8) : ∀ (cs : List Cod) (i : Nat) (D : DataW Unit), IsMap D → Maps.has D (.string s) = false →
    (cs.findIdx? (fun c => c.name == s) = none → Maps.has (plD i D cs) (.string s) = false) ∧
    (∀ k, cs.findIdx? (fun c => c.name == s) = some k → Maps.has (plD i D cs) (.string s) = true ∧ ∀ z, (plD i D cs).atKey (.string s) z = .lit (.int .i64 ((i + k : Nat) : Int)))
  | [], i, D, hD, h => ⟨fun _ => h, fun k hk => by simp at hk⟩
  | c :: cs, i, D, hD, h => by
    unfold plD
    rw [List.findIdx?_cons]
    rcases hc : (c.name == s) with _ | _
    · have hne : (Lit.string s) ≠ .string c.name := fun e => by
        injection e with e
        subst e
        simp at hc
      simp only [Bool.false_eq_true, if_false]
      by_cases hh : Maps.has D (.string c.name) = true
      · rw [if_pos hh]
        obtain ⟨h1, h2⟩ := plD_look s cs (i + 1) D hD h
        refine ⟨fun hn => h1 (by simpa using hn), fun k hk => ?_⟩
        obtain ⟨k', hk', rfl⟩ := Option.map_eq_some_iff.1 hk
        have := h2 k' hk'
        rw [show i + (k' + 1) = i + 1 + k' by omega]
        exact this
      · rw [if_neg hh]
        obtain ⟨h1, h2⟩ := plD_look s cs (i + 1) (D.put (.string c.name) (.lit (.int .i64 (i : Int)))) (hD.put _ _) (by rw [has_put_other hne]; exact h)
        refine ⟨fun hn => h1 (by simpa using hn), fun k hk => ?_⟩
        obtain ⟨k', hk', rfl⟩ := Option.map_eq_some_iff.1 hk
        have := h2 k' hk'
        rw [show i + (k' + 1) = i + 1 + k' by omega]
        exact this
    · have he : c.name = s := by simpa using hc
      rw [he, h]
      simp only [Bool.false_eq_true, if_false, if_true]
      refine ⟨fun hn => by simp at hn, fun k hk => ?_⟩
      simp at hk
      subst hk
      obtain ⟨h1, h2⟩ := plD_keep s cs (i + 1) (D.put (.string s) (.lit (.int .i64 (i : Int)))) (has_put_same hD (keyS _) _)
      exact ⟨h1, fun z => by rw [h2 z, atKey_put_same hD (keyS _)]; rfl⟩

theorem plD_tidy : ∀ (cs : List Cod) (i : Nat) (D : DataW Unit), Tidy D → Tidy (plD i D cs) ∧ Maps.size (plD i D cs) ≤ Maps.size D + cs.length
  | [], i, D, h => ⟨h, Nat.le_refl _⟩
  | c :: cs, i, D, h => by
    unfold plD
    by_cases hh : Maps.has D (.string c.name) = true
    · rw [if_pos hh]
      obtain ⟨h1, h2⟩ := plD_tidy cs (i + 1) D h
      exact ⟨h1, by simp; omega⟩
    · rw [if_neg hh]
      obtain ⟨h1, h2⟩ := plD_tidy cs (i + 1) (D.put (.string c.name) (.lit (.int .i64 (i : Int)))) (h.put (keyS _) _)
      rw [size_put h, if_neg hh] at h2
      exact ⟨h1, by simp; omega⟩


theorem plD_size_eq : ∀ (cs : List Cod) (i : Nat) (D : DataW Unit), Tidy D → dupN cs = false → (∀ c ∈ cs, Maps.has D (.string c.name) = false) → Maps.size (plD i D cs) = Maps.size D + cs.length
  | [], i, D, h, _, _ => rfl
  | c :: cs, i, D, h, hd, hh => by
    unfold plD
    have hc := hh c (by simp)
    rw [hc]
    simp only [Bool.false_eq_true, if_false]
    simp only [dupN, Bool.or_eq_false_iff, List.any_eq_false] at hd
    rw [plD_size_eq cs (i + 1) _ (h.put (keyS _) _) hd.2 (fun d hd' => by
      have hne : (Lit.string d.name) ≠ .string c.name := fun e => by
        injection e with e
        exact hd.1 d hd' (by simp [e])
      rw [has_put_other hne]
      exact hh d (by simp [hd'])), size_put h, hc]
    simp
    omega

theorem plD_size_lt : ∀ (cs : List Cod) (i : Nat) (D : DataW Unit), Tidy D → (dupN cs = true ∨ ∃ c ∈ cs, Maps.has D (.string c.name) = true) → Maps.size (plD i D cs) < Maps.size D + cs.length
  | [], i, D, h, hh => by simp [dupN] at hh
  | c :: cs, i, D, h, hh => by
    unfold plD
    rcases hc : Maps.has D (.string c.name) with _ | _
    · simp only [Bool.false_eq_true, if_false]
      have := plD_size_lt cs (i + 1) (D.put (.string c.name) (.lit (.int .i64 (i : Int)))) (h.put (keyS _) _) (by
        rcases hh with hh | ⟨d, hd, hD⟩
        · simp only [dupN, Bool.or_eq_true, List.any_eq_true] at hh
          rcases hh with ⟨d, hd, he⟩ | hh
          · refine .inr ⟨d, hd, ?_⟩
            have he : d.name = c.name := by simpa using he
            rw [he]
            exact has_put_same h.isMap (keyS _) _
          · exact .inl hh
        · rcases List.mem_cons.1 hd with rfl | hd
          · rw [hc] at hD; cases hD
          · refine .inr ⟨d, hd, ?_⟩
            by_cases hne : (Lit.string d.name) = .string c.name
            · rw [hne]; exact has_put_same h.isMap (keyS _) _
            · rw [has_put_other hne]; exact hD)
      rw [size_put h, hc] at this
      simp at this ⊢
      omega
    · simp only [if_true]
      have := (plD_tidy cs (i + 1) D h).2
      simp
      omega

/-- numbers that were met -/
def foldU (D : DataW Unit) (xs : List Int) : DataW Unit := xs.foldl (fun m x => m.put (.int .i64 x) (.agg [])) D

theorem foldU_le : ∀ (xs : List Int) (D : DataW Unit), Tidy D → Maps.size (foldU D xs) ≤ Maps.size D + xs.length
  | [], D, h => Nat.le_refl _
  | x :: xs, D, h => by
    have h1 := foldU_le xs (D.put (.int .i64 x) (.agg [])) (h.put (keyN _) _)
    rw [size_put h] at h1
    show Maps.size (foldU (D.put (.int .i64 x) (.agg [])) xs) ≤ _
    split at h1 <;> simp <;> omega

theorem foldU_eq : ∀ (xs : List Int) (D : DataW Unit), Tidy D → twiceB xs = false → (∀ x ∈ xs, Maps.has D (.int .i64 x) = false) → Maps.size (foldU D xs) = Maps.size D + xs.length
  | [], D, h, _, _ => rfl
  | x :: xs, D, h, hd, hh => by
    have hc := hh x (by simp)
    simp only [twiceB, Bool.or_eq_false_iff] at hd
    have h1 := foldU_eq xs (D.put (.int .i64 x) (.agg [])) (h.put (keyN _) _) hd.2 (fun d hd' => by
      have hne : (Lit.int .i64 d) ≠ .int .i64 x := fun e => by
        injection e with _ e
        subst e
        simp at hd
        exact hd.1 hd'
      rw [has_put_other hne]
      exact hh d (by simp [hd']))
    rw [size_put h, hc] at h1
    show Maps.size (foldU (D.put (.int .i64 x) (.agg [])) xs) = _
    rw [h1]
    simp
    omega

theorem foldU_lt : ∀ (xs : List Int) (D : DataW Unit), Tidy D → (twiceB xs = true ∨ ∃ x ∈ xs, Maps.has D (.int .i64 x) = true) → Maps.size (foldU D xs) < Maps.size D + xs.length
  | [], D, h, hh => by simp [twiceB] at hh
  | x :: xs, D, h, hh => by
    show Maps.size (foldU (D.put (.int .i64 x) (.agg [])) xs) < _
    rcases hc : Maps.has D (.int .i64 x) with _ | _
    · have := foldU_lt xs (D.put (.int .i64 x) (.agg [])) (h.put (keyN _) _) (by
        rcases hh with hh | ⟨d, hd, hD⟩
        · simp only [twiceB, Bool.or_eq_true] at hh
          rcases hh with hh | hh
          · exact .inr ⟨x, by simpa using hh, has_put_same h.isMap (keyN _) _⟩
          · exact .inl hh
        · rcases List.mem_cons.1 hd with rfl | hd
          · rw [hc] at hD; cases hD
          · refine .inr ⟨d, hd, ?_⟩
            by_cases hne : (Lit.int .i64 d) = .int .i64 x
            · rw [hne]; exact has_put_same h.isMap (keyN _) _
            · rw [has_put_other hne]; exact hD)
      rw [size_put h, hc] at this
      simp at this ⊢
      omega
    · have := foldU_le xs (D.put (.int .i64 x) (.agg [])) (h.put (keyN _) _)
      rw [size_put h, hc] at this
      simp at this ⊢
      omega

theorem twice_size (xs : List Int) : decide ((Maps.size (foldU (.map []) xs) : Int) < (xs.length : Int)) = twiceB xs := by
  rcases h : twiceB xs with _ | _
  · have h1 := foldU_eq xs (.map []) tidy_empty h (fun x _ => rfl)
    have h2 : Maps.size (DataW.map [] : DataW Unit) = 0 := rfl
    simp
    omega
  · have h1 := foldU_lt xs (.map []) tidy_empty (.inl h)
    have h2 : Maps.size (DataW.map [] : DataW Unit) = 0 := rfl
    simp
    omega

theorem foldU_snoc (D : DataW Unit) (xs : List Int) (x : Int) : foldU D (xs ++ [x]) = (foldU D xs).put (.int .i64 x) (.agg []) := by simp [foldU, List.foldl_append]
end

end Go.Proofs.YthlngmknifpbjaaDoor
