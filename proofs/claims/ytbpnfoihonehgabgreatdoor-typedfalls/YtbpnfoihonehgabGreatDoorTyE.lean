/-
  Names: whether they may be, where they are declared, what they are.
-/
import Derived.Test.YtbpnfoihonehgabGreatDoorTyD
namespace Go.Proofs.YtbpnfoihonehgabGreatDoor
open Go.RowKit Go.Maps
set_option linter.unusedSimpArgs false
set_option linter.unusedVariables false

def nameB (s : List UInt8) : Bool := !(s == []) && decide (s.length ≤ 12) && (longM ⟨s.toArray⟩ == s.length) && !(keywordsL.any fun o => s == o)

set_option maxHeartbeats 2000000 in
theorem isName_core (s : List UInt8) (w : World) (ht : TabRow w 2 keywordsL) (r : Bool) (HR : Hid (nameB s = r)) :
    Calls Tryz.prog 28 #[.string ⟨s.toArray⟩] w fun e w' => e = .returned (.bool r) ∧ w' = w := by
  have hsz : (⟨s.toArray⟩ : ByteArray).size = s.length := by rw [Lib.size_eq]
  have HT : Hid (_) := ht
  clear ht
  rcases h0 : (s == []) with _ | _
  · have h0n : (s != []) = true := by simp [bne, h0]
    have hpos : 0 < s.length := by
      rcases s with _ | ⟨a, l⟩
      · simp at h0
      · simp
    by_cases h12 : s.length ≤ 12
    · have h12I : (s.length : Int) ≤ 12 := by omega
      rcases hl : (((longM ⟨s.toArray⟩ : Nat) : Int) == (s.length : Int)) with _ | _
      · have HF : Hid (r = false) := by
          have e : (longM ⟨s.toArray⟩ == s.length) = false := by simp at hl ⊢; omega
          unfold Hid; rw [← HR.out, nameB, h0, e]; simp
        go_enter Tryz.func28, Tryz.ntmps28
        go_wp2_with fail
        refine (long_any _ (by omega) (by omega) _).mono ?_
        rintro e w1 ⟨rfl, rfl⟩
        go_wp2_with fail
        go_ret
        exact ⟨by rw [HF.out]; rfl, rfl⟩
      · have HF : Hid (r = !(keywordsL.any fun o => s == o)) := by
          have e : (longM ⟨s.toArray⟩ == s.length) = true := by simp at hl ⊢; omega
          unfold Hid; rw [← HR.out, nameB, h0, e]; simp [h12]
        go_enter Tryz.func28, Tryz.ntmps28
        go_wp2_with fail
        refine (long_any _ (by omega) (by omega) _).mono ?_
        rintro e w1 ⟨rfl, rfl⟩
        go_wp2_with fail
        refine (isKeyword_any s _ HT.out).mono ?_
        rintro e w2 ⟨rfl, rfl⟩
        go_wp2_with fail
        go_ret
        exact ⟨by rw [HF.out]; rfl, rfl⟩
    · have h12I : ¬ (s.length : Int) ≤ 12 := by omega
      have HF : Hid (r = false) := by unfold Hid; rw [← HR.out, nameB, h0]; simp [h12]
      go_enter Tryz.func28, Tryz.ntmps28
      go_wp2_with fail
      go_ret
      exact ⟨by rw [HF.out]; rfl, rfl⟩
  · have h0n : (s != []) = false := by simp [bne, h0]
    have HF : Hid (r = false) := by unfold Hid; rw [← HR.out, nameB, h0]; simp
    go_enter Tryz.func28, Tryz.ntmps28
    go_wp2_with fail
    go_ret
    exact ⟨by rw [HF.out]; rfl, rfl⟩

theorem isName_any (s : List UInt8) (w : World) (ht : TabRow w 2 keywordsL) :
    Calls Tryz.prog 28 #[.string ⟨s.toArray⟩] w fun e w' => e = .returned (.bool (nameB s)) ∧ w' = w := isName_core s w ht _ rfl

theorem key_of (s : List UInt8) (hs : s.length ≤ 1000000) : keyOf Tryz.prog 9 (.string ⟨s.toArray⟩) = some (.string s) := by
  have := Go.WideMaps.keyOf_string_mk (P := Tryz.prog) Tryz.underlying9 (s := ⟨s.toArray⟩) (by rw [Lib.size_eq]; simp; unfold maxLen; omega)
  simpa using this

def valOf : DataW Unit → Int
  | .lit (.int _ n) => n
  | _ => 0

/-- what a name is, in the first k scopes; else that there is none -/
def lookT (sc : List (DataW Unit)) (nm : List UInt8) : Nat → Int × Int
  | 0 => (0, 6)
  | k + 1 => if Maps.has (sc.getD k (.map [])) (.string nm) then (valOf ((sc.getD k (.map [])).atKey (.string nm) (.lit (.int .i64 0))), 0) else lookT sc nm k

theorem AllP.getD {A B : Type} {P : A → B → Prop} (db : B) : ∀ {us : List A} {vs : List B}, AllP P us vs → ∀ i, i < vs.length → ∃ a, us[i]? = some a ∧ P a (vs.getD i db)
  | [], [], _, i, h => by simp at h
  | a :: us, b :: vs, ⟨x, y⟩, 0, _ => ⟨a, rfl, x⟩
  | a :: us, b :: vs, ⟨x, y⟩, i + 1, h => by
    obtain ⟨a', h1, h2⟩ := AllP.getD db y i (by simpa using h)
    exact ⟨a', by simpa using h1, by simpa using h2⟩
  | [], _ :: _, x, _, _ => x.elim
  | _ :: _, [], x, _, _ => x.elim

theorem Chk.scopes {w : World} {B cb : Nat} {X : List Nat} {fv : Value} {pl : DataW Unit} {res : Int} {sc : List (DataW Unit)} {d l : Nat} (h : Chk w B cb X fv pl res sc d l) :
    ∃ av cv, w.cell? ⟨cb, 3, none⟩ = some (.slice av sc.length cv) ∧ ∀ i, i < sc.length → ∃ g m, av = some ⟨g, 0, none⟩ ∧ w.cell? ⟨g, i, none⟩ = some (.map (some m)) ∧ MapAt w m (sc.getD i (.map [])) := by
  obtain ⟨mb, sv, ms, h1, h2, h3, h4, h5, h6, h7⟩ := h.ex
  obtain ⟨av, cv, rfl⟩ := ownsRow_slice h4
  refine ⟨av, cv, by simp [World.cell?, h1], fun i hi => ?_⟩
  obtain ⟨m, hm, hD⟩ := h6.getD (.map []) i hi
  rcases h4.2 with ⟨_, h0⟩ | ⟨g, cap, cc, hv, hg, hh, hn, hc, hs, ht⟩
  · omega
  · cases hv
    refine ⟨g, m, rfl, ?_, hD.2⟩
    have h11 : (cc.toList.take (sc.length * 1))[i]? = (ms.map fun m => Value.map (some m))[i]? := by rw [ht]
    rw [List.getElem?_take_of_lt (by omega), List.getElem?_map, hm] at h11
    simp only [World.cell?, hh]
    simpa using h11

set_option maxHeartbeats 2000000 in
theorem declared_any (w : World) (B cb : Nat) (X : List Nat) (fv : Value) (pl : DataW Unit) (res : Int) (sc : List (DataW Unit)) (d l : Nat) (nm : List UInt8) (h : Chk w B cb X fv pl res sc d l) (hnm : nm.length ≤ 1000000) :
    Calls Tryz.prog 107 #[.pointer (some ⟨cb, 0, none⟩), .string ⟨nm.toArray⟩] w fun e w' => e = tyE (lookT sc nm sc.length) ∧ w' = w := by
  obtain ⟨av, cv, c3, hat⟩ := h.scopes
  have hsl := h.sl
  have HAT : Hid (_) := hat
  have HKEY : Hid (_) := key_of nm hnm
  obtain ⟨r, hr⟩ : ∃ r, r = lookT sc nm sc.length := ⟨_, rfl⟩
  rw [← hr]
  have HR : Hid (r = lookT sc nm sc.length) := hr
  clear hat h hr
  go_enter Tryz.func107, Tryz.ntmps107
  go_wp2_with fail
  go_loopg [6] sc.length (fun g s6 wr => s6 = .int .i64 ((g : Int) - 1) ∧ wr = w ∧ g ≤ sc.length ∧ Hid (r = lookT sc nm g))
  case atStart => exact ⟨rfl, rfl, Nat.le_refl _, HR⟩
  case round =>
    obtain ⟨rfl, rfl, hg, HN⟩ := hrel
    cases gk with
    | zero =>
      go_wp2_with fail
      go_ret2
      exact ⟨by rw [HN.out]; rfl, rfl⟩
    | succ g =>
      obtain ⟨gb, m, rfl, cm, hmap⟩ := HAT.out g (by omega)
      have hgI : ((g + 1 : Nat) : Int) - 1 = (g : Int) := by omega
      have hglt : (g : Int) < (sc.length : Int) := by omega
      have hg0 : (0 : Int) ≤ (g : Int) := by omega
      rw [hgI]
      have HM : Hid (MapAt wr m (sc.getD g (.map []))) := hmap
      have HN2 : Hid (r = if Maps.has (sc.getD g (.map [])) (.string nm) then (valOf ((sc.getD g (.map [])).atKey (.string nm) (.lit (.int .i64 0))), 0) else lookT sc nm g) := HN.out
      generalize sc.getD g (.map []) = D at *
      clear hmap hgI
      go_wp2_with (at_lookup; refine wpList_lookup_own_ok_int _ rfl _ _ 52 rfl 9 3 .i64 lawS Tryz.underlying52 Tryz.underlying3 (zeroI _) m _ D rfl HM.out _ _ rfl HKEY.out ?_)
      intro c hc hwc
      rcases hh : Maps.has D (.string nm) with _ | _
      · rw [hh] at HN2
        clear hc hwc
        go_wp2_with fail
        go_roundg g
        case measure => omega
        case rel => exact ⟨by go_num, rfl, by omega, HN2⟩
      · rw [hh, hc] at HN2
        clear hc hwc
        go_wp2_with fail
        go_ret2
        exact ⟨by rw [HN2.out]; rfl, rfl⟩

end Go.Proofs.YtbpnfoihonehgabGreatDoor
