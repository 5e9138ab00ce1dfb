/-
  A name is declared; a variable of some types is asked for.
-/
import Derived.Test.YtbpnfoihonehgabGreatDoorTyE
namespace Go.Proofs.YtbpnfoihonehgabGreatDoor
open Go.RowKit Go.Maps
set_option linter.unusedSimpArgs false
set_option linter.unusedVariables false

theorem AllP.impMem {A B : Type} {P Q : A → B → Prop} : ∀ {us : List A} {vs : List B}, AllP P us vs → (∀ a b, a ∈ us → P a b → Q a b) → AllP Q us vs
  | [], [], _, _ => trivial
  | a :: us, b :: vs, ⟨x, y⟩, h => ⟨h a b (by simp) x, AllP.impMem y fun a' b' ha hp => h a' b' (by simp [ha]) hp⟩
  | [], _ :: _, x, _ => x.elim
  | _ :: _, [], x, _ => x.elim

theorem Chk.put {w w1 : World} {B cb : Nat} {X : List Nat} {fv : Value} {pl : DataW Unit} {res : Int} {sc : List (DataW Unit)} {D D' : DataW Unit} {d l m g cv : Nat} (h : Chk w B cb X fv pl res (sc ++ [D]) d l)
    (hc : w.cell? ⟨cb, 3, none⟩ = some (.slice (some ⟨g, 0, none⟩) (sc.length + 1) cv)) (hm : w.cell? ⟨g, sc.length, none⟩ = some (.map (some m))) (hg : w.grownBy w1 (some m)) (hD : MapAt w1 m D') :
    Chk w1 B cb X fv pl res (sc ++ [D']) d l ∧ KX X X w w1 := by
  obtain ⟨mb, sv, ms, h1, h2, h3, h4, h5, h6, h7⟩ := h.ex
  obtain ⟨ms', m', rfl, h8, h9⟩ := AllP.unsnoc h6
  have hl := AllP.length h8
  have hsv : sv = .slice (some ⟨g, 0, none⟩) (sc.length + 1) cv := by
    simp [World.cell?, h1] at hc
    exact hc
  subst hsv
  obtain ⟨cc, hh, ht⟩ : ∃ cc, w.heap[g]? = some (.cells cc 52 (0, 0)) ∧ cc.toList.take (sc.length + 1) = ms'.map (fun m => Value.map (some m)) ++ [.map (some m')] := by
    rcases h4.2 with ⟨e, _⟩ | ⟨g', cap, cc, hv, hg', hh, hn, hcp, hs, ht⟩
    · cases e
    · simp at hv
      obtain ⟨rfl, rfl⟩ := hv
      exact ⟨cc, hh, by simpa using ht⟩
  have hmm : m' = m := by
    have e1 : (cc.toList.take (sc.length + 1))[sc.length]? = some (.map (some m')) := by rw [ht]; simp [← hl]
    rw [List.getElem?_take_of_lt (by omega)] at e1
    simp only [World.cell?, hh] at hm
    have e2 : cc.toList[sc.length]? = some (.map (some m)) := by simpa using hm
    rw [e1] at e2
    simp at e2
    exact e2
  subst hmm
  have blk : ∀ k, k < w.heap.size → k ≠ m' → w1.heap[k]? = w.heap[k]? := fun k hk hne => hg.block k hk (fun e => hne (by simpa using e))
  have hcm : cb ≠ m' := fun e => by subst e; exact h9.2.notCells h1
  have hgm : g ≠ m' := fun e => by subst e; exact h9.2.notCells hh
  have hs := hg.size
  refine ⟨⟨h.cbX, fun i hi => ⟨(h.low i hi).1, Nat.lt_of_lt_of_le (h.low i hi).2 hs⟩, ⟨mb, _, ms' ++ [m'], by rw [blk cb h.cblt hcm]; exact h1, h2, h3.same (blk mb h3.lt (fun e => h2.1 (e ▸ h9.1))), ?_, h5, ?_, h7⟩, h.far, h.dp, h.lp, by simpa using h.sl⟩, ?_⟩
  · refine ⟨by simpa using h4.1, ?_⟩
    rcases h4.2 with ⟨e, _⟩ | ⟨g', cap, cc', hv, hg', hh', r⟩
    · cases e
    · simp at hv
      obtain ⟨rfl, rfl⟩ := hv
      exact Or.inr ⟨g, cv, cc', by simp, hg', by rw [blk g (lt_of_block hh') hgm]; exact hh', by simpa using r⟩
  · refine AllP.snocP ?_ ⟨h9.1, hD⟩
    have hnd := (List.nodup_append.1 h7).2.2
    exact AllP.impMem h8 fun k D0 hk hkD => ⟨hkD.1, hkD.2.same (blk k hkD.2.lt (fun e => hnd k hk m' (by simp) e))⟩
  · exact ⟨hg.os, hg.tape, hg.output, hs, fun _ h => .inl h, fun k hlt hx => blk k hlt fun e => hx (e ▸ h9.1)⟩

/-- what declaring a name answers -/
def declT (D : DataW Unit) (nm : List UInt8) (t : Int) : Int := if nameB nm then (if Maps.has D (.string nm) then 7 else if typeB t then 0 else 9) else 4

/-- .. and leaves of the scope -/
def declD (D : DataW Unit) (nm : List UInt8) (t : Int) : DataW Unit := if declT D nm t = 0 then D.put (.string nm) (.lit (.int .i64 t)) else D

set_option maxHeartbeats 4000000 in
theorem declare_any (w : World) (B cb : Nat) (X : List Nat) (fv : Value) (pl : DataW Unit) (res : Int) (sc : List (DataW Unit)) (D : DataW Unit) (d l : Nat) (nm : List UInt8) (t : Int) (h : Chk w B cb X fv pl res (sc ++ [D]) d l) (ht : TabT w) (hnm : nm.length ≤ 1000000) (hD : Maps.size D ≤ 1000000) :
    Calls Tryz.prog 32 #[.pointer (some ⟨cb, 0, none⟩), .string ⟨nm.toArray⟩, .int .i64 t] w fun e w' => e = .returned (.int .i64 (declT D nm t)) ∧ Chk w' B cb X fv pl res (sc ++ [declD D nm t]) d l ∧ KX X X w w' := by
  obtain ⟨g, cv, m, c3, hcv, cm, hmap, hmX, hmcb⟩ := h.last
  have hsl := h.sl
  simp at hsl
  have hkd := h.below (Below.refl w.heap.size w).drew
  have HC : Hid (Chk w.drew B cb X fv pl res (sc ++ [D]) d l) := hkd
  have HT : Hid (TabRow w.drew 2 keywordsL) := ht.kw
  have HM : Hid (MapAt w.drew m D) := hmap
  have HKEY : Hid (_) := key_of nm hnm
  have HP : Hid (∀ w1 D', w.drew.grownBy w1 (some m) → MapAt w1 m D' → Chk w1 B cb X fv pl res (sc ++ [D']) d l ∧ KX X X w.drew w1) := fun w1 D' h1 h2 => hkd.put c3 cm h1 h2
  have HK0 : Hid (KX X X w w.drew) := (KX.refl X w).drew
  obtain ⟨k, hk⟩ : ∃ k, k = declT D nm t := ⟨_, rfl⟩
  obtain ⟨D', hD'⟩ : ∃ D', D' = declD D nm t := ⟨_, rfl⟩
  rw [← hk, ← hD']
  have HE : Hid (k = declT D nm t) := hk
  have HDD : Hid (D' = if k = 0 then D.put (.string nm) (.lit (.int .i64 t)) else D) := by unfold Hid; rw [hD', hk]; rfl
  generalize sc.length = n at *
  have hnI : (0 : Int) ≤ (n : Int) := by omega
  clear hkd h ht hmap hk hD' hmX
  go_enter Tryz.func32, Tryz.ntmps32
  go_wp2_with fail
  go_region
  go_wp2_with fail
  refine (isName_any nm _ HT.out).mono ?_
  rintro e w1 ⟨rfl, hw1⟩
  have hw1' := hw1.symm
  subst hw1'
  rcases hn : nameB nm with _ | _
  · have HK : Hid (k = 4) := by unfold Hid; rw [HE.out, declT, hn]; rfl
    go_wp2_with fail
    go_ret
    refine ⟨by rw [HK.out]; rfl, ?_, HK0.out⟩
    rw [HDD.out, HK.out]; exact HC.out
  · go_wp2_with (at_lookup; refine wpList_lookup_own_ok_int _ rfl _ _ 52 rfl 9 3 .i64 lawS Tryz.underlying52 Tryz.underlying3 (zeroI _) m _ D rfl HM.out _ _ rfl HKEY.out ?_)
    intro c hc hwc
    clear hc hwc
    rcases hh : Maps.has D (.string nm) with _ | _
    · go_wp2_with fail
      refine (isType_any _ _).mono ?_
      rintro e w1 ⟨rfl, hw1⟩
      have hw1' := hw1.symm
      subst hw1'
      rcases hty : typeB t with _ | _
      · have HK : Hid (k = 9) := by unfold Hid; rw [HE.out, declT, hn, hh, hty]; rfl
        go_wp2_with fail
        go_ret
        refine ⟨by rw [HK.out]; rfl, ?_, HK0.out⟩
        rw [HDD.out, HK.out]; exact HC.out
      · have HK : Hid (k = 0) := by unfold Hid; rw [HE.out, declT, hn, hh, hty]; rfl
        have hwf : (Lit.int .i64 t).wf = true := by
          unfold typeB at hty
          simp at hty
          exact WalkArith.wf_i64 (by omega)
        have HWF : Hid (_) := plainElem_int (H := Unit) Tryz.underlying3 hwf
        clear hwf
        go_wp2_with (at_mapUpdate; refine wpList_mapUpdate_in _ rfl _ _ _ 52 rfl 9 3 lawS Tryz.underlying52 _ m _ D rfl HM.out (by unfold maxLen; omega) _ _ _ rfl rfl HKEY.out _ [] HWF.out ?_)
        intro w1 hown1 hturn1
        have HP1 : Hid (_) := HP.out w1 _ hturn1.grown (own_tight hown1)
        clear hown1 hturn1
        go_wp2_with fail
        go_ret
        refine ⟨by rw [HK.out]; rfl, ?_, HK0.out.trans HP1.out.2⟩
        rw [HDD.out, HK.out]; exact HP1.out.1
    · have HK : Hid (k = 7) := by unfold Hid; rw [HE.out, declT, hn, hh]; rfl
      go_wp2_with fail
      go_ret
      refine ⟨by rw [HK.out]; rfl, ?_, HK0.out⟩
      rw [HDD.out, HK.out]; exact HC.out

end Go.Proofs.YtbpnfoihonehgabGreatDoor
