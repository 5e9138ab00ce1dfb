/-
  The statement's own look at a program.
-/
import Derived.Test.YtbpbpihboenbeaaDoorIbH
import Derived.Test.YtbpbpihboenbeaaDoorSoP
import Derived.Test.YtbpbpihboenbeaaDoorSpA
import Derived.BigQuiet
namespace Go.Proofs.YtbpbpihboenbeaaDoor
open Go.RowKit Go.Maps
set_option linter.unusedSimpArgs false
set_option linter.unusedVariables false

theorem dup_of : ∀ (fs : List Cod) (m n : Nat) (x y : Cod), m < n → fs[m]? = some x → fs[n]? = some y → (x.name == y.name) = true → dupN fs = true
  | [], m, n, x, y, _, h, _, _ => by simp at h
  | d :: fs, 0, n + 1, x, y, _, h, h', he => by
    simp at h h'
    subst h
    have he' : d.name = y.name := by simpa using he
    have : (fs.any fun e => e.name == d.name) = true := List.any_eq_true.2 ⟨y, List.mem_of_getElem? h', by simp [he']⟩
    simp only [dupN, this, Bool.true_or]
  | d :: fs, m + 1, n + 1, x, y, hmn, h, h', he => by
    simp at h h'
    have := dup_of fs m n x y (by omega) h h' he
    simp only [dupN, this, Bool.or_true]

theorem dup_not : ∀ (fs : List Cod), (∀ (m n : Nat) (x y : Cod), m < n → fs[m]? = some x → fs[n]? = some y → (x.name == y.name) = true → False) → dupN fs = false
  | [], _ => rfl
  | d :: fs, h => by
    have h1 := dup_not fs fun m n x y hmn a b => h (m + 1) (n + 1) x y (by omega) (by simpa using a) (by simpa using b)
    have h2 : (fs.any fun e => e.name == d.name) = false := by
      rw [List.any_eq_false]
      intro e he hc
      obtain ⟨n, hn⟩ := List.getElem?_of_mem he
      have : e.name = d.name := by simpa using hc
      exact h 0 (n + 1) d e (by omega) (by simp) (by simpa using hn) (by simp [this])
    simp only [dupN, h1, h2, Bool.or_false]

/-- the place of a function that is there -/
theorem place_le {fs : List Cod} {i : Nat} {f : Cod} (h : fs[i]? = some f) : ∃ (k : Nat) (g : Cod), plI fs f.name = (k : Int) ∧ k ≤ i ∧ fs[k]? = some g ∧ (g.name == f.name) = true := by
  rcases hp : placeOf fs f.name with _ | k
  · have h1 := hp
    unfold placeOf at h1
    rw [List.findIdx?_eq_none_iff] at h1
    have := h1 f (List.mem_of_getElem? h)
    simp at this
  · have h1 := hp
    unfold placeOf at h1
    obtain ⟨hlt, he, hmin⟩ := List.findIdx?_eq_some_iff_getElem.1 h1
    refine ⟨k, fs[k], by unfold plI; rw [hp], ?_, List.getElem?_eq_getElem hlt, he⟩
    rcases Nat.lt_or_ge i k with hik | hik
    · have h2 := hmin i hik
      have h3 := (List.getElem?_eq_some_iff.1 h).2
      rw [h3] at h2
      simp at h2
    · exact hik

theorem wrap_neg {a b : Int} (ha : I64 a) (hb : I64 b) : (wrap64 (a + b) != 0) = (a != wrap64 (-b)) := by
  have h : wrap64 (a + b) = 0 ↔ a = wrap64 (-b) := by
    obtain ⟨a1, a2⟩ := ha
    obtain ⟨b1, b2⟩ := hb
    unfold wrap64
    omega
  by_cases h1 : wrap64 (a + b) = 0
  · have h2 := h.1 h1
    have e1 : (wrap64 (a + b) != 0) = false := by simp [h1]
    have e2 : (a != wrap64 (-b)) = false := by simpa using h2
    rw [e1, e2]
  · have h2 : ¬ a = wrap64 (-b) := fun e => h1 (h.2 e)
    have e1 : (wrap64 (a + b) != 0) = true := by simpa using h1
    have e2 : (a != wrap64 (-b)) = true := by simpa using h2
    rw [e1, e2]

set_option maxHeartbeats 16000000 in
set_option maxRecDepth 20000 in
theorem programR_any (fs : List Cod) (vf : Value) (a2 : Option Addr) (nd k2 B : Nat) (w : World) (hB : B ≤ w.heap.size) (hfs : Cods B w vf fs) (hnd : nd ≤ maxLen) :
    Calls Tryd.prog 9 #[prgV vf (.slice a2 nd k2)] w fun e w' => e = .returned (.int .i64 (programS fs nd)) ∧ Below w.heap.size w w' := by
  have hlF := hfs.len
  unfold maxLen at hlF hnd
  obtain ⟨a1, k1, rfl⟩ := Lies.slice hfs
  have HFS : Hid (Cods B w (.slice a1 fs.length k1) fs) := hfs
  obtain ⟨r, hr⟩ : ∃ r, r = programS fs nd := ⟨_, rfl⟩
  rw [← hr]
  unfold programS at hr
  have HR : Hid (r = _) := hr
  obtain ⟨n, hn⟩ : ∃ n, n = fs.length := ⟨_, rfl⟩
  have HN : Hid (n = fs.length) := hn
  rw [← hn] at hlF HR HFS ⊢
  clear hfs hr hn
  unfold prgV
  obtain ⟨W, hW⟩ : ∃ W, W = w.alloc (.cells #[.slice a1 n k1, .slice a2 nd k2] 25) := ⟨_, rfl⟩
  have HW : Hid (Below w.heap.size w W) := by rw [hW]; exact below_alloc _ _
  have hWs : W.heap.size = w.heap.size + 1 := by rw [hW]; simp
  have HC0 : Hid (W.heap[w.heap.size]? = some (.cells #[.slice a1 n k1, .slice a2 nd k2] 25)) := by rw [hW]; exact heap_alloc_new w _
  have HWS : Hid (W = _) := hW
  clear hW
  by_cases h0 : n = 0
  · have HR2 : Hid (r = 6) := by unfold Hid; rw [HR.out, if_pos h0]
    subst h0
    go_enter Tryd.func9, Tryd.ntmps9
    go_wp2_with fail
    go_ret
    exact ⟨by rw [HR2.out]; rfl, HWS.out ▸ HW.out⟩
  have h0b : ((n : Int) == 0) = false := beq_eq_false_iff_ne.2 (by omega)
  by_cases g1 : 20000 < nd
  · have HR2 : Hid (r = 1) := by unfold Hid; rw [HR.out, if_neg h0, if_pos (by simp [g1])]
    have g1I : (20000 : Int) < (nd : Int) := by omega
    go_enter Tryd.func9, Tryd.ntmps9
    go_wp2_with fail
    go_ret
    exact ⟨by rw [HR2.out]; rfl, HWS.out ▸ HW.out⟩
  have g1I : ¬ (20000 : Int) < (nd : Int) := by omega
  by_cases g2 : 40 < n
  · have HR2 : Hid (r = 1) := by unfold Hid; rw [HR.out, if_neg h0, if_pos (by simp [g2])]
    have g2I : (40 : Int) < (n : Int) := by omega
    go_enter Tryd.func9, Tryd.ntmps9
    go_wp2_with fail
    go_ret
    exact ⟨by rw [HR2.out]; rfl, HWS.out ▸ HW.out⟩
  have g2I : ¬ (40 : Int) < (n : Int) := by omega
  have HR1 : Hid (r = _) := HR.out.trans (by rw [if_neg h0, if_neg (by simp; omega)])
  clear HR
  go_enter Tryd.func9, Tryd.ntmps9
  go_wp2_with fail
  rw [← HWS.out]
  clear HWS g1I g2I h0b
  go_loopg [3] n (fun g s3 wr => ∃ i : Nat, s3 = .int .i64 (i : Nat) ∧ i + g = n ∧ Hid (Below W.heap.size W wr) ∧ Hid (∀ (j : Nat) (f : Cod), j < i → fs[j]? = some f → plI fs f.name = (j : Int)))
  case atStart => exact ⟨0, rfl, by omega, Below.refl _ _, fun j f hj => absurd hj (by omega)⟩
  case round =>
    obtain ⟨i, rfl, hig, HBL, HJ⟩ := hrel
    have hszr := HBL.out.size
    have HP0 : Hid (wr.heap[w.heap.size]? = _) := (HBL.out.block _ (by omega)).trans HC0.out
    have p1 := cells2 HP0.out
    cases gk with
    | zero =>
      have hlt : ¬ (i : Int) < (n : Int) := by omega
      have hdn : dupN fs = false := dup_not fs fun m n' x y hmn hx hy he => by
        have h1 := HJ.out m x (by have := (List.getElem?_eq_some_iff.1 hx).1; have := HN.out; omega) hx
        have h2 := HJ.out n' y (by have := (List.getElem?_eq_some_iff.1 hy).1; have := HN.out; omega) hy
        have he' : x.name = y.name := by simpa using he
        rw [he', h2] at h1
        omega
      have hpos : 0 < fs.length := by have := HN.out; omega
      have hget : fs[0]? = some fs[0] := List.getElem?_eq_getElem hpos
      generalize fs[0] = f at hget
      obtain ⟨ga, o, cs, rfl, hgB, hcs, hu, hcell⟩ := Lies.at HFS.out hget
      obtain ⟨vb', rfl, hvb', hnl, hi1, hi2, _⟩ := hu
      have HR2 : Hid (r = if (f.params != wrap64 (-f.results)) = true then 10 else firstNZ (atCS fs) 0 n) := HR1.out.trans (by rw [hdn, hget, ← wrap_neg hi1 hi2]; rfl)
      have hga : ga < w.heap.size := by omega
      have hgaW : ga < W.heap.size := by omega
      have q1 := hcell 1 (by decide)
      have q2 := hcell 2 (by decide)
      simp at q1 q2
      rw [← HW.out.cell (p := ⟨ga, o + 1, none⟩) hga, ← HBL.out.cell (p := ⟨ga, o + 1, none⟩) hgaW] at q1
      rw [← HW.out.cell (p := ⟨ga, o + 2, none⟩) hga, ← HBL.out.cell (p := ⟨ga, o + 2, none⟩) hgaW] at q2
      have hn0 : (0 : Int) < (n : Int) := by omega
      have hcd : wr.drew.cell? ⟨ga, o + 1, none⟩ = some (.int .i64 f.params) ∧ wr.drew.cell? ⟨ga, o + 2, none⟩ = some (.int .i64 f.results) ∧ wr.drew.cell? ⟨w.heap.size, 0, none⟩ = some (.slice (some ⟨ga, o, none⟩) n k1) := ⟨q1, q2, p1.1⟩
      clear hget hcell hcs hvb' hnl hi1 hi2 HR1 HJ hdn
      go_wp2_with fail
      go_quiet (fail)
      have HBD : Hid (Below W.heap.size W (wr.drewN nq)) := ⟨HBL.out.os, HBL.out.tape, HBL.out.output, HBL.out.size, HBL.out.block⟩
      have HBZ : Hid (Below w.heap.size w (wr.drewN nq)) := below_after HW.out HBD.out
      clear q1 q2 p1 hcd
      rcases hz : (f.params != wrap64 (-f.results)) with _ | _
      · have HR3 : Hid (r = firstNZ (atCS fs) 0 n) := HR2.out.trans (by rw [hz]; rfl)
        obtain ⟨wo, hwo⟩ : ∃ wo, wo = wr := ⟨_, rfl⟩
        subst hwo
        go_wp2_with fail
        go_loopg [4] n (fun g s4 wr => ∃ i : Nat, s4 = .int .i64 (i : Nat) ∧ i + g = n ∧ Hid (Below W.heap.size W wr) ∧ Hid (r = firstNZ (atCS fs) i g))
        case atStart => exact ⟨0, rfl, by omega, HBD, HR3⟩
        case round =>
          clear HR3 hig hlt hszr
          obtain ⟨i2, rfl, hig, HBI, HRI⟩ := hrel
          have hszr := HBI.out.size
          cases gk with
          | zero =>
            have hlt : ¬ (i2 : Int) < (n : Int) := by omega
            have HR4 : Hid (r = 0) := HRI.out
            have p1 := cells2 ((HBI.out.block _ (by omega)).trans HC0.out)
            have HBF : Hid (Below w.heap.size w wr) := below_after HW.out HBI.out
            go_wp2_with fail
            go_ret
            exact ⟨by rw [HR4.out]; rfl, HBF.out⟩
          | succ g =>
            have hlt : (i2 : Int) < (n : Int) := by omega
            have hilt : i2 < fs.length := by have := HN.out; omega
            have hget : fs[i2]? = some fs[i2] := List.getElem?_eq_getElem hilt
            generalize fs[i2] = c at hget
            have HAT : Hid (atCS fs i2 = codeF fs c) := by unfold Hid atCS; rw [hget]; exact code_same fs c
            obtain ⟨ga2, o2, cs2, hae, hgB2, hcs2, hu2, hcell2⟩ := Lies.at HFS.out hget
            injection hae with hae
            injection hae with hae1 hae2
            subst hae1
            subst hae2
            obtain ⟨vb, rfl, hvb, hnl, _⟩ := hu2
            have HBK : Hid (Blks B w vb c.blocks) := hvb
            obtain ⟨ab, kb, rfl⟩ := Lies.slice hvb
            have HCL : Hid (∀ w', Below W.heap.size W w' → (w'.cell? ⟨ga, o + i2 * 6, none⟩ = some (.string ⟨c.name.toArray⟩) ∧ w'.cell? ⟨ga, o + i2 * 6 + 1, none⟩ = some (.int .i64 c.params) ∧ w'.cell? ⟨ga, o + i2 * 6 + 2, none⟩ = some (.int .i64 c.results) ∧ w'.cell? ⟨ga, o + i2 * 6 + 3, none⟩ = some (.int .i64 c.vars) ∧ w'.cell? ⟨ga, o + i2 * 6 + 4, none⟩ = some (.int .i64 c.slots) ∧ w'.cell? ⟨ga, o + i2 * 6 + 5, none⟩ = some (.slice ab c.blocks.length kb)) ∧ w'.cell? ⟨w.heap.size, 0, none⟩ = some (.slice (some ⟨ga, o, none⟩) n k1) ∧ w'.cell? ⟨w.heap.size, 1, none⟩ = some (.slice a2 nd k2)) := by
              intro w' hb'
              have z0 := hcell2 0 (by decide)
              have z1 := hcell2 1 (by decide)
              have z2 := hcell2 2 (by decide)
              have z3 := hcell2 3 (by decide)
              have z4 := hcell2 4 (by decide)
              have z5 := hcell2 5 (by decide)
              simp at z0 z1 z2 z3 z4 z5
              have cc : ∀ o', w'.cell? ⟨ga, o', none⟩ = w.cell? ⟨ga, o', none⟩ := fun o' => (hb'.cell (p := ⟨ga, o', none⟩) hgaW).trans (HW.out.cell (p := ⟨ga, o', none⟩) hga)
              exact ⟨⟨(cc _).trans z0, (cc _).trans z1, (cc _).trans z2, (cc _).trans z3, (cc _).trans z4, (cc _).trans z5⟩, cells2 ((hb'.block _ (by omega)).trans HC0.out)⟩
            have hcw := HCL.out wr HBI.out
            have HBDr : Hid (Below W.heap.size W wr.drew) := HBI.out.drew
            have hcd := HCL.out wr.drew HBDr.out
            have HDW : Hid (Below w.heap.size w wr.drew) := below_after HW.out HBDr.out
            have hszd : wr.drew.heap.size = wr.heap.size := rfl
            clear hget hcell2 hcs2 hvb hnl
            go_wp2_with fail
            go_region_held3 (fun w' => (w'.cell? ⟨ga, o + i2 * 6, none⟩ = some (.string ⟨c.name.toArray⟩) ∧ w'.cell? ⟨ga, o + i2 * 6 + 1, none⟩ = some (.int .i64 c.params) ∧ w'.cell? ⟨ga, o + i2 * 6 + 2, none⟩ = some (.int .i64 c.results) ∧ w'.cell? ⟨ga, o + i2 * 6 + 3, none⟩ = some (.int .i64 c.vars) ∧ w'.cell? ⟨ga, o + i2 * 6 + 4, none⟩ = some (.int .i64 c.slots) ∧ w'.cell? ⟨ga, o + i2 * 6 + 5, none⟩ = some (.slice ab c.blocks.length kb)) ∧ w'.cell? ⟨w.heap.size, 0, none⟩ = some (.slice (some ⟨ga, o, none⟩) n k1) ∧ w'.cell? ⟨w.heap.size, 1, none⟩ = some (.slice a2 nd k2)) (first | exact hcd | exact hc5)
              (first | (go_at_call 7; refine (codeR_any c fs _ _ _ B wr.drew (by omega) (HFS.out.below (HDW.out.mono hB)) ⟨_, _, _, rfl⟩ (HBK.out.below (HDW.out.mono hB))).mono ?_; rintro e w5 ⟨rfl, hb5⟩; have HB5 : Hid (Below W.heap.size W w5) := HBDr.out.trans (hb5.mono (by omega)); have hc5 := HCL.out w5 HB5.out; clear hb5))
            rcases hE : (codeF fs c != 0) with _ | _
            · have HR4 : Hid (r = firstNZ (atCS fs) (i2 + 1) g) := by unfold Hid; rw [HRI.out, firstNZ_step _ _ _ (by rw [HAT.out]; exact hE)]
              go_wp2_with fail
              go_roundg g
              case measure => omega
              case rel => exact ⟨i2 + 1, by go_num, by omega, HB5, HR4⟩
            · have HR4 : Hid (r = codeF fs c) := by unfold Hid; rw [HRI.out, firstNZ_hit _ _ _ (by rw [HAT.out]; exact hE), HAT.out]
              have HBF : Hid (Below w.heap.size w w5) := below_after HW.out HB5.out
              go_wp2_with fail
              go_ret
              exact ⟨by rw [HR4.out]; rfl, HBF.out⟩
      · have HR3 : Hid (r = 10) := HR2.out.trans (by rw [hz]; rfl)
        go_wp2_with fail
        go_ret
        exact ⟨by rw [HR3.out]; rfl, HBZ.out⟩
    | succ g =>
      have hlt : (i : Int) < (n : Int) := by omega
      have hilt : i < fs.length := by have := HN.out; omega
      have hget : fs[i]? = some fs[i] := List.getElem?_eq_getElem hilt
      generalize fs[i] = c at hget
      have HGET : Hid (fs[i]? = some c) := hget
      obtain ⟨ga, o, cs, rfl, hgB, hcs, hu, hcell⟩ := Lies.at HFS.out hget
      obtain ⟨vb, rfl, hvb, hnl, _⟩ := hu
      have hga : ga < w.heap.size := by omega
      have hgaW : ga < W.heap.size := by omega
      have HCL : Hid (∀ w', Below W.heap.size W w' → w'.cell? ⟨ga, o + i * 6, none⟩ = some (.string ⟨c.name.toArray⟩) ∧ w'.cell? ⟨w.heap.size, 0, none⟩ = some (.slice (some ⟨ga, o, none⟩) n k1) ∧ w'.cell? ⟨w.heap.size, 1, none⟩ = some (.slice a2 nd k2)) := by
        intro w' hb'
        have z0 := hcell 0 (by decide)
        simp at z0
        exact ⟨((hb'.cell (p := ⟨ga, o + i * 6, none⟩) hgaW).trans (HW.out.cell (p := ⟨ga, o + i * 6, none⟩) hga)).trans z0, cells2 ((hb'.block _ (by omega)).trans HC0.out)⟩
      have hcw := HCL.out wr HBL.out
      have HBDr : Hid (Below W.heap.size W wr.drew) := HBL.out.drew
      have hcd := HCL.out wr.drew HBDr.out
      have HDW : Hid (Below w.heap.size w wr.drew) := below_after HW.out HBDr.out
      have hszd : wr.drew.heap.size = wr.heap.size := rfl
      clear hget hcell hcs hvb hnl p1
      go_wp2_with fail
      go_region_held3 (fun w' => w'.cell? ⟨ga, o + i * 6, none⟩ = some (.string ⟨c.name.toArray⟩) ∧ w'.cell? ⟨w.heap.size, 0, none⟩ = some (.slice (some ⟨ga, o, none⟩) n k1) ∧ w'.cell? ⟨w.heap.size, 1, none⟩ = some (.slice a2 nd k2)) (first | exact hcd | exact hc5)
        (first | (go_at_call 17; refine (funcNamed_any fs c.name _ _ B wr.drew (by omega) (HFS.out.below (HDW.out.mono hB)) ⟨_, _, _, rfl⟩).mono ?_; rintro e w5 ⟨rfl, hb5⟩; have HB5 : Hid (Below W.heap.size W w5) := HBDr.out.trans (hb5.mono (by omega)); have hc5 := HCL.out w5 HB5.out; clear hb5))
      rcases hE : (plI fs c.name != (i : Int)) with _ | _
      · have hEq : plI fs c.name = (i : Int) := by simpa using hE
        have HEQ : Hid (plI fs c.name = (i : Int)) := hEq
        clear hEq
        go_wp2_with fail
        go_roundg g
        case measure => omega
        case rel =>
          refine ⟨i + 1, by go_num, by omega, HB5, fun j f hj hf => ?_⟩
          rcases Nat.lt_or_ge j i with h | h
          · exact HJ.out j f h hf
          · have : j = i := by omega
            subst this
            rw [HGET.out] at hf
            cases hf
            exact HEQ.out
      · have hne : plI fs c.name ≠ (i : Int) := by simpa using hE
        have hdn : dupN fs = true := by
          obtain ⟨k, g', h1, h2, h3, h4⟩ := place_le HGET.out
          have : k ≠ i := fun e => hne (by rw [h1, e])
          exact dup_of fs k i g' c (by omega) h3 HGET.out h4
        have HR3 : Hid (r = 7) := HR1.out.trans (by rw [hdn]; rfl)
        have HBF : Hid (Below w.heap.size w w5) := below_after HW.out HB5.out
        clear hne hdn
        go_wp2_with fail
        go_ret
        exact ⟨by rw [HR3.out]; rfl, HBF.out⟩

end Go.Proofs.YtbpbpihboenbeaaDoor
