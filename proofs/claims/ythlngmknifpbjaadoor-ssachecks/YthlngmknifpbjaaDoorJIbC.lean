/-
  The statement's own look at an instruction.
-/
import Derived.Test.YthlngmknifpbjaaDoorJIaQ
import Derived.Test.YthlngmknifpbjaaDoorIbA
namespace Go.Proofs.YthlngmknifpbjaaDoor
section
open Go.RowKit Go.Maps
set_option linter.unusedSimpArgs false
set_option linter.unusedVariables false

def plI (fs : List Cod) (s : List UInt8) : Int := match placeOf fs s with
  | none => -1
  | some k => (k : Int)

theorem find_at {fs : List Cod} {s : List UInt8} {i : Nat} {f : Cod} (h : ∀ (j : Nat) (x : Cod), j < i → fs[j]? = some x → (x.name == s) = false) (hi : fs[i]? = some f) (hf : (f.name == s) = true) : placeOf fs s = some i := by
  unfold placeOf
  rw [List.findIdx?_eq_some_iff_getElem]
  obtain ⟨hlt, he⟩ := List.getElem?_eq_some_iff.1 hi
  refine ⟨hlt, by rw [he]; exact hf, fun j hj => ?_⟩
  have := h j fs[j] hj (List.getElem?_eq_getElem (by omega))
  simpa using this

theorem find_none {fs : List Cod} {s : List UInt8} (h : ∀ (j : Nat) (x : Cod), fs[j]? = some x → (x.name == s) = false) : placeOf fs s = none := by
  unfold placeOf
  rw [List.findIdx?_eq_none_iff]
  intro x hx
  obtain ⟨j, hj⟩ := List.getElem?_of_mem hx
  exact h j x hj

set_option maxHeartbeats 2000000 in
set_option maxRecDepth 20000 in
theorem funcNamed_any (fs : List Cod) (s : List UInt8) (vf vd : Value) (B : Nat) (w : World) (hB : B ≤ w.heap.size) (hfs : Cods B w vf fs) (hvd : ∃ a n k, vd = .slice a n k) :
    Calls Tryd.prog 36 #[prgV vf vd, .string ⟨s.toArray⟩] w fun e w' => e = .returned (.int .i64 (plI fs s)) ∧ Below w.heap.size w w' := by
  obtain ⟨a, c, rfl⟩ := Lies.slice hfs
  obtain ⟨a2, n2, k2, rfl⟩ := hvd
  have hlm := hfs.len
  unfold maxLen at hlm
  have HFS : Hid (Cods B w (.slice a fs.length c) fs) := hfs
  obtain ⟨r, hr⟩ : ∃ r, r = plI fs s := ⟨_, rfl⟩
  rw [← hr]
  have HR : Hid (r = plI fs s) := hr
  obtain ⟨W, hW⟩ : ∃ W, W = w.alloc (.cells #[.slice a fs.length c, .slice a2 n2 k2] 25) := ⟨_, rfl⟩
  have HW : Hid (Below w.heap.size w W) := by rw [hW]; exact below_alloc _ _
  have HC : Hid (W.heap[w.heap.size]? = some (.cells #[.slice a fs.length c, .slice a2 n2 k2] 25)) := by rw [hW]; exact heap_alloc_new w _
  have HWS : Hid (W = _) := hW
  clear hfs hr hW
  unfold prgV
  go_enter Tryd.func36, Tryd.ntmps36
  go_wp2_with fail
  rw [← HWS.out]
  have p1 := cells2 HC.out
  clear HWS HC
  go_loopg [5] fs.length (fun g s5 wr => ∃ i : Nat, s5 = .int .i64 (i : Nat) ∧ i + g = fs.length ∧ wr = W ∧ Hid (∀ (j : Nat) (x : Cod), j < i → fs[j]? = some x → (x.name == s) = false))
  case atStart => exact ⟨0, rfl, by omega, rfl, fun j x hj => absurd hj (by omega)⟩
  case round =>
    obtain ⟨i, rfl, hi', rfl, HJ⟩ := hrel
    cases gk with
    | zero =>
      have hlt : ¬ (i : Int) < (fs.length : Int) := by omega
      have HA : Hid (r = -1) := by
        unfold Hid
        rw [HR.out, plI, find_none fun j x hx => HJ.out j x (by have := (List.getElem?_eq_some_iff.1 hx).1; omega) hx]
      go_wp2_with fail
      go_ret
      exact ⟨by rw [HA.out]; rfl, HW.out⟩
    | succ g =>
      have hlt : (i : Int) < (fs.length : Int) := by omega
      have hilt : i < fs.length := by omega
      have hget : fs[i]? = some fs[i] := List.getElem?_eq_getElem hilt
      generalize fs[i] = x at hget
      obtain ⟨ga, o, cs, rfl, hgB, hcs, hu, hcell⟩ := Lies.at HFS.out hget
      obtain ⟨vb, rfl, hvb, hnl, _⟩ := hu
      have hga : ga < w.heap.size := by omega
      have q0 := hcell 0 (by decide)
      simp at q0
      rw [← HW.out.cell (p := ⟨ga, o + i * 6, none⟩) hga] at q0
      have HG : Hid (_) := hget
      clear hcell hget hcs hvb hnl
      rcases hb : (x.name == s) with _ | _
      · go_wp2_with fail
        go_roundg g
        case measure => omega
        case rel =>
          refine ⟨i + 1, by go_num, by omega, rfl, fun j y hj hy => ?_⟩
          rcases Nat.lt_or_ge j i with h | h
          · exact HJ.out j y h hy
          · have : j = i := by omega
            subst this
            rw [HG.out] at hy
            cases hy
            exact hb
      · have HA : Hid (r = (i : Int)) := by
          unfold Hid
          rw [HR.out, plI, find_at HJ.out HG.out hb]
        go_wp2_with fail
        go_ret
        exact ⟨by rw [HA.out]; rfl, HW.out⟩

theorem twice_of : ∀ (ds : List Int) (m n : Nat) (x : Int), m < n → ds[m]? = some x → ds[n]? = some x → twiceB ds = true
  | [], m, n, x, _, h, _ => by simp at h
  | d :: ds, 0, n + 1, x, _, h, h' => by
    simp at h h'
    subst h
    have : d ∈ ds := List.mem_of_getElem? h'
    simp [twiceB, this]
  | d :: ds, m + 1, n + 1, x, hmn, h, h' => by
    simp at h h'
    have := twice_of ds m n x (by omega) h h'
    simp [twiceB, this]

theorem twice_not : ∀ (ds : List Int), (∀ (m n : Nat) (x : Int), m < n → ds[m]? = some x → ds[n]? = some x → False) → twiceB ds = false
  | [], _ => rfl
  | d :: ds, h => by
    have h1 := twice_not ds fun m n x hmn a b => h (m + 1) (n + 1) x (by omega) (by simpa using a) (by simpa using b)
    have h2 : ds.contains d = false := by
      rw [Bool.eq_false_iff]
      intro hc
      rw [List.contains_iff_mem] at hc
      obtain ⟨n, hn⟩ := List.getElem?_of_mem hc
      exact h 0 (n + 1) d (by omega) (by simp) (by simpa using hn)
    simp [twiceB, h1]
    simpa using h2
end

section
open Go.RowKit Go.Maps
set_option linter.unusedSimpArgs false
set_option linter.unusedVariables false

theorem heap_alloc3 (w : World) (o1 o2 o3 : Obj) : (((w.alloc o1).alloc o2).alloc o3).heap[w.heap.size + 2]? = some o3 := by
  have := (heap_alloc2 (w.alloc o1) o2 o3).2
  simpa using this

theorem ne0 (n : Nat) : ((n : Int) != 0) = !(n == 0) := by
  by_cases h : n = 0
  · subst h; rfl
  · have h1 : ((n : Int) == 0) = false := beq_eq_false_iff_ne.2 (by omega)
    have h2 : (n == 0) = false := beq_eq_false_iff_ne.2 h
    unfold bne
    rw [h1, h2]
theorem ne1 (n : Nat) : ((n : Int) != 1) = !(n == 1) := by
  by_cases h : n = 1
  · subst h; rfl
  · have h1 : ((n : Int) == 1) = false := beq_eq_false_iff_ne.2 (by omega)
    have h2 : (n == 1) = false := beq_eq_false_iff_ne.2 h
    unfold bne
    rw [h1, h2]
theorem ne2 (n : Nat) : ((n : Int) != 2) = !(n == 2) := by
  by_cases h : n = 2
  · subst h; rfl
  · have h1 : ((n : Int) == 2) = false := beq_eq_false_iff_ne.2 (by omega)
    have h2 : (n == 2) = false := beq_eq_false_iff_ne.2 h
    unfold bne
    rw [h1, h2]

section
variable {fs : List Cod} {c : Cod} {i : Ins} (h1 : 1 ≤ i.op) (h2 : i.op ≤ 13)
include h1 h2
theorem F_op : (decide (i.op < 1) || decide (13 < i.op)) = false := by simp; omega
theorem F_10 (a : countOk i.op i.ds.length i.ar.length i.to.length = false) : instrF fs c i = 10 := by unfold instrF; rw [F_op h1 h2, a]; rfl
theorem F_2 (a : countOk i.op i.ds.length i.ar.length i.to.length = true) (b : (belowB c.vars i.ds && (belowB c.vars i.ar && belowB c.blocks.length i.to)) = false) : instrF fs c i = 2 := by unfold instrF; rw [F_op h1 h2, a, b]; rfl
theorem F_4 (a : countOk i.op i.ds.length i.ar.length i.to.length = true) (b : (belowB c.vars i.ds && (belowB c.vars i.ar && belowB c.blocks.length i.to)) = true) (d : formB i = false) : instrF fs c i = 4 := by unfold instrF; rw [F_op h1 h2, a, b, d]; rfl
theorem F_11 (a : countOk i.op i.ds.length i.ar.length i.to.length = true) (b : (belowB c.vars i.ds && (belowB c.vars i.ar && belowB c.blocks.length i.to)) = true) (d : formB i = true) (e : argsB c.results i = false) : instrF fs c i = 10 := by unfold instrF; rw [F_op h1 h2, a, b, d, e]; rfl
theorem F_0 (a : countOk i.op i.ds.length i.ar.length i.to.length = true) (b : (belowB c.vars i.ds && (belowB c.vars i.ar && belowB c.blocks.length i.to)) = true) (d : formB i = true) (e : argsB c.results i = true) (f : (i.op == 7) = false) : instrF fs c i = 0 := by unfold instrF; rw [F_op h1 h2, a, b, d, e, f]; rfl
theorem F_7 (a : countOk i.op i.ds.length i.ar.length i.to.length = true) (b : (belowB c.vars i.ds && (belowB c.vars i.ar && belowB c.blocks.length i.to)) = true) (d : formB i = true) (e : argsB c.results i = true) (f : (i.op == 7) = true) : instrF fs c i = invokeF fs i := by unfold instrF; rw [F_op h1 h2, a, b, d, e, f]; rfl
end

/-- what the statement's look at an instruction says -/
def SaidR (k : Int) : Prop := ∀ (ds ar : List Int) (nn : Int) (s : List UInt8) (to : List Int) (c : Cod) (fs : List Cod) (vf vdt vb vd va vt : Value) (B : Nat) (w : World), B ≤ w.heap.size → Cods B w vf fs → (∃ a n k, vdt = .slice a n k) → (∃ a k, vb = .slice a c.blocks.length k) → 1 ≤ c.blocks.length → c.blocks.length ≤ 2000 → 0 ≤ c.vars → c.vars ≤ 3000 →
    Nums B w vd ds → Nums B w va ar → Nums B w vt to → s.length ≤ maxLen →
    Calls Tryd.prog 21 #[prgV vf vdt, codV c vb, insV ⟨k, ds, ar, nn, s, to⟩ vd va vt] w fun e w' => e = .returned (.int .i64 (instrF fs c ⟨k, ds, ar, nn, s, to⟩)) ∧ Below w.heap.size w w'
end

section
open Go.RowKit Go.Maps
set_option linter.unusedSimpArgs false
set_option linter.unusedVariables false

set_option maxHeartbeats 8000000 in
set_option maxRecDepth 20000 in
theorem instrR_1 : SaidR 1 := by
  intro ds ar nn s to c fs vf vdt vb vd va vt B w hB hfs hvdt hvb hb1 hb2 hv0 hv3 hd ha ht hs
  have hlF := hfs.len
  have HFS : Hid (Cods B w vf fs) := hfs
  obtain ⟨a1, k1, rfl⟩ := Lies.slice hfs
  obtain ⟨a2, n2, k2, rfl⟩ := hvdt
  obtain ⟨a3, k3, rfl⟩ := hvb
  have HD : Hid (Nums B w vd ds) := hd
  have HA : Hid (Nums B w va ar) := ha
  have HT : Hid (Nums B w vt to) := ht
  have HSL : Hid (s.length ≤ maxLen) := hs
  have hlD := hd.len
  have hlA := ha.len
  have hlT := ht.len
  obtain ⟨ad, kd, rfl⟩ := Lies.slice hd
  obtain ⟨a4, k4, rfl⟩ := Lies.slice ha
  obtain ⟨a5, k5, rfl⟩ := Lies.slice ht
  unfold maxLen at hlD hlA hlT hlF
  obtain ⟨r, hr⟩ : ∃ r, r = instrF fs c ⟨1, ds, ar, nn, s, to⟩ := ⟨_, rfl⟩
  rw [← hr]
  have HR : Hid (r = _) := hr
  obtain ⟨nd, hnd⟩ : ∃ n, n = ds.length := ⟨_, rfl⟩
  obtain ⟨na, hna⟩ : ∃ n, n = ar.length := ⟨_, rfl⟩
  obtain ⟨nt, hnt⟩ : ∃ n, n = to.length := ⟨_, rfl⟩
  obtain ⟨nb, hnb⟩ : ∃ n, n = c.blocks.length := ⟨_, rfl⟩
  have HND : Hid (nd = ds.length) := hnd
  have HNA : Hid (na = ar.length) := hna
  have HNT : Hid (nt = to.length) := hnt
  have HNB : Hid (nb = c.blocks.length) := hnb
  rw [← hnd] at hlD
  rw [← hna] at hlA
  rw [← hnt] at hlT
  rw [← hnb] at hb1 hb2
  rw [← hnb, ← hnd, ← hna, ← hnt]
  rw [← hnd] at HD
  rw [← hna] at HA
  rw [← hnt] at HT
  clear hfs hd ha ht hs hr hnd hna hnt hnb
  unfold prgV codV insV
  simp only
  obtain ⟨W, hW⟩ : ∃ W, W = ((w.alloc (.cells #[.slice a1 fs.length k1, .slice a2 n2 k2] 25)).alloc (.cells #[.string ⟨c.name.toArray⟩, .int .i64 c.params, .int .i64 c.results, .int .i64 c.vars, .int .i64 c.slots, .slice a3 nb k3] 28)).alloc (.cells #[.int .i64 1, .slice ad nd kd, .slice a4 na k4, .int .i64 nn, .string ⟨s.toArray⟩, .slice a5 nt k5] 37) := ⟨_, rfl⟩
  have HW : Hid (Below w.heap.size w W) := by rw [hW]; exact below_after (below_after (below_alloc _ _) (below_alloc _ _)) (below_alloc _ _)
  have hWs : W.heap.size = w.heap.size + 3 := by rw [hW]; simp
  have HC0 : Hid (W.heap[w.heap.size]? = some (.cells #[.slice a1 fs.length k1, .slice a2 n2 k2] 25)) := by rw [hW]; exact blk_alloc (heap_alloc2 w _ _).1 _
  have HC1 : Hid (W.heap[w.heap.size + 1]? = some (.cells #[.string ⟨c.name.toArray⟩, .int .i64 c.params, .int .i64 c.results, .int .i64 c.vars, .int .i64 c.slots, .slice a3 nb k3] 28)) := by rw [hW]; exact blk_alloc (heap_alloc2 w _ _).2 _
  have HC2 : Hid (W.heap[w.heap.size + 2]? = some (.cells #[.int .i64 1, .slice ad nd kd, .slice a4 na k4, .int .i64 nn, .string ⟨s.toArray⟩, .slice a5 nt k5] 37)) := by rw [hW]; exact heap_alloc3 w _ _ _
  have HWS : Hid (W = _) := hW
  clear hW
  have hzd : ((nd : Int) != (nd : Int)) = false := by simp
  have hza : ((na : Int) != (na : Int)) = false := by simp
  have hzt : ((nt : Int) != (nt : Int)) = false := by simp
  rcases e1 : (nd == 1) with _ | _
  · have e1L : (ds.length == 1) = false := by rw [← HND.out]; exact e1
    have e1I : ((nd : Int) != 1) = true := by rw [ne1, e1]; rfl
    have HR2 : Hid (r = 10) := HR.out.trans (F_10 (show (1 : Int) ≤ 1 by decide) (show (1 : Int) ≤ 13 by decide) (show (ds.length == 1 && (ar.length == 0 && to.length == 0)) = false by rw [e1L]; simp))
    clear e1L
    go_enter Tryd.func21, Tryd.ntmps21
    go_wp2_with fail
    go_ret
    exact ⟨by rw [HR2.out]; rfl, HWS.out ▸ HW.out⟩
  have e1L : Hid ((ds.length == 1) = true) := by unfold Hid; rw [← HND.out]; exact e1
  have e1I : ((nd : Int) != 1) = false := by rw [ne1, e1]; rfl
  rcases e2 : (na == 0) with _ | _
  · have e2L : (ar.length == 0) = false := by rw [← HNA.out]; exact e2
    have e2I : ((na : Int) != 0) = true := by rw [ne0, e2]; rfl
    have HR2 : Hid (r = 10) := HR.out.trans (F_10 (show (1 : Int) ≤ 1 by decide) (show (1 : Int) ≤ 13 by decide) (show (ds.length == 1 && (ar.length == 0 && to.length == 0)) = false by rw [e2L]; simp))
    clear e2L
    go_enter Tryd.func21, Tryd.ntmps21
    go_wp2_with fail
    go_ret
    exact ⟨by rw [HR2.out]; rfl, HWS.out ▸ HW.out⟩
  have e2L : Hid ((ar.length == 0) = true) := by unfold Hid; rw [← HNA.out]; exact e2
  have e2I : ((na : Int) != 0) = false := by rw [ne0, e2]; rfl
  rcases e3 : (nt == 0) with _ | _
  · have e3L : (to.length == 0) = false := by rw [← HNT.out]; exact e3
    have e3I : ((nt : Int) != 0) = true := by rw [ne0, e3]; rfl
    have HR2 : Hid (r = 10) := HR.out.trans (F_10 (show (1 : Int) ≤ 1 by decide) (show (1 : Int) ≤ 13 by decide) (show (ds.length == 1 && (ar.length == 0 && to.length == 0)) = false by rw [e3L]; simp))
    clear e3L
    go_enter Tryd.func21, Tryd.ntmps21
    go_wp2_with fail
    go_ret
    exact ⟨by rw [HR2.out]; rfl, HWS.out ▸ HW.out⟩
  have e3L : Hid ((to.length == 0) = true) := by unfold Hid; rw [← HNT.out]; exact e3
  have e3I : ((nt : Int) != 0) = false := by rw [ne0, e3]; rfl
  have HCO : Hid (countOk (Ins.op ⟨1, ds, ar, nn, s, to⟩) ds.length ar.length to.length = true) := (show (ds.length == 1 && (ar.length == 0 && to.length == 0)) = true by rw [e1L.out, e2L.out, e3L.out]; rfl)
  go_enter Tryd.func21, Tryd.ntmps21
  go_wp2_with fail
  rw [← HWS.out]
  have p1 := cells2 HC0.out
  have p2 := cells6 HC1.out
  have p3 := cells6 HC2.out
  refine (allIn_any _ B _ ds W (HD.out.below (HW.out.mono hB))).mono ?_
  rintro e w1 ⟨rfl, hw1⟩
  have hw1' := hw1.symm
  subst hw1'
  rw [allB_below]
  rcases b1 : belowB c.vars ds with _ | _
  · have HR2 : Hid (r = 2) := HR.out.trans (F_2 (show (1 : Int) ≤ 1 by decide) (show (1 : Int) ≤ 13 by decide) HCO.out (by simp only [b1]; rfl))
    go_wp2_with fail
    go_ret
    exact ⟨by rw [HR2.out]; rfl, HW.out⟩
  go_wp2_with fail
  refine (allIn_any _ B _ ar W (HA.out.below (HW.out.mono hB))).mono ?_
  rintro e w2 ⟨rfl, hw2⟩
  have hw2' := hw2.symm
  subst hw2'
  rw [allB_below]
  rcases b2 : belowB c.vars ar with _ | _
  · have HR2 : Hid (r = 2) := HR.out.trans (F_2 (show (1 : Int) ≤ 1 by decide) (show (1 : Int) ≤ 13 by decide) HCO.out (by simp only [b1, b2]; rfl))
    go_wp2_with fail
    go_ret
    exact ⟨by rw [HR2.out]; rfl, HW.out⟩
  go_wp2_with fail
  refine (allIn_any _ B _ to W (HT.out.below (HW.out.mono hB))).mono ?_
  rintro e w3 ⟨rfl, hw3⟩
  have hw3' := hw3.symm
  subst hw3'
  rw [allB_below]
  rcases b3 : belowB (nb : Int) to with _ | _
  · have HR2 : Hid (r = 2) := HR.out.trans (F_2 (show (1 : Int) ≤ 1 by decide) (show (1 : Int) ≤ 13 by decide) HCO.out (by simp only [b1, b2]; rw [← HNB.out, b3]; rfl))
    go_wp2_with fail
    go_ret
    exact ⟨by rw [HR2.out]; rfl, HW.out⟩
  have HBO : Hid ((belowB c.vars ds && (belowB c.vars ar && belowB c.blocks.length to)) = true) := by unfold Hid; rw [b1, b2, ← HNB.out, b3]; rfl
  clear b1 b2 b3
  have HR2 : Hid (r = 0) := HR.out.trans (F_0 (show (1 : Int) ≤ 1 by decide) (show (1 : Int) ≤ 13 by decide) HCO.out HBO.out rfl rfl rfl)
  go_wp2_with fail
  go_ret
  exact ⟨by rw [HR2.out]; rfl, HW.out⟩

set_option maxHeartbeats 8000000 in
set_option maxRecDepth 20000 in
theorem instrR_2 : SaidR 2 := by
  intro ds ar nn s to c fs vf vdt vb vd va vt B w hB hfs hvdt hvb hb1 hb2 hv0 hv3 hd ha ht hs
  have hlF := hfs.len
  have HFS : Hid (Cods B w vf fs) := hfs
  obtain ⟨a1, k1, rfl⟩ := Lies.slice hfs
  obtain ⟨a2, n2, k2, rfl⟩ := hvdt
  obtain ⟨a3, k3, rfl⟩ := hvb
  have HD : Hid (Nums B w vd ds) := hd
  have HA : Hid (Nums B w va ar) := ha
  have HT : Hid (Nums B w vt to) := ht
  have HSL : Hid (s.length ≤ maxLen) := hs
  have hlD := hd.len
  have hlA := ha.len
  have hlT := ht.len
  obtain ⟨ad, kd, rfl⟩ := Lies.slice hd
  obtain ⟨a4, k4, rfl⟩ := Lies.slice ha
  obtain ⟨a5, k5, rfl⟩ := Lies.slice ht
  unfold maxLen at hlD hlA hlT hlF
  obtain ⟨r, hr⟩ : ∃ r, r = instrF fs c ⟨2, ds, ar, nn, s, to⟩ := ⟨_, rfl⟩
  rw [← hr]
  have HR : Hid (r = _) := hr
  obtain ⟨nd, hnd⟩ : ∃ n, n = ds.length := ⟨_, rfl⟩
  obtain ⟨na, hna⟩ : ∃ n, n = ar.length := ⟨_, rfl⟩
  obtain ⟨nt, hnt⟩ : ∃ n, n = to.length := ⟨_, rfl⟩
  obtain ⟨nb, hnb⟩ : ∃ n, n = c.blocks.length := ⟨_, rfl⟩
  have HND : Hid (nd = ds.length) := hnd
  have HNA : Hid (na = ar.length) := hna
  have HNT : Hid (nt = to.length) := hnt
  have HNB : Hid (nb = c.blocks.length) := hnb
  rw [← hnd] at hlD
  rw [← hna] at hlA
  rw [← hnt] at hlT
  rw [← hnb] at hb1 hb2
  rw [← hnb, ← hnd, ← hna, ← hnt]
  rw [← hnd] at HD
  rw [← hna] at HA
  rw [← hnt] at HT
  clear hfs hd ha ht hs hr hnd hna hnt hnb
  unfold prgV codV insV
  simp only
  obtain ⟨W, hW⟩ : ∃ W, W = ((w.alloc (.cells #[.slice a1 fs.length k1, .slice a2 n2 k2] 25)).alloc (.cells #[.string ⟨c.name.toArray⟩, .int .i64 c.params, .int .i64 c.results, .int .i64 c.vars, .int .i64 c.slots, .slice a3 nb k3] 28)).alloc (.cells #[.int .i64 2, .slice ad nd kd, .slice a4 na k4, .int .i64 nn, .string ⟨s.toArray⟩, .slice a5 nt k5] 37) := ⟨_, rfl⟩
  have HW : Hid (Below w.heap.size w W) := by rw [hW]; exact below_after (below_after (below_alloc _ _) (below_alloc _ _)) (below_alloc _ _)
  have hWs : W.heap.size = w.heap.size + 3 := by rw [hW]; simp
  have HC0 : Hid (W.heap[w.heap.size]? = some (.cells #[.slice a1 fs.length k1, .slice a2 n2 k2] 25)) := by rw [hW]; exact blk_alloc (heap_alloc2 w _ _).1 _
  have HC1 : Hid (W.heap[w.heap.size + 1]? = some (.cells #[.string ⟨c.name.toArray⟩, .int .i64 c.params, .int .i64 c.results, .int .i64 c.vars, .int .i64 c.slots, .slice a3 nb k3] 28)) := by rw [hW]; exact blk_alloc (heap_alloc2 w _ _).2 _
  have HC2 : Hid (W.heap[w.heap.size + 2]? = some (.cells #[.int .i64 2, .slice ad nd kd, .slice a4 na k4, .int .i64 nn, .string ⟨s.toArray⟩, .slice a5 nt k5] 37)) := by rw [hW]; exact heap_alloc3 w _ _ _
  have HWS : Hid (W = _) := hW
  clear hW
  have hzd : ((nd : Int) != (nd : Int)) = false := by simp
  have hza : ((na : Int) != (na : Int)) = false := by simp
  have hzt : ((nt : Int) != (nt : Int)) = false := by simp
  rcases e1 : (nd == 1) with _ | _
  · have e1L : (ds.length == 1) = false := by rw [← HND.out]; exact e1
    have e1I : ((nd : Int) != 1) = true := by rw [ne1, e1]; rfl
    have HR2 : Hid (r = 10) := HR.out.trans (F_10 (show (1 : Int) ≤ 2 by decide) (show (2 : Int) ≤ 13 by decide) (show (ds.length == 1 && (ar.length == 1 && to.length == 0)) = false by rw [e1L]; simp))
    clear e1L
    go_enter Tryd.func21, Tryd.ntmps21
    go_wp2_with fail
    go_ret
    exact ⟨by rw [HR2.out]; rfl, HWS.out ▸ HW.out⟩
  have e1L : Hid ((ds.length == 1) = true) := by unfold Hid; rw [← HND.out]; exact e1
  have e1I : ((nd : Int) != 1) = false := by rw [ne1, e1]; rfl
  rcases e2 : (na == 1) with _ | _
  · have e2L : (ar.length == 1) = false := by rw [← HNA.out]; exact e2
    have e2I : ((na : Int) != 1) = true := by rw [ne1, e2]; rfl
    have HR2 : Hid (r = 10) := HR.out.trans (F_10 (show (1 : Int) ≤ 2 by decide) (show (2 : Int) ≤ 13 by decide) (show (ds.length == 1 && (ar.length == 1 && to.length == 0)) = false by rw [e2L]; simp))
    clear e2L
    go_enter Tryd.func21, Tryd.ntmps21
    go_wp2_with fail
    go_ret
    exact ⟨by rw [HR2.out]; rfl, HWS.out ▸ HW.out⟩
  have e2L : Hid ((ar.length == 1) = true) := by unfold Hid; rw [← HNA.out]; exact e2
  have e2I : ((na : Int) != 1) = false := by rw [ne1, e2]; rfl
  rcases e3 : (nt == 0) with _ | _
  · have e3L : (to.length == 0) = false := by rw [← HNT.out]; exact e3
    have e3I : ((nt : Int) != 0) = true := by rw [ne0, e3]; rfl
    have HR2 : Hid (r = 10) := HR.out.trans (F_10 (show (1 : Int) ≤ 2 by decide) (show (2 : Int) ≤ 13 by decide) (show (ds.length == 1 && (ar.length == 1 && to.length == 0)) = false by rw [e3L]; simp))
    clear e3L
    go_enter Tryd.func21, Tryd.ntmps21
    go_wp2_with fail
    go_ret
    exact ⟨by rw [HR2.out]; rfl, HWS.out ▸ HW.out⟩
  have e3L : Hid ((to.length == 0) = true) := by unfold Hid; rw [← HNT.out]; exact e3
  have e3I : ((nt : Int) != 0) = false := by rw [ne0, e3]; rfl
  have HCO : Hid (countOk (Ins.op ⟨2, ds, ar, nn, s, to⟩) ds.length ar.length to.length = true) := (show (ds.length == 1 && (ar.length == 1 && to.length == 0)) = true by rw [e1L.out, e2L.out, e3L.out]; rfl)
  go_enter Tryd.func21, Tryd.ntmps21
  go_wp2_with fail
  rw [← HWS.out]
  have p1 := cells2 HC0.out
  have p2 := cells6 HC1.out
  have p3 := cells6 HC2.out
  refine (allIn_any _ B _ ds W (HD.out.below (HW.out.mono hB))).mono ?_
  rintro e w1 ⟨rfl, hw1⟩
  have hw1' := hw1.symm
  subst hw1'
  rw [allB_below]
  rcases b1 : belowB c.vars ds with _ | _
  · have HR2 : Hid (r = 2) := HR.out.trans (F_2 (show (1 : Int) ≤ 2 by decide) (show (2 : Int) ≤ 13 by decide) HCO.out (by simp only [b1]; rfl))
    go_wp2_with fail
    go_ret
    exact ⟨by rw [HR2.out]; rfl, HW.out⟩
  go_wp2_with fail
  refine (allIn_any _ B _ ar W (HA.out.below (HW.out.mono hB))).mono ?_
  rintro e w2 ⟨rfl, hw2⟩
  have hw2' := hw2.symm
  subst hw2'
  rw [allB_below]
  rcases b2 : belowB c.vars ar with _ | _
  · have HR2 : Hid (r = 2) := HR.out.trans (F_2 (show (1 : Int) ≤ 2 by decide) (show (2 : Int) ≤ 13 by decide) HCO.out (by simp only [b1, b2]; rfl))
    go_wp2_with fail
    go_ret
    exact ⟨by rw [HR2.out]; rfl, HW.out⟩
  go_wp2_with fail
  refine (allIn_any _ B _ to W (HT.out.below (HW.out.mono hB))).mono ?_
  rintro e w3 ⟨rfl, hw3⟩
  have hw3' := hw3.symm
  subst hw3'
  rw [allB_below]
  rcases b3 : belowB (nb : Int) to with _ | _
  · have HR2 : Hid (r = 2) := HR.out.trans (F_2 (show (1 : Int) ≤ 2 by decide) (show (2 : Int) ≤ 13 by decide) HCO.out (by simp only [b1, b2]; rw [← HNB.out, b3]; rfl))
    go_wp2_with fail
    go_ret
    exact ⟨by rw [HR2.out]; rfl, HW.out⟩
  have HBO : Hid ((belowB c.vars ds && (belowB c.vars ar && belowB c.blocks.length to)) = true) := by unfold Hid; rw [b1, b2, ← HNB.out, b3]; rfl
  clear b1 b2 b3
  have HR2 : Hid (r = 0) := HR.out.trans (F_0 (show (1 : Int) ≤ 2 by decide) (show (2 : Int) ≤ 13 by decide) HCO.out HBO.out rfl rfl rfl)
  go_wp2_with fail
  go_ret
  exact ⟨by rw [HR2.out]; rfl, HW.out⟩

set_option maxHeartbeats 8000000 in
set_option maxRecDepth 20000 in
theorem instrR_4 : SaidR 4 := by
  intro ds ar nn s to c fs vf vdt vb vd va vt B w hB hfs hvdt hvb hb1 hb2 hv0 hv3 hd ha ht hs
  have hlF := hfs.len
  have HFS : Hid (Cods B w vf fs) := hfs
  obtain ⟨a1, k1, rfl⟩ := Lies.slice hfs
  obtain ⟨a2, n2, k2, rfl⟩ := hvdt
  obtain ⟨a3, k3, rfl⟩ := hvb
  have HD : Hid (Nums B w vd ds) := hd
  have HA : Hid (Nums B w va ar) := ha
  have HT : Hid (Nums B w vt to) := ht
  have HSL : Hid (s.length ≤ maxLen) := hs
  have hlD := hd.len
  have hlA := ha.len
  have hlT := ht.len
  obtain ⟨ad, kd, rfl⟩ := Lies.slice hd
  obtain ⟨a4, k4, rfl⟩ := Lies.slice ha
  obtain ⟨a5, k5, rfl⟩ := Lies.slice ht
  unfold maxLen at hlD hlA hlT hlF
  obtain ⟨r, hr⟩ : ∃ r, r = instrF fs c ⟨4, ds, ar, nn, s, to⟩ := ⟨_, rfl⟩
  rw [← hr]
  have HR : Hid (r = _) := hr
  obtain ⟨nd, hnd⟩ : ∃ n, n = ds.length := ⟨_, rfl⟩
  obtain ⟨na, hna⟩ : ∃ n, n = ar.length := ⟨_, rfl⟩
  obtain ⟨nt, hnt⟩ : ∃ n, n = to.length := ⟨_, rfl⟩
  obtain ⟨nb, hnb⟩ : ∃ n, n = c.blocks.length := ⟨_, rfl⟩
  have HND : Hid (nd = ds.length) := hnd
  have HNA : Hid (na = ar.length) := hna
  have HNT : Hid (nt = to.length) := hnt
  have HNB : Hid (nb = c.blocks.length) := hnb
  rw [← hnd] at hlD
  rw [← hna] at hlA
  rw [← hnt] at hlT
  rw [← hnb] at hb1 hb2
  rw [← hnb, ← hnd, ← hna, ← hnt]
  rw [← hnd] at HD
  rw [← hna] at HA
  rw [← hnt] at HT
  clear hfs hd ha ht hs hr hnd hna hnt hnb
  unfold prgV codV insV
  simp only
  obtain ⟨W, hW⟩ : ∃ W, W = ((w.alloc (.cells #[.slice a1 fs.length k1, .slice a2 n2 k2] 25)).alloc (.cells #[.string ⟨c.name.toArray⟩, .int .i64 c.params, .int .i64 c.results, .int .i64 c.vars, .int .i64 c.slots, .slice a3 nb k3] 28)).alloc (.cells #[.int .i64 4, .slice ad nd kd, .slice a4 na k4, .int .i64 nn, .string ⟨s.toArray⟩, .slice a5 nt k5] 37) := ⟨_, rfl⟩
  have HW : Hid (Below w.heap.size w W) := by rw [hW]; exact below_after (below_after (below_alloc _ _) (below_alloc _ _)) (below_alloc _ _)
  have hWs : W.heap.size = w.heap.size + 3 := by rw [hW]; simp
  have HC0 : Hid (W.heap[w.heap.size]? = some (.cells #[.slice a1 fs.length k1, .slice a2 n2 k2] 25)) := by rw [hW]; exact blk_alloc (heap_alloc2 w _ _).1 _
  have HC1 : Hid (W.heap[w.heap.size + 1]? = some (.cells #[.string ⟨c.name.toArray⟩, .int .i64 c.params, .int .i64 c.results, .int .i64 c.vars, .int .i64 c.slots, .slice a3 nb k3] 28)) := by rw [hW]; exact blk_alloc (heap_alloc2 w _ _).2 _
  have HC2 : Hid (W.heap[w.heap.size + 2]? = some (.cells #[.int .i64 4, .slice ad nd kd, .slice a4 na k4, .int .i64 nn, .string ⟨s.toArray⟩, .slice a5 nt k5] 37)) := by rw [hW]; exact heap_alloc3 w _ _ _
  have HWS : Hid (W = _) := hW
  clear hW
  have hzd : ((nd : Int) != (nd : Int)) = false := by simp
  have hza : ((na : Int) != (na : Int)) = false := by simp
  have hzt : ((nt : Int) != (nt : Int)) = false := by simp
  rcases e1 : (nd == 1) with _ | _
  · have e1L : (ds.length == 1) = false := by rw [← HND.out]; exact e1
    have e1I : ((nd : Int) != 1) = true := by rw [ne1, e1]; rfl
    have HR2 : Hid (r = 10) := HR.out.trans (F_10 (show (1 : Int) ≤ 4 by decide) (show (4 : Int) ≤ 13 by decide) (show (ds.length == 1 && (ar.length == 1 && to.length == 0)) = false by rw [e1L]; simp))
    clear e1L
    go_enter Tryd.func21, Tryd.ntmps21
    go_wp2_with fail
    go_ret
    exact ⟨by rw [HR2.out]; rfl, HWS.out ▸ HW.out⟩
  have e1L : Hid ((ds.length == 1) = true) := by unfold Hid; rw [← HND.out]; exact e1
  have e1I : ((nd : Int) != 1) = false := by rw [ne1, e1]; rfl
  rcases e2 : (na == 1) with _ | _
  · have e2L : (ar.length == 1) = false := by rw [← HNA.out]; exact e2
    have e2I : ((na : Int) != 1) = true := by rw [ne1, e2]; rfl
    have HR2 : Hid (r = 10) := HR.out.trans (F_10 (show (1 : Int) ≤ 4 by decide) (show (4 : Int) ≤ 13 by decide) (show (ds.length == 1 && (ar.length == 1 && to.length == 0)) = false by rw [e2L]; simp))
    clear e2L
    go_enter Tryd.func21, Tryd.ntmps21
    go_wp2_with fail
    go_ret
    exact ⟨by rw [HR2.out]; rfl, HWS.out ▸ HW.out⟩
  have e2L : Hid ((ar.length == 1) = true) := by unfold Hid; rw [← HNA.out]; exact e2
  have e2I : ((na : Int) != 1) = false := by rw [ne1, e2]; rfl
  rcases e3 : (nt == 0) with _ | _
  · have e3L : (to.length == 0) = false := by rw [← HNT.out]; exact e3
    have e3I : ((nt : Int) != 0) = true := by rw [ne0, e3]; rfl
    have HR2 : Hid (r = 10) := HR.out.trans (F_10 (show (1 : Int) ≤ 4 by decide) (show (4 : Int) ≤ 13 by decide) (show (ds.length == 1 && (ar.length == 1 && to.length == 0)) = false by rw [e3L]; simp))
    clear e3L
    go_enter Tryd.func21, Tryd.ntmps21
    go_wp2_with fail
    go_ret
    exact ⟨by rw [HR2.out]; rfl, HWS.out ▸ HW.out⟩
  have e3L : Hid ((to.length == 0) = true) := by unfold Hid; rw [← HNT.out]; exact e3
  have e3I : ((nt : Int) != 0) = false := by rw [ne0, e3]; rfl
  have HCO : Hid (countOk (Ins.op ⟨4, ds, ar, nn, s, to⟩) ds.length ar.length to.length = true) := (show (ds.length == 1 && (ar.length == 1 && to.length == 0)) = true by rw [e1L.out, e2L.out, e3L.out]; rfl)
  go_enter Tryd.func21, Tryd.ntmps21
  go_wp2_with fail
  rw [← HWS.out]
  have p1 := cells2 HC0.out
  have p2 := cells6 HC1.out
  have p3 := cells6 HC2.out
  refine (allIn_any _ B _ ds W (HD.out.below (HW.out.mono hB))).mono ?_
  rintro e w1 ⟨rfl, hw1⟩
  have hw1' := hw1.symm
  subst hw1'
  rw [allB_below]
  rcases b1 : belowB c.vars ds with _ | _
  · have HR2 : Hid (r = 2) := HR.out.trans (F_2 (show (1 : Int) ≤ 4 by decide) (show (4 : Int) ≤ 13 by decide) HCO.out (by simp only [b1]; rfl))
    go_wp2_with fail
    go_ret
    exact ⟨by rw [HR2.out]; rfl, HW.out⟩
  go_wp2_with fail
  refine (allIn_any _ B _ ar W (HA.out.below (HW.out.mono hB))).mono ?_
  rintro e w2 ⟨rfl, hw2⟩
  have hw2' := hw2.symm
  subst hw2'
  rw [allB_below]
  rcases b2 : belowB c.vars ar with _ | _
  · have HR2 : Hid (r = 2) := HR.out.trans (F_2 (show (1 : Int) ≤ 4 by decide) (show (4 : Int) ≤ 13 by decide) HCO.out (by simp only [b1, b2]; rfl))
    go_wp2_with fail
    go_ret
    exact ⟨by rw [HR2.out]; rfl, HW.out⟩
  go_wp2_with fail
  refine (allIn_any _ B _ to W (HT.out.below (HW.out.mono hB))).mono ?_
  rintro e w3 ⟨rfl, hw3⟩
  have hw3' := hw3.symm
  subst hw3'
  rw [allB_below]
  rcases b3 : belowB (nb : Int) to with _ | _
  · have HR2 : Hid (r = 2) := HR.out.trans (F_2 (show (1 : Int) ≤ 4 by decide) (show (4 : Int) ≤ 13 by decide) HCO.out (by simp only [b1, b2]; rw [← HNB.out, b3]; rfl))
    go_wp2_with fail
    go_ret
    exact ⟨by rw [HR2.out]; rfl, HW.out⟩
  have HBO : Hid ((belowB c.vars ds && (belowB c.vars ar && belowB c.blocks.length to)) = true) := by unfold Hid; rw [b1, b2, ← HNB.out, b3]; rfl
  clear b1 b2 b3
  have HR2 : Hid (r = 0) := HR.out.trans (F_0 (show (1 : Int) ≤ 4 by decide) (show (4 : Int) ≤ 13 by decide) HCO.out HBO.out rfl rfl rfl)
  go_wp2_with fail
  go_ret
  exact ⟨by rw [HR2.out]; rfl, HW.out⟩

set_option maxHeartbeats 8000000 in
set_option maxRecDepth 20000 in
theorem instrR_5 : SaidR 5 := by
  intro ds ar nn s to c fs vf vdt vb vd va vt B w hB hfs hvdt hvb hb1 hb2 hv0 hv3 hd ha ht hs
  have hlF := hfs.len
  have HFS : Hid (Cods B w vf fs) := hfs
  obtain ⟨a1, k1, rfl⟩ := Lies.slice hfs
  obtain ⟨a2, n2, k2, rfl⟩ := hvdt
  obtain ⟨a3, k3, rfl⟩ := hvb
  have HD : Hid (Nums B w vd ds) := hd
  have HA : Hid (Nums B w va ar) := ha
  have HT : Hid (Nums B w vt to) := ht
  have HSL : Hid (s.length ≤ maxLen) := hs
  have hlD := hd.len
  have hlA := ha.len
  have hlT := ht.len
  obtain ⟨ad, kd, rfl⟩ := Lies.slice hd
  obtain ⟨a4, k4, rfl⟩ := Lies.slice ha
  obtain ⟨a5, k5, rfl⟩ := Lies.slice ht
  unfold maxLen at hlD hlA hlT hlF
  obtain ⟨r, hr⟩ : ∃ r, r = instrF fs c ⟨5, ds, ar, nn, s, to⟩ := ⟨_, rfl⟩
  rw [← hr]
  have HR : Hid (r = _) := hr
  obtain ⟨nd, hnd⟩ : ∃ n, n = ds.length := ⟨_, rfl⟩
  obtain ⟨na, hna⟩ : ∃ n, n = ar.length := ⟨_, rfl⟩
  obtain ⟨nt, hnt⟩ : ∃ n, n = to.length := ⟨_, rfl⟩
  obtain ⟨nb, hnb⟩ : ∃ n, n = c.blocks.length := ⟨_, rfl⟩
  have HND : Hid (nd = ds.length) := hnd
  have HNA : Hid (na = ar.length) := hna
  have HNT : Hid (nt = to.length) := hnt
  have HNB : Hid (nb = c.blocks.length) := hnb
  rw [← hnd] at hlD
  rw [← hna] at hlA
  rw [← hnt] at hlT
  rw [← hnb] at hb1 hb2
  rw [← hnb, ← hnd, ← hna, ← hnt]
  rw [← hnd] at HD
  rw [← hna] at HA
  rw [← hnt] at HT
  clear hfs hd ha ht hs hr hnd hna hnt hnb
  unfold prgV codV insV
  simp only
  obtain ⟨W, hW⟩ : ∃ W, W = ((w.alloc (.cells #[.slice a1 fs.length k1, .slice a2 n2 k2] 25)).alloc (.cells #[.string ⟨c.name.toArray⟩, .int .i64 c.params, .int .i64 c.results, .int .i64 c.vars, .int .i64 c.slots, .slice a3 nb k3] 28)).alloc (.cells #[.int .i64 5, .slice ad nd kd, .slice a4 na k4, .int .i64 nn, .string ⟨s.toArray⟩, .slice a5 nt k5] 37) := ⟨_, rfl⟩
  have HW : Hid (Below w.heap.size w W) := by rw [hW]; exact below_after (below_after (below_alloc _ _) (below_alloc _ _)) (below_alloc _ _)
  have hWs : W.heap.size = w.heap.size + 3 := by rw [hW]; simp
  have HC0 : Hid (W.heap[w.heap.size]? = some (.cells #[.slice a1 fs.length k1, .slice a2 n2 k2] 25)) := by rw [hW]; exact blk_alloc (heap_alloc2 w _ _).1 _
  have HC1 : Hid (W.heap[w.heap.size + 1]? = some (.cells #[.string ⟨c.name.toArray⟩, .int .i64 c.params, .int .i64 c.results, .int .i64 c.vars, .int .i64 c.slots, .slice a3 nb k3] 28)) := by rw [hW]; exact blk_alloc (heap_alloc2 w _ _).2 _
  have HC2 : Hid (W.heap[w.heap.size + 2]? = some (.cells #[.int .i64 5, .slice ad nd kd, .slice a4 na k4, .int .i64 nn, .string ⟨s.toArray⟩, .slice a5 nt k5] 37)) := by rw [hW]; exact heap_alloc3 w _ _ _
  have HWS : Hid (W = _) := hW
  clear hW
  have hzd : ((nd : Int) != (nd : Int)) = false := by simp
  have hza : ((na : Int) != (na : Int)) = false := by simp
  have hzt : ((nt : Int) != (nt : Int)) = false := by simp
  rcases e1 : (nd == 0) with _ | _
  · have e1L : (ds.length == 0) = false := by rw [← HND.out]; exact e1
    have e1I : ((nd : Int) != 0) = true := by rw [ne0, e1]; rfl
    have HR2 : Hid (r = 10) := HR.out.trans (F_10 (show (1 : Int) ≤ 5 by decide) (show (5 : Int) ≤ 13 by decide) (show (ds.length == 0 && (ar.length == 2 && to.length == 0)) = false by rw [e1L]; simp))
    clear e1L
    go_enter Tryd.func21, Tryd.ntmps21
    go_wp2_with fail
    go_ret
    exact ⟨by rw [HR2.out]; rfl, HWS.out ▸ HW.out⟩
  have e1L : Hid ((ds.length == 0) = true) := by unfold Hid; rw [← HND.out]; exact e1
  have e1I : ((nd : Int) != 0) = false := by rw [ne0, e1]; rfl
  rcases e2 : (na == 2) with _ | _
  · have e2L : (ar.length == 2) = false := by rw [← HNA.out]; exact e2
    have e2I : ((na : Int) != 2) = true := by rw [ne2, e2]; rfl
    have HR2 : Hid (r = 10) := HR.out.trans (F_10 (show (1 : Int) ≤ 5 by decide) (show (5 : Int) ≤ 13 by decide) (show (ds.length == 0 && (ar.length == 2 && to.length == 0)) = false by rw [e2L]; simp))
    clear e2L
    go_enter Tryd.func21, Tryd.ntmps21
    go_wp2_with fail
    go_ret
    exact ⟨by rw [HR2.out]; rfl, HWS.out ▸ HW.out⟩
  have e2L : Hid ((ar.length == 2) = true) := by unfold Hid; rw [← HNA.out]; exact e2
  have e2I : ((na : Int) != 2) = false := by rw [ne2, e2]; rfl
  rcases e3 : (nt == 0) with _ | _
  · have e3L : (to.length == 0) = false := by rw [← HNT.out]; exact e3
    have e3I : ((nt : Int) != 0) = true := by rw [ne0, e3]; rfl
    have HR2 : Hid (r = 10) := HR.out.trans (F_10 (show (1 : Int) ≤ 5 by decide) (show (5 : Int) ≤ 13 by decide) (show (ds.length == 0 && (ar.length == 2 && to.length == 0)) = false by rw [e3L]; simp))
    clear e3L
    go_enter Tryd.func21, Tryd.ntmps21
    go_wp2_with fail
    go_ret
    exact ⟨by rw [HR2.out]; rfl, HWS.out ▸ HW.out⟩
  have e3L : Hid ((to.length == 0) = true) := by unfold Hid; rw [← HNT.out]; exact e3
  have e3I : ((nt : Int) != 0) = false := by rw [ne0, e3]; rfl
  have HCO : Hid (countOk (Ins.op ⟨5, ds, ar, nn, s, to⟩) ds.length ar.length to.length = true) := (show (ds.length == 0 && (ar.length == 2 && to.length == 0)) = true by rw [e1L.out, e2L.out, e3L.out]; rfl)
  go_enter Tryd.func21, Tryd.ntmps21
  go_wp2_with fail
  rw [← HWS.out]
  have p1 := cells2 HC0.out
  have p2 := cells6 HC1.out
  have p3 := cells6 HC2.out
  refine (allIn_any _ B _ ds W (HD.out.below (HW.out.mono hB))).mono ?_
  rintro e w1 ⟨rfl, hw1⟩
  have hw1' := hw1.symm
  subst hw1'
  rw [allB_below]
  rcases b1 : belowB c.vars ds with _ | _
  · have HR2 : Hid (r = 2) := HR.out.trans (F_2 (show (1 : Int) ≤ 5 by decide) (show (5 : Int) ≤ 13 by decide) HCO.out (by simp only [b1]; rfl))
    go_wp2_with fail
    go_ret
    exact ⟨by rw [HR2.out]; rfl, HW.out⟩
  go_wp2_with fail
  refine (allIn_any _ B _ ar W (HA.out.below (HW.out.mono hB))).mono ?_
  rintro e w2 ⟨rfl, hw2⟩
  have hw2' := hw2.symm
  subst hw2'
  rw [allB_below]
  rcases b2 : belowB c.vars ar with _ | _
  · have HR2 : Hid (r = 2) := HR.out.trans (F_2 (show (1 : Int) ≤ 5 by decide) (show (5 : Int) ≤ 13 by decide) HCO.out (by simp only [b1, b2]; rfl))
    go_wp2_with fail
    go_ret
    exact ⟨by rw [HR2.out]; rfl, HW.out⟩
  go_wp2_with fail
  refine (allIn_any _ B _ to W (HT.out.below (HW.out.mono hB))).mono ?_
  rintro e w3 ⟨rfl, hw3⟩
  have hw3' := hw3.symm
  subst hw3'
  rw [allB_below]
  rcases b3 : belowB (nb : Int) to with _ | _
  · have HR2 : Hid (r = 2) := HR.out.trans (F_2 (show (1 : Int) ≤ 5 by decide) (show (5 : Int) ≤ 13 by decide) HCO.out (by simp only [b1, b2]; rw [← HNB.out, b3]; rfl))
    go_wp2_with fail
    go_ret
    exact ⟨by rw [HR2.out]; rfl, HW.out⟩
  have HBO : Hid ((belowB c.vars ds && (belowB c.vars ar && belowB c.blocks.length to)) = true) := by unfold Hid; rw [b1, b2, ← HNB.out, b3]; rfl
  clear b1 b2 b3
  have HR2 : Hid (r = 0) := HR.out.trans (F_0 (show (1 : Int) ≤ 5 by decide) (show (5 : Int) ≤ 13 by decide) HCO.out HBO.out rfl rfl rfl)
  go_wp2_with fail
  go_ret
  exact ⟨by rw [HR2.out]; rfl, HW.out⟩

set_option maxHeartbeats 8000000 in
set_option maxRecDepth 20000 in
theorem instrR_6 : SaidR 6 := by
  intro ds ar nn s to c fs vf vdt vb vd va vt B w hB hfs hvdt hvb hb1 hb2 hv0 hv3 hd ha ht hs
  have hlF := hfs.len
  have HFS : Hid (Cods B w vf fs) := hfs
  obtain ⟨a1, k1, rfl⟩ := Lies.slice hfs
  obtain ⟨a2, n2, k2, rfl⟩ := hvdt
  obtain ⟨a3, k3, rfl⟩ := hvb
  have HD : Hid (Nums B w vd ds) := hd
  have HA : Hid (Nums B w va ar) := ha
  have HT : Hid (Nums B w vt to) := ht
  have HSL : Hid (s.length ≤ maxLen) := hs
  have hlD := hd.len
  have hlA := ha.len
  have hlT := ht.len
  obtain ⟨ad, kd, rfl⟩ := Lies.slice hd
  obtain ⟨a4, k4, rfl⟩ := Lies.slice ha
  obtain ⟨a5, k5, rfl⟩ := Lies.slice ht
  unfold maxLen at hlD hlA hlT hlF
  obtain ⟨r, hr⟩ : ∃ r, r = instrF fs c ⟨6, ds, ar, nn, s, to⟩ := ⟨_, rfl⟩
  rw [← hr]
  have HR : Hid (r = _) := hr
  obtain ⟨nd, hnd⟩ : ∃ n, n = ds.length := ⟨_, rfl⟩
  obtain ⟨na, hna⟩ : ∃ n, n = ar.length := ⟨_, rfl⟩
  obtain ⟨nt, hnt⟩ : ∃ n, n = to.length := ⟨_, rfl⟩
  obtain ⟨nb, hnb⟩ : ∃ n, n = c.blocks.length := ⟨_, rfl⟩
  have HND : Hid (nd = ds.length) := hnd
  have HNA : Hid (na = ar.length) := hna
  have HNT : Hid (nt = to.length) := hnt
  have HNB : Hid (nb = c.blocks.length) := hnb
  rw [← hnd] at hlD
  rw [← hna] at hlA
  rw [← hnt] at hlT
  rw [← hnb] at hb1 hb2
  rw [← hnb, ← hnd, ← hna, ← hnt]
  rw [← hnd] at HD
  rw [← hna] at HA
  rw [← hnt] at HT
  clear hfs hd ha ht hs hr hnd hna hnt hnb
  unfold prgV codV insV
  simp only
  obtain ⟨W, hW⟩ : ∃ W, W = ((w.alloc (.cells #[.slice a1 fs.length k1, .slice a2 n2 k2] 25)).alloc (.cells #[.string ⟨c.name.toArray⟩, .int .i64 c.params, .int .i64 c.results, .int .i64 c.vars, .int .i64 c.slots, .slice a3 nb k3] 28)).alloc (.cells #[.int .i64 6, .slice ad nd kd, .slice a4 na k4, .int .i64 nn, .string ⟨s.toArray⟩, .slice a5 nt k5] 37) := ⟨_, rfl⟩
  have HW : Hid (Below w.heap.size w W) := by rw [hW]; exact below_after (below_after (below_alloc _ _) (below_alloc _ _)) (below_alloc _ _)
  have hWs : W.heap.size = w.heap.size + 3 := by rw [hW]; simp
  have HC0 : Hid (W.heap[w.heap.size]? = some (.cells #[.slice a1 fs.length k1, .slice a2 n2 k2] 25)) := by rw [hW]; exact blk_alloc (heap_alloc2 w _ _).1 _
  have HC1 : Hid (W.heap[w.heap.size + 1]? = some (.cells #[.string ⟨c.name.toArray⟩, .int .i64 c.params, .int .i64 c.results, .int .i64 c.vars, .int .i64 c.slots, .slice a3 nb k3] 28)) := by rw [hW]; exact blk_alloc (heap_alloc2 w _ _).2 _
  have HC2 : Hid (W.heap[w.heap.size + 2]? = some (.cells #[.int .i64 6, .slice ad nd kd, .slice a4 na k4, .int .i64 nn, .string ⟨s.toArray⟩, .slice a5 nt k5] 37)) := by rw [hW]; exact heap_alloc3 w _ _ _
  have HWS : Hid (W = _) := hW
  clear hW
  have hzd : ((nd : Int) != (nd : Int)) = false := by simp
  have hza : ((na : Int) != (na : Int)) = false := by simp
  have hzt : ((nt : Int) != (nt : Int)) = false := by simp
  rcases e1 : (nd == 1) with _ | _
  · have e1L : (ds.length == 1) = false := by rw [← HND.out]; exact e1
    have e1I : ((nd : Int) != 1) = true := by rw [ne1, e1]; rfl
    have HR2 : Hid (r = 10) := HR.out.trans (F_10 (show (1 : Int) ≤ 6 by decide) (show (6 : Int) ≤ 13 by decide) (show (ds.length == 1 && (ar.length == 1 && to.length == 0)) = false by rw [e1L]; simp))
    clear e1L
    go_enter Tryd.func21, Tryd.ntmps21
    go_wp2_with fail
    go_ret
    exact ⟨by rw [HR2.out]; rfl, HWS.out ▸ HW.out⟩
  have e1L : Hid ((ds.length == 1) = true) := by unfold Hid; rw [← HND.out]; exact e1
  have e1I : ((nd : Int) != 1) = false := by rw [ne1, e1]; rfl
  rcases e2 : (na == 1) with _ | _
  · have e2L : (ar.length == 1) = false := by rw [← HNA.out]; exact e2
    have e2I : ((na : Int) != 1) = true := by rw [ne1, e2]; rfl
    have HR2 : Hid (r = 10) := HR.out.trans (F_10 (show (1 : Int) ≤ 6 by decide) (show (6 : Int) ≤ 13 by decide) (show (ds.length == 1 && (ar.length == 1 && to.length == 0)) = false by rw [e2L]; simp))
    clear e2L
    go_enter Tryd.func21, Tryd.ntmps21
    go_wp2_with fail
    go_ret
    exact ⟨by rw [HR2.out]; rfl, HWS.out ▸ HW.out⟩
  have e2L : Hid ((ar.length == 1) = true) := by unfold Hid; rw [← HNA.out]; exact e2
  have e2I : ((na : Int) != 1) = false := by rw [ne1, e2]; rfl
  rcases e3 : (nt == 0) with _ | _
  · have e3L : (to.length == 0) = false := by rw [← HNT.out]; exact e3
    have e3I : ((nt : Int) != 0) = true := by rw [ne0, e3]; rfl
    have HR2 : Hid (r = 10) := HR.out.trans (F_10 (show (1 : Int) ≤ 6 by decide) (show (6 : Int) ≤ 13 by decide) (show (ds.length == 1 && (ar.length == 1 && to.length == 0)) = false by rw [e3L]; simp))
    clear e3L
    go_enter Tryd.func21, Tryd.ntmps21
    go_wp2_with fail
    go_ret
    exact ⟨by rw [HR2.out]; rfl, HWS.out ▸ HW.out⟩
  have e3L : Hid ((to.length == 0) = true) := by unfold Hid; rw [← HNT.out]; exact e3
  have e3I : ((nt : Int) != 0) = false := by rw [ne0, e3]; rfl
  have HCO : Hid (countOk (Ins.op ⟨6, ds, ar, nn, s, to⟩) ds.length ar.length to.length = true) := (show (ds.length == 1 && (ar.length == 1 && to.length == 0)) = true by rw [e1L.out, e2L.out, e3L.out]; rfl)
  go_enter Tryd.func21, Tryd.ntmps21
  go_wp2_with fail
  rw [← HWS.out]
  have p1 := cells2 HC0.out
  have p2 := cells6 HC1.out
  have p3 := cells6 HC2.out
  refine (allIn_any _ B _ ds W (HD.out.below (HW.out.mono hB))).mono ?_
  rintro e w1 ⟨rfl, hw1⟩
  have hw1' := hw1.symm
  subst hw1'
  rw [allB_below]
  rcases b1 : belowB c.vars ds with _ | _
  · have HR2 : Hid (r = 2) := HR.out.trans (F_2 (show (1 : Int) ≤ 6 by decide) (show (6 : Int) ≤ 13 by decide) HCO.out (by simp only [b1]; rfl))
    go_wp2_with fail
    go_ret
    exact ⟨by rw [HR2.out]; rfl, HW.out⟩
  go_wp2_with fail
  refine (allIn_any _ B _ ar W (HA.out.below (HW.out.mono hB))).mono ?_
  rintro e w2 ⟨rfl, hw2⟩
  have hw2' := hw2.symm
  subst hw2'
  rw [allB_below]
  rcases b2 : belowB c.vars ar with _ | _
  · have HR2 : Hid (r = 2) := HR.out.trans (F_2 (show (1 : Int) ≤ 6 by decide) (show (6 : Int) ≤ 13 by decide) HCO.out (by simp only [b1, b2]; rfl))
    go_wp2_with fail
    go_ret
    exact ⟨by rw [HR2.out]; rfl, HW.out⟩
  go_wp2_with fail
  refine (allIn_any _ B _ to W (HT.out.below (HW.out.mono hB))).mono ?_
  rintro e w3 ⟨rfl, hw3⟩
  have hw3' := hw3.symm
  subst hw3'
  rw [allB_below]
  rcases b3 : belowB (nb : Int) to with _ | _
  · have HR2 : Hid (r = 2) := HR.out.trans (F_2 (show (1 : Int) ≤ 6 by decide) (show (6 : Int) ≤ 13 by decide) HCO.out (by simp only [b1, b2]; rw [← HNB.out, b3]; rfl))
    go_wp2_with fail
    go_ret
    exact ⟨by rw [HR2.out]; rfl, HW.out⟩
  have HBO : Hid ((belowB c.vars ds && (belowB c.vars ar && belowB c.blocks.length to)) = true) := by unfold Hid; rw [b1, b2, ← HNB.out, b3]; rfl
  clear b1 b2 b3
  have HR2 : Hid (r = 0) := HR.out.trans (F_0 (show (1 : Int) ≤ 6 by decide) (show (6 : Int) ≤ 13 by decide) HCO.out HBO.out rfl rfl rfl)
  go_wp2_with fail
  go_ret
  exact ⟨by rw [HR2.out]; rfl, HW.out⟩
end

end Go.Proofs.YthlngmknifpbjaaDoor
