/-
  each: a list is looked through, till something is wrong.
-/
import Derived.Test.YtbpbpihboenbeaaDoorSoH
namespace Go.Proofs.YtbpbpihboenbeaaDoor
open Go.RowKit Go.Maps
set_option linter.unusedSimpArgs false
set_option linter.unusedVariables false



set_option maxHeartbeats 4000000 in
set_option maxRecDepth 20000 in
theorem eachI_any (w : World) (B p1 p2 : Nat) (v : Value) (b : List Ins) (E : Nat → Int) (I : Nat → World → Prop) (J : World → Prop) (hb : Blk B w v b) (hB : B ≤ w.heap.size) (hI0 : I 0 w)
    (hkeep : ∀ i w1 w2, I i w1 → Below w1.heap.size w1 w2 → I i w2) (hbel : ∀ i w1, I i w1 → Below B w w1) (hIJ : ∀ i w1, I i w1 → J w1)
    (hlook : ∀ (i : Nat) (x : Ins) (w1 : World) (vd va vt : Value), b[i]? = some x → I i w1 → Nums B w1 vd x.ds → Nums B w1 va x.ar → Nums B w1 vt x.to → x.s.length ≤ maxLen → Calls Tryd.prog 59 #[.int .i64 (i : Int), insV x vd va vt, .pointer (some ⟨p1, 0, none⟩), .pointer (some ⟨p2, 0, none⟩)] w1 fun e w' => e = .returned (.int .i64 (E i)) ∧ (E i = 0 → I (i + 1) w') ∧ J w') :
    Calls Tryd.prog 58 #[v, .func (.func 59) #[] #[.pointer (some ⟨p1, 0, none⟩), .pointer (some ⟨p2, 0, none⟩)]] w fun e w' => e = .returned (.int .i64 (firstNZ E 0 b.length)) ∧ J w' := by
  obtain ⟨a, c, rfl⟩ := Lies.slice hb
  have hlm := hb.len
  unfold maxLen at hlm
  have HBK : Hid (Blk B w (.slice a b.length c) b) := hb
  have HI0 : Hid (_) := hI0
  have HK : Hid (_) := hkeep
  have HBE : Hid (_) := hbel
  have HIJ : Hid (_) := hIJ
  have HL : Hid (_) := hlook
  obtain ⟨r, hr⟩ : ∃ r, r = firstNZ E 0 b.length := ⟨_, rfl⟩
  rw [← hr]
  have HR : Hid (r = firstNZ E 0 b.length) := hr
  clear hb hI0 hkeep hbel hIJ hlook hr
  obtain ⟨n, hn⟩ : ∃ n, n = b.length := ⟨_, rfl⟩
  rw [← hn] at hlm HR ⊢
  have HN : Hid (n = b.length) := hn
  clear hn
  go_enter Tryd.func58, Tryd.ntmps58
  go_wp2_with fail
  go_loopg [10] n (fun g s10 wr => ∃ (i : Nat), s10 = .int .i64 (i : Nat) ∧ i + g = n ∧ Hid (I i wr) ∧ Hid (r = firstNZ E i g))
  case atStart => exact ⟨0, rfl, by omega, HI0, HR⟩
  case round =>
    clear HI0 HR
    obtain ⟨i, rfl, hig, HI, HR⟩ := hrel
    cases gk with
    | zero =>
      have hlt : ¬ (i : Int) < (n : Int) := by omega
      have hltb : decide ((i : Int) < (n : Int)) = false := by simpa using hlt
      have HR2 : Hid (r = 0) := HR.out
      go_wp2_with fail
      go_ret
      exact ⟨by rw [HR2.out]; rfl, HIJ.out _ _ HI.out⟩
    | succ g =>
      have hlt : (i : Int) < (n : Int) := by omega
      have hltb : decide ((i : Int) < (n : Int)) = true := by simpa using hlt
      have hilt : i < b.length := by have := HN.out; omega
      have hget : b[i]? = some b[i] := List.getElem?_eq_getElem hilt
      generalize b[i] = x at hget
      have hbe := HBE.out _ _ HI.out
      obtain ⟨ga, o, cs, rfl, hgB, hcs, hu, hcell⟩ := Lies.at HBK.out hget
      obtain ⟨vd, va, vt, rfl, hd, ha, ht, hsl, _⟩ := hu
      obtain ⟨ad, cd, rfl⟩ := Lies.slice hd
      obtain ⟨aa, ca, rfl⟩ := Lies.slice ha
      obtain ⟨at', ct, rfl⟩ := Lies.slice ht
      have q0 := hcell 0 (by decide)
      have q1 := hcell 1 (by decide)
      have q2 := hcell 2 (by decide)
      have q3 := hcell 3 (by decide)
      have q4 := hcell 4 (by decide)
      have q5 := hcell 5 (by decide)
      simp at q0 q1 q2 q3 q4 q5
      rw [← hbe.cell (p := ⟨ga, o + i * 6, none⟩) hgB] at q0
      rw [← hbe.cell (p := ⟨ga, o + i * 6 + 1, none⟩) hgB] at q1
      rw [← hbe.cell (p := ⟨ga, o + i * 6 + 2, none⟩) hgB] at q2
      rw [← hbe.cell (p := ⟨ga, o + i * 6 + 3, none⟩) hgB] at q3
      rw [← hbe.cell (p := ⟨ga, o + i * 6 + 4, none⟩) hgB] at q4
      rw [← hbe.cell (p := ⟨ga, o + i * 6 + 5, none⟩) hgB] at q5
      have hgal : ga < wr.heap.size := World.block_lt_of_cell? wr _ q0
      have HI2 : Hid (I i (wr.alloc (.cells #[.int .i64 x.op, .slice ad x.ds.length cd, .slice aa x.ar.length ca, .int .i64 x.n, .string ⟨x.s.toArray⟩, .slice at' x.to.length ct] 43))) := HK.out _ _ _ HI.out (below_alloc _ _)
      have hbe2 : Below B w (wr.alloc (.cells #[.int .i64 x.op, .slice ad x.ds.length cd, .slice aa x.ar.length ca, .int .i64 x.n, .string ⟨x.s.toArray⟩, .slice at' x.to.length ct] 43)) := HBE.out _ _ HI2.out
      have HD : Hid (Nums B (wr.alloc (.cells #[.int .i64 x.op, .slice ad x.ds.length cd, .slice aa x.ar.length ca, .int .i64 x.n, .string ⟨x.s.toArray⟩, .slice at' x.to.length ct] 43)) _ x.ds) := Nums.below hd hbe2
      have HA : Hid (Nums B (wr.alloc (.cells #[.int .i64 x.op, .slice ad x.ds.length cd, .slice aa x.ar.length ca, .int .i64 x.n, .string ⟨x.s.toArray⟩, .slice at' x.to.length ct] 43)) _ x.ar) := Nums.below ha hbe2
      have HT : Hid (Nums B (wr.alloc (.cells #[.int .i64 x.op, .slice ad x.ds.length cd, .slice aa x.ar.length ca, .int .i64 x.n, .string ⟨x.s.toArray⟩, .slice at' x.to.length ct] 43)) _ x.to) := Nums.below ht hbe2
      have HSL : Hid (_) := hsl
      clear hd ha ht hsl hbe2
      have HGET : Hid (_) := hget
      clear hcell hget hcs hbe
      go_wp2_with fail
      refine (HL.out i x _ _ _ _ HGET.out HI2.out HD.out HA.out HT.out HSL.out).mono ?_
      rintro e w1 ⟨rfl, hi1, hj1⟩
      have HI3 : Hid (_) := hi1
      have HJ3 : Hid (_) := hj1
      clear hi1 hj1
      rcases hE : (E i != 0) with _ | _
      · have HR2 : Hid (r = firstNZ E (i + 1) g) := by unfold Hid; rw [HR.out, firstNZ_step E i g hE]
        have hE0 : E i = 0 := by simpa using hE
        have HI4 : Hid (I (i + 1) w1) := HI3.out hE0
        clear hE0
        go_wp2_with fail
        go_roundg g
        case measure => omega
        case rel => exact ⟨i + 1, by go_num, by omega, HI4, HR2⟩
      · have HR2 : Hid (r = E i) := by unfold Hid; rw [HR.out, firstNZ_hit E i g hE]
        go_wp2_with fail
        go_ret
        exact ⟨by rw [HR2.out]; rfl, HJ3.out⟩

set_option maxHeartbeats 4000000 in
set_option maxRecDepth 20000 in
theorem eachB_any (w : World) (B p1 p2 p3 : Nat) (v : Value) (b : List (List Ins)) (E : Nat → Int) (I : Nat → World → Prop) (J : World → Prop) (hb : Blks B w v b) (hB : B ≤ w.heap.size) (hI0 : I 0 w)
    (hkeep : ∀ i w1 w2, I i w1 → Below w1.heap.size w1 w2 → I i w2) (hbel : ∀ i w1, I i w1 → Below B w w1) (hIJ : ∀ i w1, I i w1 → J w1)
    (hlook : ∀ (i : Nat) (x : (List Ins)) (w1 : World) (vb : Value), b[i]? = some x → I i w1 → Blk B w1 vb x → Calls Tryd.prog 47 #[.int .i64 (i : Int), vb, .pointer (some ⟨p1, 0, none⟩), .pointer (some ⟨p2, 0, none⟩), .pointer (some ⟨p3, 0, none⟩)] w1 fun e w' => e = .returned (.int .i64 (E i)) ∧ (E i = 0 → I (i + 1) w') ∧ J w') :
    Calls Tryd.prog 46 #[v, .func (.func 47) #[] #[.pointer (some ⟨p1, 0, none⟩), .pointer (some ⟨p2, 0, none⟩), .pointer (some ⟨p3, 0, none⟩)]] w fun e w' => e = .returned (.int .i64 (firstNZ E 0 b.length)) ∧ J w' := by
  obtain ⟨a, c, rfl⟩ := Lies.slice hb
  have hlm := hb.len
  unfold maxLen at hlm
  have HBK : Hid (Blks B w (.slice a b.length c) b) := hb
  have HI0 : Hid (_) := hI0
  have HK : Hid (_) := hkeep
  have HBE : Hid (_) := hbel
  have HIJ : Hid (_) := hIJ
  have HL : Hid (_) := hlook
  obtain ⟨r, hr⟩ : ∃ r, r = firstNZ E 0 b.length := ⟨_, rfl⟩
  rw [← hr]
  have HR : Hid (r = firstNZ E 0 b.length) := hr
  clear hb hI0 hkeep hbel hIJ hlook hr
  obtain ⟨n, hn⟩ : ∃ n, n = b.length := ⟨_, rfl⟩
  rw [← hn] at hlm HR ⊢
  have HN : Hid (n = b.length) := hn
  clear hn
  go_enter Tryd.func46, Tryd.ntmps46
  go_wp2_with fail
  go_loopg [10] n (fun g s10 wr => ∃ (i : Nat), s10 = .int .i64 (i : Nat) ∧ i + g = n ∧ Hid (I i wr) ∧ Hid (r = firstNZ E i g))
  case atStart => exact ⟨0, rfl, by omega, HI0, HR⟩
  case round =>
    clear HI0 HR
    obtain ⟨i, rfl, hig, HI, HR⟩ := hrel
    cases gk with
    | zero =>
      have hlt : ¬ (i : Int) < (n : Int) := by omega
      have hltb : decide ((i : Int) < (n : Int)) = false := by simpa using hlt
      have HR2 : Hid (r = 0) := HR.out
      go_wp2_with fail
      go_ret
      exact ⟨by rw [HR2.out]; rfl, HIJ.out _ _ HI.out⟩
    | succ g =>
      have hlt : (i : Int) < (n : Int) := by omega
      have hltb : decide ((i : Int) < (n : Int)) = true := by simpa using hlt
      have hilt : i < b.length := by have := HN.out; omega
      have hget : b[i]? = some b[i] := List.getElem?_eq_getElem hilt
      generalize b[i] = x at hget
      have hbe := HBE.out _ _ HI.out
      obtain ⟨ga, o, cs, rfl, hgB, hcs, hu, hcell⟩ := Lies.at HBK.out hget
      obtain ⟨vb, rfl, hvb⟩ := hu
      obtain ⟨ab, cb, rfl⟩ := Lies.slice hvb
      have q0 := hcell 0 (by decide)
      simp at q0
      rw [← hbe.cell (p := ⟨ga, o + i, none⟩) hgB] at q0
      have hgal : ga < wr.heap.size := World.block_lt_of_cell? wr _ q0
      have HI2 : Hid (I i wr) := HI
      have HV : Hid (Blk B wr _ x) := Blk.below hvb hbe
      clear hvb
      have HGET : Hid (_) := hget
      clear hcell hget hcs hbe
      go_wp2_with fail
      refine (HL.out i x _ _ HGET.out HI2.out HV.out).mono ?_
      rintro e w1 ⟨rfl, hi1, hj1⟩
      have HI3 : Hid (_) := hi1
      have HJ3 : Hid (_) := hj1
      clear hi1 hj1
      rcases hE : (E i != 0) with _ | _
      · have HR2 : Hid (r = firstNZ E (i + 1) g) := by unfold Hid; rw [HR.out, firstNZ_step E i g hE]
        have hE0 : E i = 0 := by simpa using hE
        have HI4 : Hid (I (i + 1) w1) := HI3.out hE0
        clear hE0
        go_wp2_with fail
        go_roundg g
        case measure => omega
        case rel => exact ⟨i + 1, by go_num, by omega, HI4, HR2⟩
      · have HR2 : Hid (r = E i) := by unfold Hid; rw [HR.out, firstNZ_hit E i g hE]
        go_wp2_with fail
        go_ret
        exact ⟨by rw [HR2.out]; rfl, HJ3.out⟩

set_option maxHeartbeats 4000000 in
set_option maxRecDepth 20000 in
theorem eachC_any (w : World) (B p1 p2 p3 : Nat) (v : Value) (b : List Cod) (E : Nat → Int) (I : Nat → World → Prop) (J : World → Prop) (hb : Cods B w v b) (hB : B ≤ w.heap.size) (hI0 : I 0 w)
    (hkeep : ∀ i w1 w2, I i w1 → Below w1.heap.size w1 w2 → I i w2) (hbel : ∀ i w1, I i w1 → Below B w w1) (hIJ : ∀ i w1, I i w1 → J w1)
    (hlook : ∀ (i : Nat) (x : Cod) (w1 : World) (vb : Value), b[i]? = some x → I i w1 → Blks B w1 vb x.blocks → Calls Tryd.prog 35 #[.int .i64 (i : Int), codV x vb, .pointer (some ⟨p1, 0, none⟩), .pointer (some ⟨p2, 0, none⟩), .pointer (some ⟨p3, 0, none⟩)] w1 fun e w' => e = .returned (.int .i64 (E i)) ∧ (E i = 0 → I (i + 1) w') ∧ J w') :
    Calls Tryd.prog 34 #[v, .func (.func 35) #[] #[.pointer (some ⟨p1, 0, none⟩), .pointer (some ⟨p2, 0, none⟩), .pointer (some ⟨p3, 0, none⟩)]] w fun e w' => e = .returned (.int .i64 (firstNZ E 0 b.length)) ∧ J w' := by
  obtain ⟨a, c, rfl⟩ := Lies.slice hb
  have hlm := hb.len
  unfold maxLen at hlm
  have HBK : Hid (Cods B w (.slice a b.length c) b) := hb
  have HI0 : Hid (_) := hI0
  have HK : Hid (_) := hkeep
  have HBE : Hid (_) := hbel
  have HIJ : Hid (_) := hIJ
  have HL : Hid (_) := hlook
  obtain ⟨r, hr⟩ : ∃ r, r = firstNZ E 0 b.length := ⟨_, rfl⟩
  rw [← hr]
  have HR : Hid (r = firstNZ E 0 b.length) := hr
  clear hb hI0 hkeep hbel hIJ hlook hr
  obtain ⟨n, hn⟩ : ∃ n, n = b.length := ⟨_, rfl⟩
  rw [← hn] at hlm HR ⊢
  have HN : Hid (n = b.length) := hn
  clear hn
  go_enter Tryd.func34, Tryd.ntmps34
  go_wp2_with fail
  go_loopg [10] n (fun g s10 wr => ∃ (i : Nat), s10 = .int .i64 (i : Nat) ∧ i + g = n ∧ Hid (I i wr) ∧ Hid (r = firstNZ E i g))
  case atStart => exact ⟨0, rfl, by omega, HI0, HR⟩
  case round =>
    clear HI0 HR
    obtain ⟨i, rfl, hig, HI, HR⟩ := hrel
    cases gk with
    | zero =>
      have hlt : ¬ (i : Int) < (n : Int) := by omega
      have hltb : decide ((i : Int) < (n : Int)) = false := by simpa using hlt
      have HR2 : Hid (r = 0) := HR.out
      go_wp2_with fail
      go_ret
      exact ⟨by rw [HR2.out]; rfl, HIJ.out _ _ HI.out⟩
    | succ g =>
      have hlt : (i : Int) < (n : Int) := by omega
      have hltb : decide ((i : Int) < (n : Int)) = true := by simpa using hlt
      have hilt : i < b.length := by have := HN.out; omega
      have hget : b[i]? = some b[i] := List.getElem?_eq_getElem hilt
      generalize b[i] = x at hget
      have hbe := HBE.out _ _ HI.out
      obtain ⟨ga, o, cs, rfl, hgB, hcs, hu, hcell⟩ := Lies.at HBK.out hget
      obtain ⟨vb, rfl, hvb, hnl, _⟩ := hu
      obtain ⟨ab, cb, rfl⟩ := Lies.slice hvb
      have q0 := hcell 0 (by decide)
      have q1 := hcell 1 (by decide)
      have q2 := hcell 2 (by decide)
      have q3 := hcell 3 (by decide)
      have q4 := hcell 4 (by decide)
      have q5 := hcell 5 (by decide)
      simp at q0 q1 q2 q3 q4 q5
      rw [← hbe.cell (p := ⟨ga, o + i * 6, none⟩) hgB] at q0
      rw [← hbe.cell (p := ⟨ga, o + i * 6 + 1, none⟩) hgB] at q1
      rw [← hbe.cell (p := ⟨ga, o + i * 6 + 2, none⟩) hgB] at q2
      rw [← hbe.cell (p := ⟨ga, o + i * 6 + 3, none⟩) hgB] at q3
      rw [← hbe.cell (p := ⟨ga, o + i * 6 + 4, none⟩) hgB] at q4
      rw [← hbe.cell (p := ⟨ga, o + i * 6 + 5, none⟩) hgB] at q5
      have hgal : ga < wr.heap.size := World.block_lt_of_cell? wr _ q0
      have HI2 : Hid (I i (wr.alloc (.cells #[.string ⟨x.name.toArray⟩, .int .i64 x.params, .int .i64 x.results, .int .i64 x.vars, .int .i64 x.slots, .slice ab x.blocks.length cb] 28))) := HK.out _ _ _ HI.out (below_alloc _ _)
      have HV : Hid (Blks B (wr.alloc (.cells #[.string ⟨x.name.toArray⟩, .int .i64 x.params, .int .i64 x.results, .int .i64 x.vars, .int .i64 x.slots, .slice ab x.blocks.length cb] 28)) _ x.blocks) := Blks.below hvb (HBE.out _ _ HI2.out)
      clear hvb hnl
      have HGET : Hid (_) := hget
      clear hcell hget hcs hbe
      go_wp2_with fail
      refine (HL.out i x _ _ HGET.out HI2.out HV.out).mono ?_
      rintro e w1 ⟨rfl, hi1, hj1⟩
      have HI3 : Hid (_) := hi1
      have HJ3 : Hid (_) := hj1
      clear hi1 hj1
      rcases hE : (E i != 0) with _ | _
      · have HR2 : Hid (r = firstNZ E (i + 1) g) := by unfold Hid; rw [HR.out, firstNZ_step E i g hE]
        have hE0 : E i = 0 := by simpa using hE
        have HI4 : Hid (I (i + 1) w1) := HI3.out hE0
        clear hE0
        go_wp2_with fail
        go_roundg g
        case measure => omega
        case rel => exact ⟨i + 1, by go_num, by omega, HI4, HR2⟩
      · have HR2 : Hid (r = E i) := by unfold Hid; rw [HR.out, firstNZ_hit E i g hE]
        go_wp2_with fail
        go_ret
        exact ⟨by rw [HR2.out]; rfl, HJ3.out⟩

end Go.Proofs.YtbpbpihboenbeaaDoor
