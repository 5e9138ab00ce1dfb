/-
  Package ssa: code without its Phis.
-/
import Derived.Test.YthlngmknifpbjaaDoorJSaB
import Derived.RegionTactic
import Derived.Deep.RegionWith
import Derived.Deep.QuietTactic
import Derived.BigQuiet
import Derived.Laws.MakeOwn
namespace Go.Proofs.YthlngmknifpbjaaDoor
section
open Go.RowKit
set_option linter.unusedSimpArgs false
set_option linter.unusedVariables false

/-- how many Phis stand ahead -/
def phiN (b : List Ins) : Nat := (b.takeWhile fun i => i.op == 14).length
theorem phiN_le (b : List Ins) : phiN b ≤ b.length := by
  unfold phiN
  exact (List.takeWhile_prefix _).length_le
theorem phiN_lt {b : List Ins} {k : Nat} {x : Ins} (h : k ≤ phiN b) (hx : b[k]? = some x) (hp : x.op = 14) : k + 1 ≤ phiN b := by
  unfold phiN at *
  induction b generalizing k with
  | nil => simp at hx
  | cons y l ih =>
    rw [List.takeWhile_cons] at h ⊢
    rcases k with _ | k
    · simp at hx; subst hx
      rw [if_pos (by simp [hp])]; simp
    · split at h
      · rename_i hy
        rw [if_pos hy]
        simp at hx h ⊢
        have := ih (k := k) (by omega) hx
        omega
      · simp at h
theorem phiN_end {b : List Ins} {k : Nat} (h : k ≤ phiN b) (hk : ∀ x, b[k]? = some x → x.op ≠ 14) : phiN b = k := by
  unfold phiN at *
  induction b generalizing k with
  | nil => simp at h; simp [h]
  | cons y l ih =>
    rw [List.takeWhile_cons] at h ⊢
    rcases k with _ | k
    · have := hk y (by simp)
      rw [if_neg (by simpa using this)]; rfl
    · split at h
      · rename_i hy
        rw [if_pos hy]
        simp at h hk ⊢
        exact ih (by omega) hk
      · simp at h
theorem phiN_op {b : List Ins} {k : Nat} {x : Ins} (h : k < phiN b) (hx : b[k]? = some x) : x.op = 14 := by
  unfold phiN at *
  induction b generalizing k with
  | nil => simp at hx
  | cons y l ih =>
    rw [List.takeWhile_cons] at h
    split at h
    · rename_i hy
      rcases k with _ | k
      · simp at hx; subst hx; simpa using hy
      · simp at hx h; exact ih h hx
    · simp at h

set_option maxHeartbeats 1000000 in
theorem phisOf_any (b : List Ins) (v : Value) (B : Nat) (w : World) (hb : Blk B w v b) :
    Calls Tryd.prog 27 #[v] w fun e w' => e = .returned (.int .i64 (phiN b : Nat)) ∧ w' = w := by
  obtain ⟨a, c, rfl⟩ := Lies.slice hb
  have hl := hb.len
  unfold maxLen at hl
  have HB : Hid (Blk B w (.slice a b.length c) b) := hb
  clear hb
  go_enter Tryd.func27, Tryd.ntmps27
  go_wp2_with fail
  go_loopg [3] (b.length + 1) (fun g s3 wr => ∃ i : Nat, s3 = .int .i64 (i : Nat) ∧ i + g = b.length + 1 ∧ wr = w ∧ Hid (i ≤ phiN b))
  case atStart => exact ⟨0, rfl, by omega, rfl, Nat.zero_le _⟩
  case round =>
    obtain ⟨i, rfl, hi', rfl, HI⟩ := hrel
    have hib : i ≤ b.length := Nat.le_trans HI.out (phiN_le b)
    cases gk with
    | zero => omega
    | succ g =>
      by_cases hlt0 : i < b.length
      · have hlt : (i : Int) < (b.length : Int) := by omega
        have hget : b[i]? = some b[i] := List.getElem?_eq_getElem hlt0
        generalize b[i] = x at hget
        obtain ⟨g1, o1, cs1, rfl, hgB, hcs1, ⟨vd, va, vt, rfl, _⟩, hcell1⟩ := Lies.at HB.out hget
        have q0 := hcell1 0 (by decide)
        simp at q0
        have HG : Hid (_) := hget
        clear hcell1 hget hcs1
        rcases hp : (x.op == 14) with _ | _
        · have HE : Hid (phiN b = i) := phiN_end HI.out fun y hy => by rw [HG.out] at hy; cases hy; simpa using hp
          go_wp2_with fail
          go_ret
          exact ⟨by rw [HE.out]; rfl, rfl⟩
        · have HE : Hid (i + 1 ≤ phiN b) := phiN_lt HI.out HG.out (by simpa using hp)
          go_wp2_with fail
          go_roundg g
          case measure => omega
          case rel => exact ⟨i + 1, by go_num, by omega, rfl, HE⟩
      · have hlt : ¬ (i : Int) < (b.length : Int) := by omega
        have HE : Hid (phiN b = i) := phiN_end HI.out fun x hx => by have := (List.getElem?_eq_some_iff.1 hx).1; omega
        go_wp2_with fail
        go_ret
        exact ⟨by rw [HE.out]; rfl, rfl⟩

set_option maxHeartbeats 1000000 in
theorem phisRef_any (b : List Ins) (v : Value) (B : Nat) (w : World) (hb : Blk B w v b) :
    Calls Tryd.prog 7 #[v] w fun e w' => e = .returned (.int .i64 (phiN b : Nat)) ∧ w' = w := by
  obtain ⟨a, c, rfl⟩ := Lies.slice hb
  have hl := hb.len
  unfold maxLen at hl
  have HB : Hid (Blk B w (.slice a b.length c) b) := hb
  clear hb
  go_enter Tryd.func7, Tryd.ntmps7
  go_wp2_with fail
  go_loopg [3] (b.length + 1) (fun g s3 wr => ∃ i : Nat, s3 = .int .i64 (i : Nat) ∧ i + g = b.length + 1 ∧ wr = w ∧ Hid (i ≤ phiN b))
  case atStart => exact ⟨0, rfl, by omega, rfl, Nat.zero_le _⟩
  case round =>
    obtain ⟨i, rfl, hi', rfl, HI⟩ := hrel
    have hib : i ≤ b.length := Nat.le_trans HI.out (phiN_le b)
    cases gk with
    | zero => omega
    | succ g =>
      by_cases hlt0 : i < b.length
      · have hlt : (i : Int) < (b.length : Int) := by omega
        have hget : b[i]? = some b[i] := List.getElem?_eq_getElem hlt0
        generalize b[i] = x at hget
        obtain ⟨g1, o1, cs1, rfl, hgB, hcs1, ⟨vd, va, vt, rfl, _⟩, hcell1⟩ := Lies.at HB.out hget
        have q0 := hcell1 0 (by decide)
        simp at q0
        have HG : Hid (_) := hget
        clear hcell1 hget hcs1
        rcases hp : (x.op == 14) with _ | _
        · have HE : Hid (phiN b = i) := phiN_end HI.out fun y hy => by rw [HG.out] at hy; cases hy; simpa using hp
          go_wp2_with fail
          go_ret
          exact ⟨by rw [HE.out]; rfl, rfl⟩
        · have HE : Hid (i + 1 ≤ phiN b) := phiN_lt HI.out HG.out (by simpa using hp)
          go_wp2_with fail
          go_roundg g
          case measure => omega
          case rel => exact ⟨i + 1, by go_num, by omega, rfl, HE⟩
      · have hlt : ¬ (i : Int) < (b.length : Int) := by omega
        have HE : Hid (phiN b = i) := phiN_end HI.out fun x hx => by have := (List.getElem?_eq_some_iff.1 hx).1; omega
        go_wp2_with fail
        go_ret
        exact ⟨by rw [HE.out]; rfl, rfl⟩
end

section
open Go.RowKit
set_option linter.unusedSimpArgs false
set_option linter.unusedVariables false

/-- the places in the last instruction of a block -/
def leadsL (b : List Ins) : List Int := match b.getLast? with
  | none => []
  | some i => i.to
/-- does block i lead to block t -/
def leadsB (bs : List (List Ins)) (t i : Nat) : Bool := (leadsL (bs.getD i [])).contains (t : Int)
/-- those of the first m blocks that lead to block t -/
def rowB (bs : List (List Ins)) (t m : Nat) : List Int := ((List.range m).filter (leadsB bs t)).map fun i => ((i : Nat) : Int)
def aheadF (bs : List (List Ins)) : Nat → List Int := fun t => rowB bs t bs.length
def aheadL (bs : List (List Ins)) : List (List Int) := (List.range bs.length).map (aheadF bs)

theorem rowB_zero (bs : List (List Ins)) (t : Nat) : rowB bs t 0 = [] := rfl
theorem rowB_succ (bs : List (List Ins)) (t m : Nat) : rowB bs t (m + 1) = if leadsB bs t m then rowB bs t m ++ [(m : Int)] else rowB bs t m := by
  unfold rowB
  rw [List.range_succ, List.filter_append, List.map_append]
  by_cases h : leadsB bs t m = true
  · simp [h]
  · simp [h]
theorem rowB_mem {bs : List (List Ins)} {t m : Nat} {y : Int} (h : y ∈ rowB bs t m) : 0 ≤ y ∧ y < m := by
  unfold rowB at h
  obtain ⟨i, hi, rfl⟩ := List.mem_map.1 h
  have := List.mem_range.1 (List.mem_filter.1 hi).1
  omega
theorem rowB_len (bs : List (List Ins)) (t m : Nat) : (rowB bs t m).length ≤ m := by
  unfold rowB
  rw [List.length_map]
  exact Nat.le_trans (List.length_filter_le _ _) (by simp)
theorem rowB_last {bs : List (List Ins)} {t m : Nat} : (rowB bs t m).getLast? ≠ some (m : Int) := fun h => by
  have := rowB_mem (List.mem_of_getLast? h)
  omega

theorem contains_take (l : List Int) (k : Nat) (y t : Int) (h : l[k]? = some y) : (l.take (k + 1)).contains t = ((l.take k).contains t || y == t) := by
  rw [List.take_add_one, h]
  simp only [Option.toList_some, List.contains_eq_mem, List.mem_append, List.mem_singleton]
  by_cases e : t = y
  · subst e; simp
  · have e2 : (y == t) = false := by simpa using fun h => e h.symm
    simp [e, e2]

/-- list t' when the look is at block i for block t -/
def stF (bs : List (List Ins)) (t i : Nat) : Nat → List Int := fun t' => if t' < t then aheadF bs t' else if t' = t then rowB bs t i else []
theorem stF_here (bs : List (List Ins)) (t i : Nat) : stF bs t i t = rowB bs t i := by simp [stF]
theorem stF_push {bs : List (List Ins)} {t i : Nat} (h : leadsB bs t i = true) : upd (stF bs t i) t (stF bs t i t ++ [(i : Int)]) = stF bs t (i + 1) := by
  funext t'
  by_cases e : t' = t
  · subst e
    rw [upd_same, stF_here, stF_here, rowB_succ, if_pos h]
  · rw [upd_other _ _ e]
    simp [stF, e]
theorem stF_skip {bs : List (List Ins)} {t i : Nat} (h : leadsB bs t i = false) : stF bs t i = stF bs t (i + 1) := by
  funext t'
  by_cases e : t' = t
  · subst e
    rw [stF_here, stF_here, rowB_succ, h]
    simp
  · simp [stF, e]
theorem stF_next (bs : List (List Ins)) (t : Nat) : stF bs t bs.length = stF bs (t + 1) 0 := by
  funext t'
  unfold stF
  by_cases h1 : t' < t
  · rw [if_pos h1, if_pos (by omega)]
  · by_cases h2 : t' = t
    · subst h2
      rw [if_neg h1, if_pos rfl, if_pos (by omega)]
      rfl
    · rw [if_neg h1, if_neg h2, if_neg (by omega)]
      split
      · exact (rowB_zero _ _).symm
      · rfl
theorem stF_start (bs : List (List Ins)) : stF bs 0 0 = fun _ => [] := by
  funext t'
  unfold stF
  rw [if_neg (by omega)]
  split
  · exact rowB_zero _ _
  · rfl
end

section
open Go.RowKit
set_option linter.unusedSimpArgs false
set_option linter.unusedVariables false

/-- what the loop of leadsOf keeps -/
structure LO (w wr : World) (n gB : Nat) (vs : List Value) (f : Nat → List Int) : Prop where
  row : wr.ownsRow w.heap.size 23 1 (.slice (some ⟨gB, 0, none⟩) n n) n vs
  each : ∀ (i : Nat) (u : Value), i < n → vs[i]? = some u → Nums w.heap.size wr u (f i)
  bel : Below w.heap.size w wr

theorem LO.len {w wr : World} {n gB : Nat} {vs : List Value} {f : Nat → List Int} (h : LO w wr n gB vs f) : vs.length = n := by have := h.row.1; omega

theorem LO.put {w wr : World} {n gB i : Nat} {vs : List Value} {f : Nat → List Int} {u' : Value} {x : List Int} (h : LO w wr n gB vs f) (hi : i < n) (hu : Nums w.heap.size wr u' x) :
    LO w (wr.setCell ⟨gB, i, none⟩ u') n gB (vs.set i u') (upd f i x) := by
  have hb : Below w.heap.size wr (wr.setCell ⟨gB, i, none⟩ u') := (Below.refl _ _).setCell (own_lt h.row (g := gB) rfl).1 _
  refine ⟨own_set h.row i u' (by omega), fun j y hj hy => ?_, h.bel.trans hb⟩
  by_cases e : j = i
  · subst e
    rw [List.getElem?_set_self (by rw [h.len]; exact hi)] at hy
    cases hy
    rw [upd_same]
    exact hu.below hb
  · rw [List.getElem?_set_ne (fun e' => e e'.symm)] at hy
    rw [upd_other _ _ e]
    exact (h.each j y hj hy).below hb

theorem LO.rws {w wr : World} {n gB : Nat} {vs : List Value} {f : Nat → List Int} (h : LO w wr n gB vs f) : Rws wr.heap.size wr (.slice (some ⟨gB, 0, none⟩) n n) ((List.range n).map f) := by
  have hc := own_cap h.row
  refine ⟨by simp; omega, some ⟨gB, 0, none⟩, n, by simp, fun h0 => ?_⟩
  have hn : 0 < n := by simpa using h0
  obtain ⟨g, cap, he, _, hg, _, _, _, hat⟩ := own_at h.row hn
  cases he
  refine ⟨gB, 0, rfl, hg, fun i y hy => ?_⟩
  have hi : i < n := by
    have := (List.getElem?_eq_some_iff.1 hy).1
    simpa using this
  have hy' : y = f i := by
    rw [List.getElem?_map, List.getElem?_range hi] at hy
    exact (Option.some.inj hy).symm
  subst hy'
  obtain ⟨u, hu⟩ : ∃ u, vs[i]? = some u := ⟨_, List.getElem?_eq_getElem (by rw [h.len]; exact hi)⟩
  refine ⟨[u], rfl, ⟨u, rfl, (h.each i u hi hu).up h.bel.size⟩, fun j hj => ?_⟩
  have hj0 : j = 0 := by omega
  subst hj0
  have := hat i u hu
  simpa using this

/-- the places of the first b blocks -/
def ldF (bs : List (List Ins)) (b : Nat) : Nat → List Int := fun j => if j < b then leadsL (bs.getD j []) else []
theorem ldF_zero (bs : List (List Ins)) : ldF bs 0 = fun _ => [] := by funext j; unfold ldF; rw [if_neg (by omega)]
theorem ldF_put (bs : List (List Ins)) (b : Nat) : upd (ldF bs b) b (leadsL (bs.getD b [])) = ldF bs (b + 1) := by
  funext j
  by_cases e : j = b
  · subst e; rw [upd_same]; unfold ldF; rw [if_pos (by omega)]
  · rw [upd_other _ _ e]
    unfold ldF
    by_cases h : j < b
    · rw [if_pos h, if_pos (by omega)]
    · rw [if_neg h, if_neg (by omega)]
theorem ldF_skip {bs : List (List Ins)} {b : Nat} (h : leadsL (bs.getD b []) = []) : ldF bs b = ldF bs (b + 1) := by
  rw [← ldF_put, h]
  funext j
  by_cases e : j = b
  · subst e; rw [upd_same]; unfold ldF; rw [if_neg (by omega)]
  · rw [upd_other _ _ e]
theorem ldF_all (bs : List (List Ins)) : (List.range bs.length).map (ldF bs bs.length) = bs.map leadsL := by
  apply List.ext_getElem?
  intro j
  rw [List.getElem?_map, List.getElem?_map]
  by_cases h : j < bs.length
  · rw [List.getElem?_range h, List.getElem?_eq_getElem h]
    simp [ldF, h, List.getD_eq_getElem?_getD]
  · rw [List.getElem?_eq_none (by simp; omega), List.getElem?_eq_none (by omega)]
    rfl

set_option maxHeartbeats 4000000 in
set_option maxRecDepth 20000 in
theorem leadsOf_any (bs : List (List Ins)) (vb : Value) (B : Nat) (w : World) (hB : B ≤ w.heap.size) (hb : Blks B w vb bs) (hsz : bs.length * 24 ≤ 140737488351232) :
    Calls Tryd.prog 17 #[vb] w fun e w' => ∃ v, e = .returned v ∧ Rws w'.heap.size w' v (bs.map leadsL) ∧ Below w.heap.size w w' := by
  obtain ⟨a3, k3, rfl⟩ := Lies.slice hb
  have HBK : Hid (Blks B w (.slice a3 bs.length k3) bs) := hb
  obtain ⟨n, hn⟩ : ∃ n, n = bs.length := ⟨_, rfl⟩
  rw [← hn] at hsz HBK ⊢
  have HN : Hid (n = bs.length) := hn
  obtain ⟨i0, hi0, hz0, hz1, hzb⟩ := infoParts infoInts
  clear hb hn
  go_enter Tryd.func17, Tryd.ntmps17
  go_wp2_with (at_make; refine wpList_make_full _ rfl _ _ _ rfl w.heap.size 23 i0 _ 1 Tryd.underlying34 hi0 hz0 hz1 .i64 .i64 _ _ n (by rfl) (by rfl) rfl rfl (by rw [hzb]; omega) (by unfold maxLen; omega) (Nat.le_refl _) ?_)
  intro w0 hown hgrow
  have hex : ∃ gB vs, gB = w.heap.size ∧ LO w w0 n gB vs (ldF bs 0) := by
    have hb0 : Below w.heap.size w w0 := (Below.refl _ _).grown hgrow (Nat.le_refl _) (fun k hk => by cases hk)
    have h1 : (madeCells #[Value.slice none 0 0] n).toList = List.replicate n (.slice none 0 0) := toList_madeCells_one _ _
    rw [h1] at hown
    refine ⟨_, _, rfl, hown, fun i u hi hu => ?_, hb0⟩
    have : u = .slice none 0 0 := List.eq_of_mem_replicate (List.mem_of_getElem? hu)
    subst this
    rw [ldF_zero]
    exact ⟨Nat.zero_le _, none, 0, rfl, fun h => by simp at h⟩
  obtain ⟨gB, vs0, e1, hL0⟩ := hex
  have HL0 : Hid (_) := hL0
  rw [← e1]
  clear hown hgrow e1 hL0
  go_wp2_with fail
  go_loopg [11] n (fun g s11 wr => ∃ (b : Nat) (vs : List Value), s11 = .int .i64 (b : Nat) ∧ b + g = n ∧ Hid (LO w wr n gB vs (ldF bs b)))
  case atStart => exact ⟨0, vs0, rfl, by omega, HL0⟩
  case round =>
    obtain ⟨b, vs, rfl, hb', HL⟩ := hrel
    cases gk with
    | zero =>
      have hlt : ¬ (b : Int) < (n : Int) := by omega
      have HF : Hid (Rws wr.heap.size wr (.slice (some ⟨gB, 0, none⟩) n n) (bs.map leadsL)) := by
        have e : b = bs.length := by have := HN.out; omega
        have h1 := HL.out.rws
        rw [e] at h1
        unfold Hid
        rw [← ldF_all, ← HN.out]
        rw [← HN.out] at h1
        exact h1
      go_wp2_with fail
      go_ret
      exact ⟨_, rfl, HF.out, HL.out.bel⟩
    | succ g =>
      have hlt : (b : Int) < (n : Int) := by omega
      have hbn : b < n := by omega
      have hbN : b < bs.length := by have := HN.out; omega
      have hget : bs[b]? = some bs[b] := List.getElem?_eq_getElem hbN
      generalize bs[b] = bl at hget
      have HGD : Hid (bs.getD b [] = bl) := by unfold Hid; rw [List.getD_eq_getElem?_getD, hget]; rfl
      obtain ⟨gb, ob, cs, rfl, _, _, ⟨vk, rfl, hvk⟩, hcl⟩ := Lies.at (HBK.out.below (HL.out.bel.mono hB)) hget
      obtain ⟨ak, ck, rfl⟩ := Lies.slice hvk
      have q0 := hcl 0 (by decide)
      simp at q0
      have hbl := hvk.len
      unfold maxLen at hbl
      have HVK : Hid (_) := hvk
      obtain ⟨g1, c1, he, _, _, _, _, hfr, hcell⟩ := own_at HL.out.row (by omega)
      cases he
      obtain ⟨u, hu⟩ : ∃ u, vs[b]? = some u := ⟨_, List.getElem?_eq_getElem (by rw [HL.out.len]; exact hbn)⟩
      have q1 := hcell b u hu
      have q2 := hfr b
      clear hcl hget hvk hbN hfr hcell hu
      obtain ⟨m, hm⟩ : ∃ m, m = bl.length := ⟨_, rfl⟩
      rw [← hm] at HVK q0 hbl
      have HM : Hid (m = bl.length) := hm
      clear hm
      rcases Nat.eq_zero_or_pos m with hm0 | hm0
      · subst hm0
        have HP : Hid (LO w wr n gB vs (ldF bs (b + 1))) := by
          unfold Hid
          rw [← ldF_skip]
          · exact HL.out
          · rw [HGD.out, List.eq_nil_of_length_eq_zero HM.out.symm]
            rfl
        go_wp2_with fail
        go_roundg g
        case measure => omega
        case rel => exact ⟨b + 1, vs, by go_num, by omega, HP⟩
      · obtain ⟨x, hx⟩ : ∃ x, bl[m - 1]? = some x := ⟨_, List.getElem?_eq_getElem (by have := HM.out; omega)⟩
        obtain ⟨g2, o2, cs2, rfl, _, _, ⟨vd, va, vt, rfl, _, _, hto, _⟩, hcl2⟩ := Lies.at HVK.out hx
        obtain ⟨at_, ct, rfl⟩ := Lies.slice hto
        have q5 := hcl2 5 (by decide)
        have HP : Hid (LO w (wr.setCell ⟨gB, b, none⟩ (.slice at_ x.to.length ct)) n gB (vs.set b (.slice at_ x.to.length ct)) (ldF bs (b + 1))) := by
          have h1 := HL.out.put hbn (Nums.up hto hB)
          have h2 : leadsL (bs.getD b []) = x.to := by
            rw [HGD.out]
            unfold leadsL
            have : bl.getLast? = some x := by rw [List.getLast?_eq_getElem?, ← HM.out]; exact hx
            rw [this]
          unfold Hid
          rw [← ldF_put, h2]
          exact h1
        have hm1 : (0 : Int) < (m : Int) := by omega
        obtain ⟨m1, hm1e⟩ : ∃ m1, m = m1 + 1 := ⟨m - 1, by omega⟩
        subst hm1e
        simp at q5
        clear hcl2 hto
        go_wp2_with fail
        go_roundg g
        case measure => omega
        case rel => exact ⟨b + 1, _, by go_num, by omega, HP⟩

/-- which of the first m lists have t -/
def rowL (L : List (List Int)) (t m : Nat) : List Int := ((List.range m).filter (fun i => (L.getD i []).contains (t : Int))).map fun i => ((i : Nat) : Int)
theorem rowL_succ (L : List (List Int)) (t m : Nat) : rowL L t (m + 1) = rowL L t m ++ if (L.getD m []).contains (t : Int) then [(m : Int)] else [] := by
  unfold rowL
  rw [List.range_succ, List.filter_append, List.map_append]
  by_cases h : (L.getD m []).contains (t : Int) = true
  · rw [List.filter_cons, if_pos h, if_pos h]; rfl
  · rw [List.filter_cons, if_neg h, if_neg h]; simp
theorem rowL_mem {L : List (List Int)} {t m : Nat} {y : Int} (h : y ∈ rowL L t m) : 0 ≤ y ∧ y < m := by
  unfold rowL at h
  obtain ⟨i, hi, rfl⟩ := List.mem_map.1 h
  have := List.mem_range.1 (List.mem_filter.1 hi).1
  omega
theorem rowL_len (L : List (List Int)) (t m : Nat) : (rowL L t m).length ≤ m := by
  unfold rowL
  rw [List.length_map]
  exact Nat.le_trans (List.length_filter_le _ _) (by simp)
theorem rowL_leads (bs : List (List Ins)) (t m : Nat) : rowL (bs.map leadsL) t m = rowB bs t m := by
  unfold rowL rowB
  congr 1
  refine List.filter_congr fun i _ => ?_
  unfold leadsB
  congr 1
  rw [List.getD_eq_getElem?_getD, List.getD_eq_getElem?_getD, List.getElem?_map]
  cases bs[i]? <;> rfl

/-- list t when the look is at place j of list b -/
def stL (L : List (List Int)) (b j : Nat) : Nat → List Int := fun t => rowL L t b ++ if ((L.getD b []).take j).contains (t : Int) then [(b : Int)] else []
theorem stL_start (L : List (List Int)) (b : Nat) : stL L b 0 = fun t => rowL L t b := by funext t; simp [stL]
theorem stL_zero (L : List (List Int)) : stL L 0 0 = fun _ => [] := by funext t; simp [stL, rowL]
theorem stL_next (L : List (List Int)) (b : Nat) : stL L b (L.getD b []).length = stL L (b + 1) 0 := by
  rw [stL_start]
  funext t
  unfold stL
  rw [List.take_length, rowL_succ]
theorem stL_len (L : List (List Int)) (b j t : Nat) : (stL L b j t).length ≤ b + 1 := by
  unfold stL
  have := rowL_len L t b
  split <;> simp <;> omega
theorem stL_mem {L : List (List Int)} {b j t : Nat} {y : Int} (h : y ∈ stL L b j t) : 0 ≤ y ∧ y ≤ b := by
  unfold stL at h
  rcases List.mem_append.1 h with h | h
  · have := rowL_mem h; omega
  · split at h
    · have := List.mem_singleton.1 h; omega
    · cases h
theorem stL_last (L : List (List Int)) (b j t : Nat) : ((stL L b j t).getLast? == some (b : Int)) = ((L.getD b []).take j).contains (t : Int) := by
  unfold stL
  by_cases h : ((L.getD b []).take j).contains (t : Int) = true
  · rw [if_pos h, h]; simp
  · have h' : ((L.getD b []).take j).contains (t : Int) = false := by simpa using h
    rw [if_neg h, h', List.append_nil]
    have : (rowL L t b).getLast? ≠ some (b : Int) := fun e => by have := rowL_mem (List.mem_of_getLast? e); omega
    simpa using this
/-- y is no place -/
theorem stL_none {L : List (List Int)} {b j : Nat} {y : Int} (hy : (L.getD b [])[j]? = some y) (t : Nat) (h : y ≠ (t : Int)) : stL L b j t = stL L b (j + 1) t := by
  unfold stL
  rw [contains_take _ _ _ _ hy]
  have : (y == (t : Int)) = false := by simpa using h
  rw [this, Bool.or_false]
theorem stL_twice {L : List (List Int)} {b j k : Nat} (hy : (L.getD b [])[j]? = some (k : Int)) (h : ((L.getD b []).take j).contains (k : Int) = true) : stL L b j = stL L b (j + 1) := by
  funext t
  by_cases e : t = k
  · subst e
    unfold stL
    rw [contains_take _ _ _ _ hy, h]
    rfl
  · exact stL_none hy t (by omega)
theorem stL_push {L : List (List Int)} {b j k : Nat} (hy : (L.getD b [])[j]? = some (k : Int)) (h : ((L.getD b []).take j).contains (k : Int) = false) : upd (stL L b j) k (stL L b j k ++ [(b : Int)]) = stL L b (j + 1) := by
  funext t
  by_cases e : t = k
  · subst e
    rw [upd_same]
    unfold stL
    rw [contains_take _ _ _ _ hy, h]
    simp
  · rw [upd_other _ _ e]
    exact stL_none hy t (by omega)

theorem Grid.congr {w : World} {B n : Nat} {v : Value} {vs : List Value} {f f' : Nat → List Int} (h : Grid w B n v vs f) (e : ∀ i, i < n → f i = f' i) : Grid w B n v vs f' :=
  ⟨h.row, fun i u hi hu => by rw [← e i hi]; exact h.each i u hi hu, h.apart, h.away⟩

/-- what the loops of aheadOf keep -/
structure AH (w wr : World) (n gB : Nat) (vs : List Value) (f : Nat → List Int) : Prop where
  grid : Grid wr w.heap.size n (.slice (some ⟨gB, 0, none⟩) n n) vs f
  bel : Below w.heap.size w wr

theorem AH.keep {w wr w' : World} {n gB : Nat} {vs : List Value} {f : Nat → List Int} (h : AH w wr n gB vs f) (k : Below wr.heap.size wr w') : AH w w' n gB vs f :=
  ⟨h.grid.keep k, h.bel.trans (k.mono h.bel.size)⟩

theorem AH.push {w wr w1 : World} {n i gB : Nat} {vs : List Value} {f : Nat → List Int} {u u' : Value} {x : Int} (h : AH w wr n gB vs f) (hi : i < n) (hu : vs[i]? = some u)
    (hg : wr.grownBy w1 u.ownBlock) (hat : u'.ownBlock = u.ownBlock ∨ u'.ownBlock = some wr.heap.size) (ho : w1.ownsRow w.heap.size 3 1 u' ((f i).length + 1) (numsL (f i) ++ [numV x])) :
    AH w (w1.setCell ⟨gB, i, none⟩ u') n gB (vs.set i u') (upd f i (f i ++ [x])) := by
  obtain ⟨h1, h2⟩ := h.grid.push hi hu hg hat ho
  exact ⟨h1, h.bel.trans (h2 _ (Nat.le_refl _) h.bel.size)⟩
end

section
open Go.RowKit
set_option linter.unusedSimpArgs false
set_option linter.unusedVariables false

/-- a block without its Phis -/
def dropP (b : List Ins) : List Ins := b.drop (phiN b)

/-- what the loop of withoutPhis keeps -/
structure WO (w wr : World) (n gB d : Nat) (vs : List Value) (bs : List (List Ins)) : Prop where
  row : wr.ownsRow w.heap.size 32 1 (.slice (some ⟨gB, 0, none⟩) n n) n vs
  each : ∀ (i : Nat) (u : Value) (b : List Ins), i < d → vs[i]? = some u → bs[i]? = some b → Blk w.heap.size wr u (dropP b)
  bel : Below w.heap.size w wr

theorem WO.len {w wr : World} {n gB d : Nat} {vs : List Value} {bs : List (List Ins)} (h : WO w wr n gB d vs bs) : vs.length = n := by have := h.row.1; omega

theorem WO.put {w wr : World} {n gB i : Nat} {vs : List Value} {bs : List (List Ins)} {u' : Value} {b : List Ins} (h : WO w wr n gB i vs bs) (hi : i < n) (hb : bs[i]? = some b) (hu : Blk w.heap.size wr u' (dropP b)) :
    WO w (wr.setCell ⟨gB, i, none⟩ u') n gB (i + 1) (vs.set i u') bs := by
  have hk : Below w.heap.size wr (wr.setCell ⟨gB, i, none⟩ u') := (Below.refl _ _).setCell (own_lt h.row (g := gB) rfl).1 _
  refine ⟨own_set h.row i u' (by omega), fun j y x hj hy hx => ?_, h.bel.trans hk⟩
  by_cases e : j = i
  · subst e
    rw [List.getElem?_set_self (by rw [h.len]; exact hi)] at hy
    cases hy
    rw [hb] at hx; cases hx
    exact hu.below hk
  · rw [List.getElem?_set_ne (fun e' => e e'.symm)] at hy
    exact (h.each j y x (by omega) hy hx).below hk

theorem Blk.up {B B' : Nat} {w : World} {v : Value} {xs : List Ins} (h : Blk B w v xs) (k : B ≤ B') : Blk B' w v xs :=
  Lies.up h k fun _ _ ⟨vd, va, vt, g1, g2, g3, g4, g5⟩ => ⟨vd, va, vt, g1, Lies.up g2 k fun _ _ h => h, Lies.up g3 k fun _ _ h => h, Lies.up g4 k fun _ _ h => h, g5⟩

theorem WO.blks {w wr : World} {n gB : Nat} {vs : List Value} {bs : List (List Ins)} (h : WO w wr n gB n vs bs) (hn : n = bs.length) : Blks wr.heap.size wr (.slice (some ⟨gB, 0, none⟩) n n) (bs.map dropP) := by
  have hc := own_cap h.row
  refine ⟨by simp; omega, some ⟨gB, 0, none⟩, n, by simp [hn], fun h0 => ?_⟩
  have hn0 : 0 < n := by rw [hn]; simpa using h0
  obtain ⟨g, cap, he, _, hg, _, _, _, hat⟩ := own_at h.row hn0
  cases he
  refine ⟨gB, 0, rfl, hg, fun i y hy => ?_⟩
  rw [List.getElem?_map] at hy
  obtain ⟨b, hb, rfl⟩ := Option.map_eq_some_iff.1 hy
  have hi : i < n := by rw [hn]; exact (List.getElem?_eq_some_iff.1 hb).1
  obtain ⟨u, hu⟩ : ∃ u, vs[i]? = some u := ⟨_, List.getElem?_eq_getElem (by rw [h.len]; exact hi)⟩
  refine ⟨[u], rfl, ⟨u, rfl, (h.each i u b hi hu hb).up h.bel.size⟩, fun j hj => ?_⟩
  have hj0 : j = 0 := by omega
  subst hj0
  have := hat i u hu
  simpa using this

/-- what is left of a list behind its first ones -/
theorem Lies.tail {A : Type} {m B : Nat} {w : World} {P : List Value → A → Prop} {g o n c k : Nat} {xs : List A} (h : Lies m B w P (.slice (some ⟨g, o, none⟩) n c) xs) (hk : k ≤ n) (c' : Nat) :
    Lies m B w P (.slice (some ⟨g, o + k * m, none⟩) (n - k) c') (xs.drop k) := by
  obtain ⟨h1, a, c2, hv, h2⟩ := h
  cases hv
  refine ⟨by simp; omega, some ⟨g, o + k * m, none⟩, c', by simp, fun h0 => ?_⟩
  have h0' : 0 < xs.length := by simp at h0; omega
  obtain ⟨g2, o2, he, hg, hat⟩ := h2 h0'
  cases he
  refine ⟨g, o + k * m, rfl, hg, fun i x hx => ?_⟩
  rw [List.getElem?_drop] at hx
  obtain ⟨cs, h3, h4, h5⟩ := hat (k + i) x hx
  refine ⟨cs, h3, h4, fun j hj => ?_⟩
  rw [← h5 j hj]
  congr 2
  rw [Nat.add_mul]; omega
theorem lies_nil {A : Type} {m B : Nat} {w : World} {P : List Value → A → Prop} (a : Option Addr) (c : Nat) : Lies m B w P (.slice a 0 c) [] := ⟨Nat.zero_le _, a, c, rfl, fun h => by simp at h⟩

theorem infoBlk : (Tryd.prog.info? 32).map (fun i => (i.zero, i.size, i.bytes)) = some (some (.slice none 0 0), 1, 24) := by kernel_rfl
theorem make_blks (n : Nat) (hn : n * 24 ≤ 140737488351232) (W : World) : (Instr.makeSlice 26 (.int .i64 (n : Nat)) (.int .i64 (n : Nat))).run Tryd.prog W = .ok (.slice (some ⟨W.heap.size, 0, none⟩) n n) (W.alloc (.cells (List.replicate n (.slice none 0 0)).toArray 32)) := by
  obtain ⟨i1, hi1, hy0, hy1, hyb⟩ := infoParts infoBlk
  have h := run_make (P := Tryd.prog) W 26 32 i1 _ (by kernel_rfl) hi1 hy0 .i64 .i64 (n : Nat) (n : Nat) (by omega) (Int.le_refl _) (by rw [hyb]; omega) (by omega)
  rw [h, hy1]
  have h1 : (madeCells #[Value.slice none 0 0] n).toList = List.replicate n (.slice none 0 0) := toList_madeCells_one _ _
  rw [← h1, Int.toNat_natCast, Nat.mul_one, Array.toArray_toList]
  rfl

theorem thawA {w : World} {x : Nat} {T : TypeId} {cs : Array Value} (h : w.heap[x]? = some (.cells cs T)) (o : Nat) : w.frozen? ⟨x, o, none⟩ = false := by simp [World.frozen?, h]
theorem Lies.tail' {A : Type} {m B : Nat} {w : World} {P : List Value → A → Prop} {a : Option Addr} {n c k : Nat} {xs : List A} (h : Lies m B w P (.slice a n c) xs) (hk : k ≤ n) (c' : Nat) :
    Lies m B w P (.slice (a.map fun x => x.add (k * m)) (n - k) c') (xs.drop k) := by
  rcases Nat.eq_zero_or_pos n with h0 | h0
  · have h1 : n = xs.length := by obtain ⟨_, a2, c2, hv, _⟩ := h; cases hv; rfl
    have h2 : xs = [] := List.eq_nil_of_length_eq_zero (by omega)
    have h3 : n - k = 0 := by omega
    rw [h2, h3, List.drop_nil]
    exact lies_nil _ _
  · have h1 : n = xs.length := by obtain ⟨_, a2, c2, hv, _⟩ := h; cases hv; rfl
    obtain ⟨g, o, cs, rfl, _⟩ := Lies.at h (i := 0) (List.getElem?_eq_getElem (by omega))
    have h2 := h.tail hk c'
    have h3 : (some (⟨g, o, none⟩ : Addr)).map (fun x => x.add (k * m)) = some ⟨g, o + k * m, none⟩ := by
      simp only [Option.map_some, Addr.add]
      split
      · rename_i h0; rw [h0]; rfl
      · rfl
    rw [h3]; exact h2

/-- the blocks of code have room for what they hold -/
def BCap (w : World) (vb : Value) (bs : List (List Ins)) : Prop := ∀ (g o n c i : Nat), vb = .slice (some ⟨g, o, none⟩) n c → i < bs.length → ∃ a l k, w.cell? ⟨g, o + i, none⟩ = some (.slice a l k) ∧ l ≤ k
theorem BCap.below {w w' : World} {B : Nat} {vb : Value} {bs : List (List Ins)} (h : BCap w vb bs) (hb : Blks B w vb bs) (k : Below B w w') : BCap w' vb bs := fun g o n c i e hi => by
  obtain ⟨a, l, c2, h1, h2⟩ := h g o n c i e hi
  subst e
  obtain ⟨g2, o2, cs, e2, hg, _⟩ := Lies.at hb (i := i) (List.getElem?_eq_getElem hi)
  cases e2
  exact ⟨a, l, c2, (k.cell (p := ⟨g, o + i, none⟩) hg).trans h1, h2⟩

def put6 (w : World) (R : Nat) (a0 a1 a2 a3 a4 a5 : Value) : World := (((((w.setCell ⟨R, 0, none⟩ a0).setCell ⟨R, 1, none⟩ a1).setCell ⟨R, 2, none⟩ a2).setCell ⟨R, 3, none⟩ a3).setCell ⟨R, 4, none⟩ a4).setCell ⟨R, 5, none⟩ a5
theorem put6_below (w : World) (R : Nat) (a0 a1 a2 a3 a4 a5 : Value) {B : Nat} (h : B ≤ R) : Below B w (put6 w R a0 a1 a2 a3 a4 a5) :=
  ((((((Below.refl _ _).setCell h _).setCell h _).setCell h _).setCell h _).setCell h _).setCell h _
theorem put6_off (w : World) (R : Nat) (a0 a1 a2 a3 a4 a5 : Value) {k : Nat} (h : k ≠ R) : (put6 w R a0 a1 a2 a3 a4 a5).heap[k]? = w.heap[k]? :=
  (Below.heap_setCell _ _ _ _ h).trans ((Below.heap_setCell _ _ _ _ h).trans ((Below.heap_setCell _ _ _ _ h).trans ((Below.heap_setCell _ _ _ _ h).trans ((Below.heap_setCell _ _ _ _ h).trans (Below.heap_setCell _ _ _ _ h)))))
theorem put6_here {w : World} {R : Nat} {z0 z1 z2 z3 z4 z5 : Value} {T : TypeId} (h : w.heap[R]? = some (.cells #[z0, z1, z2, z3, z4, z5] T)) (a0 a1 a2 a3 a4 a5 : Value) : (put6 w R a0 a1 a2 a3 a4 a5).heap[R]? = some (.cells #[a0, a1, a2, a3, a4, a5] T) := by
  have b0 := heap_setCell_same (o := 0) h a0
  have b1 := heap_setCell_same (o := 1) b0 a1
  have b2 := heap_setCell_same (o := 2) b1 a2
  have b3 := heap_setCell_same (o := 3) b2 a3
  have b4 := heap_setCell_same (o := 4) b3 a4
  have b5 := heap_setCell_same (o := 5) b4 a5
  unfold put6
  rw [b5]
  simp
theorem WO.touch {w wr w' : World} {n gB d : Nat} {vs : List Value} {bs : List (List Ins)} (h : WO w wr n gB d vs bs) (hk : Below w.heap.size wr w') (hg : w'.heap[gB]? = wr.heap[gB]?) : WO w w' n gB d vs bs :=
  ⟨own_same h.row fun g e => by have : g = gB := by simpa [Value.ownBlock] using e.symm
                                rw [this]; exact hg, fun i u b hi hu hb => (h.each i u b hi hu hb).below hk, h.bel.trans hk⟩

set_option maxHeartbeats 2000000 in
set_option maxRecDepth 20000 in
theorem withoutPhis_any (c : Cod) (vb : Value) (B : Nat) (w : World) (hB : B ≤ w.heap.size) (hb : Blks B w vb c.blocks) (hsz : c.blocks.length * 24 ≤ 140737488351232) (hcp : BCap w vb c.blocks) :
    Calls Tryd.prog 15 #[codV c vb] w fun e w' => ∃ vn, e = .returned (codV { c with blocks := c.blocks.map dropP } vn) ∧ Blks w'.heap.size w' vn (c.blocks.map dropP) ∧ Below w.heap.size w w' := by
  obtain ⟨n, hn⟩ : ∃ n, n = c.blocks.length := ⟨_, rfl⟩
  rw [← hn] at hsz
  obtain ⟨a, k, rfl⟩ := Lies.slice hb
  have HN : Hid (n = c.blocks.length) := hn
  rw [← hn] at hb hcp ⊢
  have HBK : Hid (Blks B w (.slice a n k) c.blocks) := hb
  have HCP : Hid (BCap w (.slice a n k) c.blocks) := hcp
  obtain ⟨OG, hOG⟩ : ∃ OG, OG = (.cells (List.replicate n (.slice none 0 0)).toArray 32 : Obj) := ⟨_, rfl⟩
  have hmk := make_blks n hsz
  rw [← hOG] at hmk
  have HOG : Hid (OG = _) := hOG
  have HBW : Hid (B ≤ w.heap.size) := hB
  obtain ⟨w1, hw1⟩ : ∃ w1, w1 = (w.alloc (.cells #[.string ⟨c.name.toArray⟩, .int .i64 c.params, .int .i64 c.results, .int .i64 c.vars, .int .i64 c.slots, .slice a n k] 28)).alloc (.cells #[.string ⟨#[]⟩, .int .i64 0, .int .i64 0, .int .i64 0, .int .i64 0, .slice none 0 0] 28) := ⟨_, rfl⟩
  obtain ⟨c1, c2⟩ := heap_alloc2 w (.cells #[.string ⟨c.name.toArray⟩, .int .i64 c.params, .int .i64 c.results, .int .i64 c.vars, .int .i64 c.slots, .slice a n k] 28) (.cells #[.string ⟨#[]⟩, .int .i64 0, .int .i64 0, .int .i64 0, .int .i64 0, .slice none 0 0] 28)
  rw [← hw1] at c1 c2
  have hs1 : w1.heap.size = w.heap.size + 2 := by rw [hw1]; simp
  have HW1 : Hid (Below w.heap.size w w1) := by rw [hw1]; exact below_after (below_alloc _ _) (below_alloc _ _)
  have HWE : Hid (w1 = _) := hw1
  obtain ⟨G, hG⟩ : ∃ G, G = w.heap.size := ⟨_, rfl⟩
  have HGE : Hid (G = w.heap.size) := hG
  rw [← hG] at c1 c2 hs1
  obtain ⟨w2, hw2⟩ : ∃ w2, w2 = w1.alloc OG := ⟨_, rfl⟩
  have HW2 : Hid (w2 = w1.alloc OG) := hw2
  have hB2 : Below w1.heap.size w1 w2 := by rw [hw2]; exact below_alloc _ _
  have C1 : Hid (w2.heap[G]? = _) := (hB2.block G (by omega)).trans c1
  have C2 : Hid (w2.heap[G + 1]? = _) := (hB2.block (G + 1) (by omega)).trans c2
  have HS : Hid (w1.heap.size = G + 2) := hs1
  clear hb hcp hn hOG hB hw1 hG hw2 hB2 c1 c2 hs1
  unfold codV
  go_enter Tryd.func15, Tryd.ntmps15
  go_wp2_with fail
  rw [← HWE.out, ← HW2.out, ← HGE.out]
  have HR0 : Hid (WO w w2 n (G + 2) 0 (List.replicate n (.slice none 0 0)) c.blocks) := by
    have hb2 : Below w.heap.size w w2 := by rw [HW2.out]; exact below_after HW1.out (below_alloc _ _)
    have hx : w2.heap[G + 2]? = some OG := by rw [HW2.out, ← HS.out]; exact heap_alloc_new w1 OG
    have ho : w2.ownsRow w.heap.size 32 1 (.slice (some ⟨G + 2, 0, none⟩) n n) n (List.replicate n (.slice none 0 0)) := ⟨by simp, .inr ⟨G + 2, n, _, rfl, by have := HGE.out; omega, hx.trans (by rw [HOG.out]), Nat.le_refl _, by unfold maxLen; omega, by simp, by simp⟩⟩
    exact ⟨ho, fun _ _ _ h => by omega, hb2⟩
  clear HOG hmk
  go_loopg [13] n (fun g s13 wr => ∃ (b : Nat) (vs : List Value), s13 = .int .i64 (b : Nat) ∧ b + g = n ∧ Hid (WO w wr n (G + 2) b vs c.blocks) ∧ Hid (∀ k, k < G + 2 → wr.heap[k]? = w2.heap[k]?))
  case atStart => exact ⟨0, _, rfl, by omega, HR0, fun _ _ => rfl⟩
  case round =>
    clear HR0
    obtain ⟨b, vs, rfl, hb', HL, HKP⟩ := hrel
    cases gk with
    | zero =>
      have hlt : ¬ (b : Int) < (n : Int) := by omega
      have hG1 : wr.heap[G]? = some (.cells #[.string ⟨c.name.toArray⟩, .int .i64 c.params, .int .i64 c.results, .int .i64 c.vars, .int .i64 c.slots, .slice a n k] 28) := (HKP.out G (by omega)).trans C1.out
      have hG2 : wr.heap[G + 1]? = some (.cells #[.string ⟨#[]⟩, .int .i64 0, .int .i64 0, .int .i64 0, .int .i64 0, .slice none 0 0] 28) := (HKP.out (G + 1) (by omega)).trans C2.out
      have HG1 : Hid (_) := hG1
      have HG2 : Hid (_) := hG2
      obtain ⟨w5, hw5⟩ : ∃ w5, w5 = wr.setCell ⟨G, 5, none⟩ (.slice (some ⟨G + 1 + 1, 0, none⟩) n n) := ⟨_, rfl⟩
      have HW5 : Hid (w5 = _) := hw5
      have hG5 : w5.heap[G]? = some (.cells #[.string ⟨c.name.toArray⟩, .int .i64 c.params, .int .i64 c.results, .int .i64 c.vars, .int .i64 c.slots, .slice (some ⟨G + 1 + 1, 0, none⟩) n n] 28) := by
        have h := heap_setCell_same (o := 5) HG1.out (.slice (some ⟨G + 1 + 1, 0, none⟩) n n)
        rw [← hw5] at h
        simpa using h
      have hG6 : w5.heap[G + 1]? = some (.cells #[.string ⟨#[]⟩, .int .i64 0, .int .i64 0, .int .i64 0, .int .i64 0, .slice none 0 0] 28) := by
        rw [hw5]; exact (Below.heap_setCell _ _ _ _ (by simp)).trans HG2.out
      have b0 := thawA hG2 0
      have b1 := thawA hG2 1
      have b2 := thawA hG2 2
      have b3 := thawA hG2 3
      have b4 := thawA hG2 4
      have b5 := thawA hG2 5
      obtain ⟨f0, f1, f2, f3, f4, f5⟩ := cells6 hG2
      obtain ⟨g0, g1, g2, g3, g4, g5⟩ := cells6 hG1
      have z5 := thawA hG1 5
      have HG5 : Hid (_) := hG5
      have HG6 : Hid (_) := hG6
      clear hG1 hG2 hw5 hG5 hG6
      go_wp2_with fail
      rw [← HW5.out]
      obtain ⟨w8, hw8⟩ : ∃ w8, w8 = put6 w5 (G + 1) (.string ⟨c.name.toArray⟩) (.int .i64 c.params) (.int .i64 c.results) (.int .i64 c.vars) (.int .i64 c.slots) (.slice (some ⟨G + 1 + 1, 0, none⟩) n n) := ⟨_, rfl⟩
      have hG8 : w8.heap[G + 1]? = some (.cells #[.string ⟨c.name.toArray⟩, .int .i64 c.params, .int .i64 c.results, .int .i64 c.vars, .int .i64 c.slots, .slice (some ⟨G + 1 + 1, 0, none⟩) n n] 28) := by rw [hw8]; exact put6_here HG6.out _ _ _ _ _ _
      obtain ⟨e0, e1, e2, e3, e4, e5⟩ := cells6 hG8
      have hk5 : Below w.heap.size wr w5 := by rw [HW5.out]; exact (Below.refl _ _).setCell (by show w.heap.size ≤ G; have := HGE.out; omega) _
      have hk8 : Below w.heap.size w5 w8 := by rw [hw8]; exact put6_below _ _ _ _ _ _ _ _ (by have := HGE.out; omega)
      have hg8 : w8.heap[G + 2]? = wr.heap[G + 2]? := by
        rw [hw8, HW5.out]
        exact (put6_off _ _ _ _ _ _ _ _ (by omega)).trans (Below.heap_setCell _ _ _ _ (by show G + 2 ≠ G; omega))
      have HL8 := HL.out.touch (hk5.trans hk8) hg8
      have hbn : b = n := by omega
      rw [hbn] at HL8
      have HLIT : (put6 w5 (G + 1) (.string ⟨c.name.toArray⟩) (.int .i64 c.params) (.int .i64 c.results) (.int .i64 c.vars) (.int .i64 c.slots) (.slice (some ⟨G + 1 + 1, 0, none⟩) n n)) = w8 := hw8.symm
      unfold put6 at HLIT
      rw [HLIT]
      clear hw8 HLIT hk5 hk8 hg8 b0 b1 b2 b3 b4 b5 f0 f1 f2 f3 f4 f5 g0 g1 g2 g3 g4 g5
      exact bodyPost_ret (v := .agg #[.string ⟨c.name.toArray⟩, .int .i64 c.params, .int .i64 c.results, .int .i64 c.vars, .int .i64 c.slots, .slice (some ⟨G + 1 + 1, 0, none⟩) n n]) (by simp [results, Tryd.results15, go_sem, e0, e1, e2, e3, e4, e5]) rfl ⟨_, rfl, HL8.blks HN.out, HL8.bel⟩
    | succ g =>
      have hlt : (b : Int) < (n : Int) := by omega
      have hbn : b < n := by omega
      have hget : c.blocks[b]? = some c.blocks[b] := List.getElem?_eq_getElem (by have := HN.out; omega)
      generalize c.blocks[b] = bl at hget
      have HG : Hid (c.blocks[b]? = some bl) := hget
      obtain ⟨gb, ob, cs, rfl, _, _, ⟨vk, rfl, hvk⟩, hcl⟩ := Lies.at (HBK.out.below (HL.out.bel.mono HBW.out)) hget
      obtain ⟨ak, ck, rfl⟩ := Lies.slice hvk
      have q0 := hcl 0 (by decide)
      simp at q0
      have hbl := hvk.len
      unfold maxLen at hbl
      have HVK : Hid (_) := hvk
      have hck : bl.length ≤ ck := by
        obtain ⟨a2, l2, k2, h1, h2⟩ := (HCP.out.below HBK.out (HL.out.bel.mono HBW.out)) gb ob n k b rfl (by have := HN.out; omega)
        rw [q0] at h1; cases h1; exact h2
      obtain ⟨p, hp⟩ : ∃ p, p = phiN bl := ⟨_, rfl⟩
      have HP : Hid (p = phiN bl) := hp
      have hpl : p ≤ bl.length := by rw [hp]; exact phiN_le bl
      have hpI : (p : Int) ≤ (bl.length : Int) := by omega
      obtain ⟨g1, c1, he, _, _, _, _, hfr, hcell⟩ := own_at HL.out.row (by omega)
      cases he
      obtain ⟨u, hu⟩ : ∃ u, vs[b]? = some u := ⟨_, List.getElem?_eq_getElem (by rw [HL.out.len]; exact hbn)⟩
      have q1 := hcell b u hu
      have q2 := hfr b
      clear hcl hget hvk hfr hcell hu hp
      go_wp2_with fail
      refine (phisOf_any bl _ _ _ HVK.out).mono ?_
      rintro e w3 ⟨rfl, hw3⟩
      have hw3' := hw3.symm
      subst hw3'
      rw [← HP.out]
      have HU1 : Hid (Blk w.heap.size wr (.slice (Option.map (fun x => x.add (p * 6)) ak) (bl.length - p) (ck - p)) (dropP bl)) := by
        have h := Lies.tail' (k := p) HVK.out hpl (ck - p)
        unfold dropP
        rw [← HP.out]
        exact Blk.up h HBW.out
      have HU2 : Hid (ck = p → Blk w.heap.size wr (.slice ak (bl.length - p) 0) (dropP bl)) := fun e => by
        have h1 : bl.length - p = 0 := by omega
        have h2 : dropP bl = [] := by unfold dropP; rw [← HP.out]; exact List.drop_eq_nil_of_le (by omega)
        rw [h1, h2]; exact lies_nil _ _
      go_wp2_with fail
      · go_roundg g
        case measure => omega
        case rel => exact ⟨b + 1, _, by go_num, by omega, HL.out.put hbn HG.out (HU2.out (by omega)), fun k hk => (Below.heap_setCell _ _ _ _ (by show k ≠ G + 2; omega)).trans (HKP.out k hk)⟩
      · go_roundg g
        case measure => omega
        case rel => exact ⟨b + 1, _, by go_num, by omega, HL.out.put hbn HG.out HU1.out, fun k hk => (Below.heap_setCell _ _ _ _ (by show k ≠ G + 2; omega)).trans (HKP.out k hk)⟩
end

end Go.Proofs.YthlngmknifpbjaaDoor
