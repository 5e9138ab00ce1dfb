/-
  Package ssa: the places that stand in the last instructions of blocks; which blocks lead to each one.
-/
import Derived.Test.YtjdedfgdofceeaaSaC0
namespace Go.Proofs.Ytjdedfgdofceeaa
open Go.RowKit
set_option linter.unusedSimpArgs false
set_option linter.unusedVariables false

/-- what the loop of leadsOf keeps -/
structure LO (w wr : World) (n gB : Nat) (vs : List Value) (f : Nat → List Int) : Prop where
  row : wr.ownsRow w.heap.size 31 1 (.slice (some ⟨gB, 0, none⟩) n n) n vs
  each : ∀ (i : Nat) (u : Value), i < n → vs[i]? = some u → Nums w.heap.size wr u (f i)
  bel : Below w.heap.size w wr

theorem LO.len {w wr : World} {n gB : Nat} {vs : List Value} {f : Nat → List Int} (h : LO w wr n gB vs f) : vs.length = n := by have := h.row.1; omega

theorem LO.put {w wr : World} {n gB i : Nat} {vs : List Value} {f : Nat → List Int} {u' : Value} {x : List Int} (h : LO w wr n gB vs f) (hi : i < n) (hu : Nums w.heap.size wr u' x) :
    LO w (wr.setCell ⟨gB, i, none⟩ u') n gB (vs.set i u') (upd f i x) := by
  have hb : Below w.heap.size wr (wr.setCell ⟨gB, i, none⟩ u') := (Below.refl _ _).setCell (own_lt h.row (g := gB) rfl).1 _
  refine ⟨own_set h.row i u' (by omega), fun j y hj hy => ?_, h.bel.trans hb⟩
  by_cases e : j = i
  · subst e
    rw [List.getElem?_set_self (by rw [h.len]; exact hi)] at hy
    cases hy
    rw [upd_same]
    exact hu.below hb
  · rw [List.getElem?_set_ne (fun e' => e e'.symm)] at hy
    rw [upd_other _ _ e]
    exact (h.each j y hj hy).below hb

theorem LO.rws {w wr : World} {n gB : Nat} {vs : List Value} {f : Nat → List Int} (h : LO w wr n gB vs f) : Rws wr.heap.size wr (.slice (some ⟨gB, 0, none⟩) n n) ((List.range n).map f) := by
  have hc := own_cap h.row
  refine ⟨by simp; omega, some ⟨gB, 0, none⟩, n, by simp, fun h0 => ?_⟩
  have hn : 0 < n := by simpa using h0
  obtain ⟨g, cap, he, _, hg, _, _, _, hat⟩ := own_at h.row hn
  cases he
  refine ⟨gB, 0, rfl, hg, fun i y hy => ?_⟩
  have hi : i < n := by
    have := (List.getElem?_eq_some_iff.1 hy).1
    simpa using this
  have hy' : y = f i := by
    rw [List.getElem?_map, List.getElem?_range hi] at hy
    exact (Option.some.inj hy).symm
  subst hy'
  obtain ⟨u, hu⟩ : ∃ u, vs[i]? = some u := ⟨_, List.getElem?_eq_getElem (by rw [h.len]; exact hi)⟩
  refine ⟨[u], rfl, ⟨u, rfl, (h.each i u hi hu).up h.bel.size⟩, fun j hj => ?_⟩
  have hj0 : j = 0 := by omega
  subst hj0
  have := hat i u hu
  simpa using this

/-- the places of the first b blocks -/
def ldF (bs : List (List Ins)) (b : Nat) : Nat → List Int := fun j => if j < b then leadsL (bs.getD j []) else []
theorem ldF_zero (bs : List (List Ins)) : ldF bs 0 = fun _ => [] := by funext j; unfold ldF; rw [if_neg (by omega)]
theorem ldF_put (bs : List (List Ins)) (b : Nat) : upd (ldF bs b) b (leadsL (bs.getD b [])) = ldF bs (b + 1) := by
  funext j
  by_cases e : j = b
  · subst e; rw [upd_same]; unfold ldF; rw [if_pos (by omega)]
  · rw [upd_other _ _ e]
    unfold ldF
    by_cases h : j < b
    · rw [if_pos h, if_pos (by omega)]
    · rw [if_neg h, if_neg (by omega)]
theorem ldF_skip {bs : List (List Ins)} {b : Nat} (h : leadsL (bs.getD b []) = []) : ldF bs b = ldF bs (b + 1) := by
  rw [← ldF_put, h]
  funext j
  by_cases e : j = b
  · subst e; rw [upd_same]; unfold ldF; rw [if_neg (by omega)]
  · rw [upd_other _ _ e]
theorem ldF_all (bs : List (List Ins)) : (List.range bs.length).map (ldF bs bs.length) = bs.map leadsL := by
  apply List.ext_getElem?
  intro j
  rw [List.getElem?_map, List.getElem?_map]
  by_cases h : j < bs.length
  · rw [List.getElem?_range h, List.getElem?_eq_getElem h]
    simp [ldF, h, List.getD_eq_getElem?_getD]
  · rw [List.getElem?_eq_none (by simp; omega), List.getElem?_eq_none (by omega)]
    rfl

set_option maxHeartbeats 4000000 in
set_option maxRecDepth 20000 in
theorem leadsOf_any (bs : List (List Ins)) (vb : Value) (B : Nat) (w : World) (hB : B ≤ w.heap.size) (hb : Blks B w vb bs) (hsz : bs.length * 24 ≤ 140737488351232) :
    Calls Try.prog 15 #[vb] w fun e w' => ∃ v, e = .returned v ∧ Rws w'.heap.size w' v (bs.map leadsL) ∧ Below w.heap.size w w' := by
  obtain ⟨a3, k3, rfl⟩ := Lies.slice hb
  have HBK : Hid (Blks B w (.slice a3 bs.length k3) bs) := hb
  obtain ⟨n, hn⟩ : ∃ n, n = bs.length := ⟨_, rfl⟩
  rw [← hn] at hsz HBK ⊢
  have HN : Hid (n = bs.length) := hn
  obtain ⟨i0, hi0, hz0, hz1, hzb⟩ := infoParts infoInts
  clear hb hn
  go_enter Try.func15, Try.ntmps15
  go_wp2_with (at_make; refine wpList_make_full _ rfl _ _ _ rfl w.heap.size 31 i0 _ 1 Try.underlying25 hi0 hz0 hz1 .i64 .i64 _ _ n (by rfl) (by rfl) rfl rfl (by rw [hzb]; omega) (by unfold maxLen; omega) (Nat.le_refl _) ?_)
  intro w0 hown hgrow
  have hex : ∃ gB vs, gB = w.heap.size ∧ LO w w0 n gB vs (ldF bs 0) := by
    have hb0 : Below w.heap.size w w0 := (Below.refl _ _).grown hgrow (Nat.le_refl _) (fun k hk => by cases hk)
    have h1 : (madeCells #[Value.slice none 0 0] n).toList = List.replicate n (.slice none 0 0) := toList_madeCells_one _ _
    rw [h1] at hown
    refine ⟨_, _, rfl, hown, fun i u hi hu => ?_, hb0⟩
    have : u = .slice none 0 0 := List.eq_of_mem_replicate (List.mem_of_getElem? hu)
    subst this
    rw [ldF_zero]
    exact ⟨Nat.zero_le _, none, 0, rfl, fun h => by simp at h⟩
  obtain ⟨gB, vs0, e1, hL0⟩ := hex
  have HL0 : Hid (_) := hL0
  rw [← e1]
  clear hown hgrow e1 hL0
  go_wp2_with fail
  go_loopg [11] n (fun g s11 wr => ∃ (b : Nat) (vs : List Value), s11 = .int .i64 (b : Nat) ∧ b + g = n ∧ Hid (LO w wr n gB vs (ldF bs b)))
  case atStart => exact ⟨0, vs0, rfl, by omega, HL0⟩
  case round =>
    obtain ⟨b, vs, rfl, hb', HL⟩ := hrel
    cases gk with
    | zero =>
      have hlt : ¬ (b : Int) < (n : Int) := by omega
      have HF : Hid (Rws wr.heap.size wr (.slice (some ⟨gB, 0, none⟩) n n) (bs.map leadsL)) := by
        have e : b = bs.length := by have := HN.out; omega
        have h1 := HL.out.rws
        rw [e] at h1
        unfold Hid
        rw [← ldF_all, ← HN.out]
        rw [← HN.out] at h1
        exact h1
      go_wp2_with fail
      go_ret
      exact ⟨_, rfl, HF.out, HL.out.bel⟩
    | succ g =>
      have hlt : (b : Int) < (n : Int) := by omega
      have hbn : b < n := by omega
      have hbN : b < bs.length := by have := HN.out; omega
      have hget : bs[b]? = some bs[b] := List.getElem?_eq_getElem hbN
      generalize bs[b] = bl at hget
      have HGD : Hid (bs.getD b [] = bl) := by unfold Hid; rw [List.getD_eq_getElem?_getD, hget]; rfl
      obtain ⟨gb, ob, cs, rfl, _, _, ⟨vk, rfl, hvk⟩, hcl⟩ := Lies.at (HBK.out.below (HL.out.bel.mono hB)) hget
      obtain ⟨ak, ck, rfl⟩ := Lies.slice hvk
      have q0 := hcl 0 (by decide)
      simp at q0
      have hbl := hvk.len
      unfold maxLen at hbl
      have HVK : Hid (_) := hvk
      obtain ⟨g1, c1, he, _, _, _, _, hfr, hcell⟩ := own_at HL.out.row (by omega)
      cases he
      obtain ⟨u, hu⟩ : ∃ u, vs[b]? = some u := ⟨_, List.getElem?_eq_getElem (by rw [HL.out.len]; exact hbn)⟩
      have q1 := hcell b u hu
      have q2 := hfr b
      clear hcl hget hvk hbN hfr hcell hu
      obtain ⟨m, hm⟩ : ∃ m, m = bl.length := ⟨_, rfl⟩
      rw [← hm] at HVK q0 hbl
      have HM : Hid (m = bl.length) := hm
      clear hm
      rcases Nat.eq_zero_or_pos m with hm0 | hm0
      · subst hm0
        have HP : Hid (LO w wr n gB vs (ldF bs (b + 1))) := by
          unfold Hid
          rw [← ldF_skip]
          · exact HL.out
          · rw [HGD.out, List.eq_nil_of_length_eq_zero HM.out.symm]
            rfl
        go_wp2_with fail
        go_roundg g
        case measure => omega
        case rel => exact ⟨b + 1, vs, by go_num, by omega, HP⟩
      · obtain ⟨x, hx⟩ : ∃ x, bl[m - 1]? = some x := ⟨_, List.getElem?_eq_getElem (by have := HM.out; omega)⟩
        obtain ⟨g2, o2, cs2, rfl, _, _, ⟨vd, va, vt, rfl, _, _, hto, _⟩, hcl2⟩ := Lies.at HVK.out hx
        obtain ⟨at_, ct, rfl⟩ := Lies.slice hto
        have q5 := hcl2 5 (by decide)
        have HP : Hid (LO w (wr.setCell ⟨gB, b, none⟩ (.slice at_ x.to.length ct)) n gB (vs.set b (.slice at_ x.to.length ct)) (ldF bs (b + 1))) := by
          have h1 := HL.out.put hbn (Nums.up hto hB)
          have h2 : leadsL (bs.getD b []) = x.to := by
            rw [HGD.out]
            unfold leadsL
            have : bl.getLast? = some x := by rw [List.getLast?_eq_getElem?, ← HM.out]; exact hx
            rw [this]
          unfold Hid
          rw [← ldF_put, h2]
          exact h1
        have hm1 : (0 : Int) < (m : Int) := by omega
        obtain ⟨m1, hm1e⟩ : ∃ m1, m = m1 + 1 := ⟨m - 1, by omega⟩
        subst hm1e
        simp at q5
        clear hcl2 hto
        go_wp2_with fail
        go_roundg g
        case measure => omega
        case rel => exact ⟨b + 1, _, by go_num, by omega, HP⟩

/-- which of the first m lists have t -/
def rowL (L : List (List Int)) (t m : Nat) : List Int := ((List.range m).filter (fun i => (L.getD i []).contains (t : Int))).map fun i => ((i : Nat) : Int)
theorem rowL_succ (L : List (List Int)) (t m : Nat) : rowL L t (m + 1) = rowL L t m ++ if (L.getD m []).contains (t : Int) then [(m : Int)] else [] := by
  unfold rowL
  rw [List.range_succ, List.filter_append, List.map_append]
  by_cases h : (L.getD m []).contains (t : Int) = true
  · rw [List.filter_cons, if_pos h, if_pos h]; rfl
  · rw [List.filter_cons, if_neg h, if_neg h]; simp
theorem rowL_mem {L : List (List Int)} {t m : Nat} {y : Int} (h : y ∈ rowL L t m) : 0 ≤ y ∧ y < m := by
  unfold rowL at h
  obtain ⟨i, hi, rfl⟩ := List.mem_map.1 h
  have := List.mem_range.1 (List.mem_filter.1 hi).1
  omega
theorem rowL_len (L : List (List Int)) (t m : Nat) : (rowL L t m).length ≤ m := by
  unfold rowL
  rw [List.length_map]
  exact Nat.le_trans (List.length_filter_le _ _) (by simp)
theorem rowL_leads (bs : List (List Ins)) (t m : Nat) : rowL (bs.map leadsL) t m = rowB bs t m := by
  unfold rowL rowB
  congr 1
  refine List.filter_congr fun i _ => ?_
  unfold leadsB
  congr 1
  rw [List.getD_eq_getElem?_getD, List.getD_eq_getElem?_getD, List.getElem?_map]
  cases bs[i]? <;> rfl

/-- list t when the look is at place j of list b -/
def stL (L : List (List Int)) (b j : Nat) : Nat → List Int := fun t => rowL L t b ++ if ((L.getD b []).take j).contains (t : Int) then [(b : Int)] else []
theorem stL_start (L : List (List Int)) (b : Nat) : stL L b 0 = fun t => rowL L t b := by funext t; simp [stL]
theorem stL_zero (L : List (List Int)) : stL L 0 0 = fun _ => [] := by funext t; simp [stL, rowL]
theorem stL_next (L : List (List Int)) (b : Nat) : stL L b (L.getD b []).length = stL L (b + 1) 0 := by
  rw [stL_start]
  funext t
  unfold stL
  rw [List.take_length, rowL_succ]
theorem stL_len (L : List (List Int)) (b j t : Nat) : (stL L b j t).length ≤ b + 1 := by
  unfold stL
  have := rowL_len L t b
  split <;> simp <;> omega
theorem stL_mem {L : List (List Int)} {b j t : Nat} {y : Int} (h : y ∈ stL L b j t) : 0 ≤ y ∧ y ≤ b := by
  unfold stL at h
  rcases List.mem_append.1 h with h | h
  · have := rowL_mem h; omega
  · split at h
    · have := List.mem_singleton.1 h; omega
    · cases h
theorem stL_last (L : List (List Int)) (b j t : Nat) : ((stL L b j t).getLast? == some (b : Int)) = ((L.getD b []).take j).contains (t : Int) := by
  unfold stL
  by_cases h : ((L.getD b []).take j).contains (t : Int) = true
  · rw [if_pos h, h]; simp
  · have h' : ((L.getD b []).take j).contains (t : Int) = false := by simpa using h
    rw [if_neg h, h', List.append_nil]
    have : (rowL L t b).getLast? ≠ some (b : Int) := fun e => by have := rowL_mem (List.mem_of_getLast? e); omega
    simpa using this
/-- y is no place -/
theorem stL_none {L : List (List Int)} {b j : Nat} {y : Int} (hy : (L.getD b [])[j]? = some y) (t : Nat) (h : y ≠ (t : Int)) : stL L b j t = stL L b (j + 1) t := by
  unfold stL
  rw [contains_take _ _ _ _ hy]
  have : (y == (t : Int)) = false := by simpa using h
  rw [this, Bool.or_false]
theorem stL_twice {L : List (List Int)} {b j k : Nat} (hy : (L.getD b [])[j]? = some (k : Int)) (h : ((L.getD b []).take j).contains (k : Int) = true) : stL L b j = stL L b (j + 1) := by
  funext t
  by_cases e : t = k
  · subst e
    unfold stL
    rw [contains_take _ _ _ _ hy, h]
    rfl
  · exact stL_none hy t (by omega)
theorem stL_push {L : List (List Int)} {b j k : Nat} (hy : (L.getD b [])[j]? = some (k : Int)) (h : ((L.getD b []).take j).contains (k : Int) = false) : upd (stL L b j) k (stL L b j k ++ [(b : Int)]) = stL L b (j + 1) := by
  funext t
  by_cases e : t = k
  · subst e
    rw [upd_same]
    unfold stL
    rw [contains_take _ _ _ _ hy, h]
    simp
  · rw [upd_other _ _ e]
    exact stL_none hy t (by omega)

theorem Grid.congr {w : World} {B n : Nat} {v : Value} {vs : List Value} {f f' : Nat → List Int} (h : Grid w B n v vs f) (e : ∀ i, i < n → f i = f' i) : Grid w B n v vs f' :=
  ⟨h.row, fun i u hi hu => by rw [← e i hi]; exact h.each i u hi hu, h.apart, h.away⟩

/-- what the loops of aheadOf keep -/
structure AH (w wr : World) (n gB : Nat) (vs : List Value) (f : Nat → List Int) : Prop where
  grid : Grid wr w.heap.size n (.slice (some ⟨gB, 0, none⟩) n n) vs f
  bel : Below w.heap.size w wr

theorem AH.keep {w wr w' : World} {n gB : Nat} {vs : List Value} {f : Nat → List Int} (h : AH w wr n gB vs f) (k : Below wr.heap.size wr w') : AH w w' n gB vs f :=
  ⟨h.grid.keep k, h.bel.trans (k.mono h.bel.size)⟩

theorem AH.push {w wr w1 : World} {n i gB : Nat} {vs : List Value} {f : Nat → List Int} {u u' : Value} {x : Int} (h : AH w wr n gB vs f) (hi : i < n) (hu : vs[i]? = some u)
    (hg : wr.grownBy w1 u.ownBlock) (hat : u'.ownBlock = u.ownBlock ∨ u'.ownBlock = some wr.heap.size) (ho : w1.ownsRow w.heap.size 3 1 u' ((f i).length + 1) (numsL (f i) ++ [numV x])) :
    AH w (w1.setCell ⟨gB, i, none⟩ u') n gB (vs.set i u') (upd f i (f i ++ [x])) := by
  obtain ⟨h1, h2⟩ := h.grid.push hi hu hg hat ho
  exact ⟨h1, h.bel.trans (h2 _ (Nat.le_refl _) h.bel.size)⟩

end Go.Proofs.Ytjdedfgdofceeaa
