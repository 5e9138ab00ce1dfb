/-
  Package ssa: where variables are set; each at most once.
-/
import Derived.Test.YthlngmknifpbjaaDoorJSoF
import Derived.Test.YthlngmknifpbjaaDoorSsB
namespace Go.Proofs.YthlngmknifpbjaaDoor
open Go.RowKit Go.Maps
set_option linter.unusedSimpArgs false
set_option linter.unusedVariables false

/-- a spot as a map of the program's holds it -/
def spotD (s : Int × Int) : DataW Unit := .agg [.lit (.int .i64 s.1), .lit (.int .i64 s.2)]
def spotV (s : Int × Int) : Value := .agg #[.int .i64 s.1, .int .i64 s.2]
def spotR : Value → Option (DataW Unit × List MemPlace)
  | .agg cs => match cs.toList with
    | [.int .i64 b, .int .i64 a] => some (spotD (b, a), [])
    | _ => none
  | _ => none
theorem spotR_mk (s : Int × Int) : spotR (spotV s) = some (spotD s, []) := rfl
theorem spotR_inv {v : Value} {s : Int × Int} {ps : List MemPlace} (h : spotR v = some (spotD s, ps)) : v = spotV s := by
  unfold spotR at h
  split at h
  · rename_i cs
    split at h
    · rename_i b a he
      have h1 := congrArg Prod.fst (Option.some.inj h)
      simp [spotD] at h1
      obtain ⟨h2, h3⟩ := h1
      have : cs = #[.int .i64 b, .int .i64 a] := by
        have := congrArg List.toArray he
        simpa using this
      rw [this]; unfold spotV; rw [h2, h3]
    · cases h
  · cases h
theorem zeroSpot (w : World) : (zeroValue 67).run Tryd.prog w = .ok (spotV (0, 0)) w := by kernel_rfl

/-- where variables are set, as the map says it -/
def SetM : Type := Int → Option (Int × Int)
def ins (S : SetM) (d : Int) (s : Int × Int) : SetM := fun x => if x = d then some s else S x
structure SetAt (w : World) (mp : Nat) (vars : Int) (S : SetM) : Prop where
  ex : ∃ (D : DataW Unit) (ks : List Int), w.ownsMap Tryd.prog 3 spotR mp (Maps.size D) D ∧ Maps.size D = ks.length ∧ ks.Nodup ∧ (∀ x, x ∈ ks → 0 ≤ x ∧ x < vars) ∧ (∀ x, (S x).isSome = true ↔ x ∈ ks) ∧
    (∀ x, Maps.has D (.int .i64 x) = (S x).isSome) ∧ ∀ x s, S x = some s → ∀ z, D.atKey (.int .i64 x) z = spotD s

theorem nodup_below : ∀ (n : Nat) (ks : List Int), ks.Nodup → (∀ x, x ∈ ks → 0 ≤ x ∧ x < (n : Int)) → ks.length ≤ n := by
  intro n ks hn hk
  have h1 : (ks.map Int.toNat).Nodup := by
    rw [List.Nodup, List.pairwise_map]
    refine List.Pairwise.imp_of_mem ?_ hn
    intro a b ha hb hab e
    have := hk a ha; have := hk b hb
    exact hab (by omega)
  have h2 : (ks.map Int.toNat).length ≤ (List.range n).length := List.Nodup.length_le_of_subset h1 fun x hx => by
    obtain ⟨y, hy, rfl⟩ := List.mem_map.1 hx
    have := hk y hy
    exact List.mem_range.2 (by omega)
  simpa using h2

theorem SetAt.keep {w w' : World} {mp : Nat} {vars : Int} {S : SetM} (h : SetAt w mp vars S) (k : w'.heap[mp]? = w.heap[mp]?) : SetAt w' mp vars S := by
  obtain ⟨D, ks, ⟨es, clock, hb, r⟩, h2⟩ := h.ex
  exact ⟨D, ks, ⟨es, clock, k.trans hb, r⟩, h2⟩
theorem SetAt.lt {w : World} {mp : Nat} {vars : Int} {S : SetM} (h : SetAt w mp vars S) : mp < w.heap.size := by
  obtain ⟨D, ks, h1, _⟩ := h.ex
  exact World.ownsMap.lt h1
theorem setAt_made (w : World) (vars : Int) : SetAt (w.alloc (.map #[] 0)) w.heap.size vars (fun _ => none) :=
  ⟨.map [], [], World.ownsMap_made (H := Unit) w Tryd.prog 3 spotR, rfl, List.nodup_nil, fun x hx => (by cases hx), fun x => by simp, fun x => by simp [Maps.has], fun x s h => (by cases h)⟩

/-- what a store in the map needs, and what it leaves -/
theorem SetAt.put {w' : World} {mp : Nat} {vars d : Int} {S : SetM} {s : Int × Int} {D : DataW Unit} {ks : List Int} (h2 : Maps.size D = ks.length) (h3 : ks.Nodup) (h4 : ∀ x, x ∈ ks → 0 ≤ x ∧ x < vars) (h5 : ∀ x, (S x).isSome = true ↔ x ∈ ks)
    (h6 : ∀ x, Maps.has D (.int .i64 x) = (S x).isSome) (h7 : ∀ x s, S x = some s → ∀ z, D.atKey (.int .i64 x) z = spotD s) (ht : Tidy D)
    (ho : w'.ownsMap Tryd.prog 3 spotR mp (Maps.size D + 1) (D.put (.int .i64 d) (spotD s))) (hd : S d = none) (hdv : 0 ≤ d ∧ d < vars) : SetAt w' mp vars (ins S d s) := by
  have hno : Maps.has D (.int .i64 d) = false := by rw [h6, hd]; rfl
  have hdk : d ∉ ks := fun h => by have := (h5 d).2 h; rw [hd] at this; cases this
  have hne : ∀ x : Int, x ≠ d → (Lit.int .i64 x) ≠ .int .i64 d := fun x hx e => hx (by injection e)
  refine ⟨D.put (.int .i64 d) (spotD s), d :: ks, own_tight ho, ?_, List.nodup_cons.2 ⟨hdk, h3⟩, ?_, ?_, ?_, ?_⟩
  · rw [Maps.size_put ht, hno, h2]; simp
  · intro x hx
    rcases List.mem_cons.1 hx with rfl | hx
    · exact hdv
    · exact h4 x hx
  · intro x
    unfold ins
    by_cases e : x = d
    · simp [e]
    · rw [if_neg e, h5]; simp [e]
  · intro x
    unfold ins
    by_cases e : x = d
    · subst e; rw [Maps.has_put_same ht.isMap (keyN _)]; simp
    · rw [Maps.has_put_other (hne x e), h6, if_neg e]
  · intro x t hx z
    unfold ins at hx
    by_cases e : x = d
    · subst e; rw [if_pos rfl] at hx; cases hx; exact Maps.atKey_put_same ht.isMap (keyN _) _ _
    · rw [if_neg e] at hx; rw [Maps.atKey_put_other (hne x e)]; exact h7 x t hx z

theorem spotR_all {v : Value} {z : DataW Unit × List MemPlace} (h : spotR v = some z) : ∃ b a : Int, v = .agg #[.int .i64 b, .int .i64 a] ∧ z = (spotD (b, a), []) := by
  unfold spotR at h
  split at h
  · rename_i cs
    split at h
    · rename_i b a he
      have : cs = #[.int .i64 b, .int .i64 a] := by
        have := congrArg List.toArray he
        simpa using this
      exact ⟨b, a, by rw [this], (Option.some.inj h).symm⟩
    · cases h
  · cases h
theorem wpList_lookup_spot {P : Program} (w : World) {ops : Array Oper} {rest : List Oper} {o : Oper} {a : Act} {Q : Exit → Act → World → Prop} (hg : o.guard = none) (m x : Operand) (t : TypeId) (hop : o.op = Op.lookup t m x true)
    (k e : TypeId) (K : Keyed P k) (ht : P.underlying t = some (.map k e)) (hz : (zeroValue e).run P w = .ok (spotV (0, 0)) w) (b n : Nat) (D : DataW Unit)
    (hm : a.eval m = .map (some b)) (hown : w.ownsMap P k spotR b n D) (key : Value) (kl : Lit) (hx : a.eval x = key) (hkey : keyOf P k key = some kl)
    (hK : ∀ sb sa : Int, D.atKey kl (spotD (0, 0)) = spotD (sb, sa) → wpList P ops Q rest (a.put o.dst (.tuple #[.agg #[.int .i64 sb, .int .i64 sa], .bool (Maps.has D kl)])) w) :
    wpList P ops Q (o :: rest) a w :=
  wpList_lookup_own_ok w hg m x t hop k e K ht spotR hz (spotD (0, 0)) [] (spotR_mk (0, 0)) b n D hm hown key kl hx hkey (fun v ps hv => by
    obtain ⟨sb, sa, rfl, h2⟩ := spotR_all hv
    exact hK sb sa (congrArg Prod.fst h2))

/-- each variable is set once: what is known behind it -/
def setD (b k : Int) : List Int → SetM → Option SetM
  | [], S => some S
  | d :: l, S => if (S d).isSome then none else setD b k l (ins S d (b, k))
def setI (b : Int) : Nat → List Ins → SetM → Option SetM
  | _, [], S => some S
  | k, x :: l, S => (setD b (k : Int) x.ds S).bind (setI b (k + 1) l)
def setB : Nat → List (List Ins) → SetM → Option SetM
  | _, [], S => some S
  | b, bl :: l, S => (setI (b : Int) 0 bl S).bind (setB (b + 1) l)
def setP (params : Int) : SetM := fun x => if 0 ≤ x ∧ x < params then some (0, -1) else none
def setAll (c : Cod) : Option SetM := setB 0 c.blocks (setP c.params)

theorem FrF.bel {mp B : Nat} {w wr : World} (h : FrF mp w wr) (hm : B ≤ mp) (hw : B ≤ w.heap.size) : Below B w wr :=
  ⟨h.os, h.tape, h.output, h.size, fun k hk => h.block k (by omega) (by omega)⟩
theorem FrF.turned {mp : Nat} {w wr w4 : World} (hf : FrF mp w wr) (h : wr.mapTurned w4 mp) : FrF mp w w4 := by
  have hg := h.grown
  exact ⟨hg.os.trans hf.os, hg.tape.trans hf.tape, hg.output.trans hf.output, Nat.le_trans hf.size hg.size, fun k hk hn => (hg.block k (Nat.lt_of_lt_of_le hk hf.size) (fun e => hn (by injection e))).trans (hf.block k hk hn)⟩
theorem drop_at {A : Type} {l : List A} {i : Nat} {x : A} (h : l[i]? = some x) : l.drop i = x :: l.drop (i + 1) := by
  obtain ⟨hi, hx⟩ := List.getElem?_eq_some_iff.1 h
  rw [← hx]; exact List.drop_eq_getElem_cons hi
theorem drop_end {A : Type} {l : List A} {i : Nat} (h : l.length ≤ i) : l.drop i = [] := List.drop_eq_nil_of_le h
theorem setP_zero : setP ((0 : Nat) : Int) = fun _ => none := by
  funext x; unfold setP; rw [if_neg (by omega)]
theorem setP_succ (i : Nat) : ins (setP (i : Int)) (i : Int) (0, -1) = setP ((i + 1 : Nat) : Int) := by
  funext x
  unfold ins setP
  by_cases e : x = (i : Int)
  · rw [if_pos e, if_pos (by omega)]
  · rw [if_neg e]
    by_cases h : 0 ≤ x ∧ x < (i : Int)
    · rw [if_pos h, if_pos (by omega)]
    · rw [if_neg h, if_neg (by omega)]

set_option maxHeartbeats 4000000 in
set_option maxRecDepth 20000 in
theorem once_any (c : Cod) (vb f0 f1 f2 f3 f4 f5 f6 : Value) (mp K B : Nat) (w : World) (hB : B ≤ w.heap.size) (hb : Blks B w vb c.blocks) (hmB : B ≤ mp) (hKm : K ≠ mp)
    (hK : w.heap[K]? = some (kobj c vb f0 f1 f2 f3 f4 f5 f6 mp)) (hS : SetAt w mp c.vars (fun _ => none)) (hp : c.params ≤ c.vars) (hv : c.vars ≤ 3000)
    (hd : ∀ bl ∈ c.blocks, ∀ x ∈ bl, ∀ d ∈ x.ds, 0 ≤ d ∧ d < c.vars) :
    Calls Tryd.prog 19 #[.pointer (some ⟨K, 0, none⟩)] w fun e w' => e = .returned (.bool (setAll c).isSome) ∧ FrF mp w w' ∧ ∀ S, setAll c = some S → SetAt w' mp c.vars S := by
  obtain ⟨a, k, rfl⟩ := Lies.slice hb
  obtain ⟨n, hn⟩ : ∃ n, n = c.blocks.length := ⟨_, rfl⟩
  rw [← hn] at hb hK
  have HN : Hid (n = c.blocks.length) := hn
  have hnm : n ≤ 9223372036854775807 := by have := hb.len; unfold maxLen at this; omega
  have HBK : Hid (Blks B w (.slice a n k) c.blocks) := hb
  obtain ⟨R, hR⟩ : ∃ R, R = setAll c := ⟨_, rfl⟩
  rw [← hR]
  have HR : Hid (R = setAll c) := hR
  have HKX : Hid (∀ wx, FrF mp w wx → wx.heap[K]? = some (kobj c (.slice a n k) f0 f1 f2 f3 f4 f5 f6 mp)) := fun wx h => (h.block K (lt_of_block hK) hKm).trans hK
  obtain ⟨q0, q1, q2, q3, q4, q5, q6, q7, q8, q9, q10, q11, q12, q13⟩ := cells14 hK
  have HS0 : Hid (SetAt w mp c.vars (fun _ => none)) := hS
  clear hb hR hn hK hS
  go_enter Tryd.func19, Tryd.ntmps19
  have HPV : Hid (_) := hp
  have HVV : Hid (_) := hv
  have HD : Hid (_) := hd
  have HMB : Hid (B ≤ mp) := hmB
  clear hp hv hd hmB
  go_wp2_with fail
  go_loopg [17] c.params.toNat (fun g s17 wr => ∃ i : Nat, s17 = .int .i64 (i : Nat) ∧ i + g = c.params.toNat ∧ Hid (SetAt wr mp c.vars (setP (i : Nat))) ∧ Hid (FrF mp w wr))
  case atStart => exact ⟨0, rfl, by omega, by unfold Hid; rw [setP_zero]; exact HS0.out, FrF.refl _ _⟩
  case round =>
    clear q0 q1 q2 q3 q4 q5 q6 q7 q8 q9 q10 q11 q12 q13 HS0
    obtain ⟨i, rfl, hi', HS, HF⟩ := hrel
    obtain ⟨q0, q1, q2, q3, q4, q5, q6, q7, q8, q9, q10, q11, q12, q13⟩ := cells14 (HKX.out wr HF.out)
    have hvv := HVV.out
    have hpv := HPV.out
    cases gk with
    | zero =>
      have hlt : ¬ (i : Int) < c.params := by omega
      have HS1 : Hid (SetAt wr mp c.vars (setP c.params)) := by
        have h := HS.out
        have e : setP ((i : Nat) : Int) = setP c.params := by
          funext x; unfold setP
          by_cases h1 : 0 ≤ x ∧ x < ((i : Nat) : Int)
          · rw [if_pos h1, if_pos (by omega)]
          · rw [if_neg h1, if_neg (by omega)]
        rw [e] at h; exact h
      have HRB : Hid (R = setB 0 (c.blocks.drop 0) (setP c.params)) := HR.out
      clear HS
      go_wp2_with fail
      go_loopg [33] n (fun g s33 wr => ∃ (b : Nat) (S : SetM), s33 = .int .i64 (b : Nat) ∧ b + g = n ∧ Hid (R = setB b (c.blocks.drop b) S) ∧ Hid (SetAt wr mp c.vars S) ∧ Hid (FrF mp w wr))
      case atStart => exact ⟨0, _, rfl, by omega, HRB, HS1, HF⟩
      case round =>
        clear HRB HS1 HF q0 q1 q2 q3 q4 q5 q6 q7 q8 q9 q10 q11 q12 q13
        obtain ⟨b, S, rfl, hb', HRB, HS, HF⟩ := hrel
        cases gk with
        | zero =>
          have hltb : ¬ (b : Int) < (n : Int) := by omega
          have HR1 : Hid (R = some S) := by
            have h := HRB.out
            rw [drop_end (by have := HN.out; omega)] at h
            exact h
          go_wp2_with fail
          go_ret
          exact ⟨by rw [HR1.out]; rfl, HF.out, fun S' e => by rw [HR1.out] at e; cases e; exact HS.out⟩
        | succ g =>
          have hltb : (b : Int) < (n : Int) := by omega
          have hbN : b < c.blocks.length := by have := HN.out; omega
          have hget : c.blocks[b]? = some c.blocks[b] := List.getElem?_eq_getElem hbN
          generalize c.blocks[b] = bl at hget
          have HG : Hid (c.blocks[b]? = some bl) := hget
          obtain ⟨gb, ob, cs, rfl, _, _, ⟨vk, rfl, hvk⟩, hcl⟩ := Lies.at (HBK.out.below (HF.out.bel HMB.out hB)) hget
          obtain ⟨ak, ck, rfl⟩ := Lies.slice hvk
          have q0 := hcl 0 (by decide)
          simp at q0
          have hbl := hvk.len
          unfold maxLen at hbl
          obtain ⟨m, hm⟩ : ∃ m, m = bl.length := ⟨_, rfl⟩
          rw [← hm] at hvk q0 hbl
          have HM : Hid (m = bl.length) := hm
          have HVK : Hid (Blk B w (.slice ak m ck) bl) := by
            obtain ⟨g2, o2, cs2, e2, _, _, ⟨vk2, e3, hvk2⟩, hcl2⟩ := Lies.at HBK.out hget
            cases e2
            have h2 := hcl2 0 (by decide)
            rw [e3] at h2
            simp at h2
            have h3 := (HF.out.bel HMB.out hB).cell (p := ⟨gb, ob + b, none⟩) (by obtain ⟨_, _, _, e4, hlt4, _⟩ := Lies.at HBK.out hget; cases e4; exact hlt4)
            rw [q0, h2] at h3
            cases h3
            exact hvk2
          have HRI : Hid (R = (setI (b : Int) 0 (bl.drop 0) S).bind (setB (b + 1) (c.blocks.drop (b + 1)))) := by
            have h := HRB.out
            rw [drop_at hget] at h
            exact h
          clear hcl hget hvk hm
          go_wp2_with fail
          go_loopg [40] m (fun g2 s40 wr => ∃ (k : Nat) (S : SetM), s40 = .int .i64 (k : Nat) ∧ k + g2 = m ∧ Hid (R = (setI (b : Int) k (bl.drop k) S).bind (setB (b + 1) (c.blocks.drop (b + 1)))) ∧ Hid (SetAt wr mp c.vars S) ∧ Hid (FrF mp w wr))
          case atStart => exact ⟨0, S, rfl, by omega, HRI, HS, HF⟩
          case round =>
            clear HRI HRB HS HF S q0
            obtain ⟨j, S, rfl, hj', HRI, HS, HF⟩ := hrel
            cases gk with
            | zero =>
              have hltj : ¬ (j : Int) < (m : Int) := by omega
              have HRB : Hid (R = setB (b + 1) (c.blocks.drop (b + 1)) S) := by
                have h := HRI.out
                rw [drop_end (by have := HM.out; omega)] at h
                exact h
              go_wp2_with fail
              go_roundg g
              case measure => omega
              case rel => exact ⟨b + 1, S, by go_num, by omega, HRB, HS, HF⟩
            | succ g2 =>
              have hltj : (j : Int) < (m : Int) := by omega
              have hjN : j < bl.length := by have := HM.out; omega
              have hgx : bl[j]? = some bl[j] := List.getElem?_eq_getElem hjN
              generalize bl[j] = x at hgx
              have HGX : Hid (bl[j]? = some x) := hgx
              obtain ⟨gi, oi, cs, rfl, hgi, hcs, ⟨vd, va, vt, rfl, hds, has, hts, _⟩, hcl⟩ := Lies.at (Blk.below HVK.out (HF.out.bel HMB.out hB)) hgx
              have i0 := hcl 0 (by decide)
              have i1 := hcl 1 (by decide)
              have i2 := hcl 2 (by decide)
              have i3 := hcl 3 (by decide)
              have i4 := hcl 4 (by decide)
              have i5 := hcl 5 (by decide)
              simp at i0 i1 i2 i3 i4 i5
              obtain ⟨ad, cd, rfl⟩ := Lies.slice hds
              obtain ⟨aa, ca, rfl⟩ := Lies.slice has
              obtain ⟨at_, ct, rfl⟩ := Lies.slice hts
              have HRJ : Hid (R = ((setD (b : Int) (j : Int) (x.ds.drop 0) S).bind (setI (b : Int) (j + 1) (bl.drop (j + 1)))).bind (setB (b + 1) (c.blocks.drop (b + 1)))) := by
                have h := HRI.out
                rw [drop_at hgx] at h
                exact h
              have HBW : Hid (B ≤ wr.heap.size) := Nat.le_trans hB HF.out.size
              have HDS : Hid (Nums B wr _ x.ds) := hds
              clear hcl hcs hgx hds has hts
              have hdl := HDS.out.len
              unfold maxLen at hdl
              go_wp2_with fail
              obtain ⟨O, hO⟩ : ∃ O, O = (.cells #[.int .i64 x.op, .slice ad x.ds.length cd, .slice aa x.ar.length ca, .int .i64 x.n, .string ⟨x.s.toArray⟩, .slice at_ x.to.length ct] 37 : Obj) := ⟨_, rfl⟩
              rw [← hO]
              obtain ⟨gx, hgx⟩ : ∃ gx, gx = wr.heap.size := ⟨_, rfl⟩
              obtain ⟨W, hW⟩ : ∃ W, W = wr.alloc O := ⟨_, rfl⟩
              have HFW : Hid (FrF mp w W) := by rw [hW]; exact HF.out.below (below_alloc _ _)
              have HSW : Hid (SetAt W mp c.vars S) := by rw [hW]; exact HS.out.keep ((below_alloc wr O).block mp HS.out.lt)
              have HDW : Hid (Nums B w (.slice ad x.ds.length cd) x.ds) := by
                obtain ⟨_, _, cs3, e3, _, _, ⟨vd3, va3, vt3, rfl, hd3, _⟩, hcl3⟩ := Lies.at HVK.out HGX.out
                cases e3
                have h1 := hcl3 1 (by decide)
                have h2 := (HF.out.bel HMB.out hB).cell (p := ⟨gi, oi + j * 6 + 1, none⟩) (by obtain ⟨_, _, _, e4, hlt4, _⟩ := Lies.at HVK.out HGX.out; cases e4; exact hlt4)
                rw [i1, h1] at h2
                cases h2
                exact hd3
              rw [← hgx, ← hW]
              obtain ⟨nd, hnd⟩ : ∃ nd, nd = x.ds.length := ⟨_, rfl⟩
              have HND : Hid (nd = x.ds.length) := hnd
              rw [← hnd] at HDW ⊢
              rw [← hnd] at hdl
              have HDR : Hid (∀ d ∈ x.ds, 0 ≤ d ∧ d < c.vars) := fun d hd => HD.out bl (List.mem_of_getElem? HG.out) x (List.mem_of_getElem? HGX.out) d hd
              clear hO hgx hW HDS HBW HF HS HRI i0 i1 i2 i3 i4 i5 hnd
              go_loopg [48] nd (fun g3 s48 wr => ∃ (t : Nat) (S : SetM), s48 = .int .i64 (t : Nat) ∧ t + g3 = nd ∧ Hid (R = ((setD (b : Int) (j : Int) (x.ds.drop t) S).bind (setI (b : Int) (j + 1) (bl.drop (j + 1)))).bind (setB (b + 1) (c.blocks.drop (b + 1)))) ∧ Hid (SetAt wr mp c.vars S) ∧ Hid (FrF mp w wr))
              case atStart => exact ⟨0, S, rfl, by omega, HRJ, HSW, HFW⟩
              case round =>
                clear HRJ HSW HFW S
                obtain ⟨t, S, rfl, ht', HRJ, HS, HF⟩ := hrel
                obtain ⟨q0, q1, q2, q3, q4, q5, q6, q7, q8, q9, q10, q11, q12, q13⟩ := cells14 (HKX.out wr HF.out)
                cases gk with
                | zero =>
                  have hltt : ¬ (t : Int) < (nd : Int) := by omega
                  have HRI : Hid (R = (setI (b : Int) (j + 1) (bl.drop (j + 1)) S).bind (setB (b + 1) (c.blocks.drop (b + 1)))) := by
                    have h := HRJ.out
                    rw [drop_end (by have := HND.out; omega)] at h
                    exact h
                  go_wp2_with fail
                  go_roundg g2
                  case measure => omega
                  case rel => exact ⟨j + 1, S, by go_num, by omega, HRI, HS, HF⟩
                | succ g3 =>
                  have hltt : (t : Int) < (nd : Int) := by omega
                  have htN : t < x.ds.length := by have := HND.out; omega
                  have hgd : x.ds[t]? = some x.ds[t] := List.getElem?_eq_getElem htN
                  generalize x.ds[t] = d at hgd
                  have HGD : Hid (x.ds[t]? = some d) := hgd
                  obtain ⟨gd, od, cs, rfl, _, _, ⟨rfl, hx64⟩, hcl⟩ := Lies.at (Nums.below HDW.out (HF.out.bel HMB.out hB)) hgd
                  have d0 := hcl 0 (by decide)
                  simp at d0
                  have hdr := HDR.out d (List.mem_of_getElem? hgd)
                  obtain ⟨D, ks, o1, o2, o3, o4, o5, o6, o7⟩ := HS.out.ex
                  have HO : Hid (wr.ownsMap Tryd.prog 3 spotR mp (Maps.size D) D) := o1
                  have HT : Hid (Tidy D) := o1.tidy lawI
                  have HZ : Hid (_) := And.intro o2 (And.intro o3 (And.intro o4 (And.intro o5 (And.intro o6 o7))))
                  have HLN : Hid (Maps.size D < maxLen) := by
                    have hvv := HVV.out
                    have h1 := nodup_below 3000 ks o3 fun x hx => by have := o4 x hx; omega
                    unfold Hid maxLen; omega
                  have HKY : Hid (keyOf Tryd.prog 3 (.int .i64 d) = some (.int .i64 d)) := keyOf_int_mk (P := Tryd.prog) (k := 3) Tryd.underlying3 (a := d) (WalkArith.wf_i64 (by unfold I64 at hx64; omega))
                  have HDH : Hid (Maps.has D (.int .i64 d) = (S d).isSome) := o6 d
                  have HRD : Hid (R = ((if (S d).isSome then none else setD (b : Int) (j : Int) (x.ds.drop (t + 1)) (ins S d ((b : Int), (j : Int)))).bind (setI (b : Int) (j + 1) (bl.drop (j + 1)))).bind (setB (b + 1) (c.blocks.drop (b + 1)))) := by
                    have h := HRJ.out
                    rw [drop_at hgd] at h
                    exact h
                  clear o1 o2 o3 o4 o5 o6 o7 hcl hgd hx64
                  go_upto_region 15 with fail
                  go_wp2_with (at_lookup; refine wpList_lookup_spot _ rfl _ _ 46 rfl 3 67 lawI Tryd.underlying46 (zeroSpot _) mp _ D rfl HO.out _ _ rfl HKY.out ?_)
                  intro sb sa hs
                  rcases hh : Maps.has D (.int .i64 d) with _ | _
                  · go_upto_region 18 with fail
                    obtain ⟨W2, hW2⟩ : ∃ W2, W2 = wr.alloc (.cells #[.int .i64 sb, .int .i64 sa] 67) := ⟨_, rfl⟩
                    rw [← hW2]
                    have HF2 : Hid (FrF mp w W2) := by rw [hW2]; exact HF.out.below (below_alloc _ _)
                    have HO2 : Hid (W2.ownsMap Tryd.prog 3 spotR mp (Maps.size D) D) := by
                      obtain ⟨es, clock, e1, e2⟩ := HO.out
                      exact ⟨es, clock, by rw [hW2]; exact ((below_alloc wr _).block mp HS.out.lt).trans e1, e2⟩
                    have hsn : S d = none := by
                      have h := HDH.out
                      rw [hh] at h
                      cases hq : S d with
                      | none => rfl
                      | some _ => rw [hq] at h; cases h
                    have HRN : Hid (R = ((setD (b : Int) (j : Int) (x.ds.drop (t + 1)) (ins S d ((b : Int), (j : Int)))).bind (setI (b : Int) (j + 1) (bl.drop (j + 1)))).bind (setB (b + 1) (c.blocks.drop (b + 1)))) := by
                      have h := HRD.out
                      rw [hsn] at h
                      exact h
                    have HSN : Hid (S d = none) := hsn
                    clear q0 q1 q2 q3 q4 q5 q6 q7 q8 q9 q10 q11 q12 q13 hW2 d0 hs hsn
                    obtain ⟨q0, q1, q2, q3, q4, q5, q6, q7, q8, q9, q10, q11, q12, q13⟩ := cells14 (HKX.out W2 HF2.out)
                    go_wp2_with (at_mapUpdate; refine wpList_mapUpdate_in _ rfl _ _ _ 46 rfl 3 67 lawI Tryd.underlying46 spotR mp _ D rfl HO2.out HLN.out _ _ _ rfl rfl HKY.out _ [] (spotR_mk ((b : Int), (j : Int))) ?_)
                    intro w4 hown4 hturn4
                    have HS4 : Hid (SetAt w4 mp c.vars (ins S d ((b : Int), (j : Int)))) := by
                      obtain ⟨o2, o3, o4, o5, o6, o7⟩ := HZ.out
                      exact SetAt.put o2 o3 o4 o5 o6 o7 HT.out hown4 HSN.out hdr
                    have HF4 : Hid (FrF mp w w4) := HF2.out.turned hturn4
                    clear hown4 hturn4
                    go_wp2_with fail
                    go_roundg g3
                    case measure => omega
                    case rel => exact ⟨t + 1, _, by go_num, by omega, HRN, HS4, HF4⟩
                  · have HR0 : Hid (R = none) := by
                      have h := HRD.out
                      rw [← HDH.out, hh] at h
                      exact h
                    go_wp2_with fail
                    go_ret
                    exact ⟨by rw [HR0.out]; rfl, HF.out.below (below_alloc _ _), fun S' e => by rw [HR0.out] at e; cases e⟩
    | succ g =>
      have hlt : (i : Int) < c.params := by omega
      obtain ⟨D, ks, o1, o2, o3, o4, o5, o6, o7⟩ := HS.out.ex
      have HO : Hid (_) := o1
      have HT : Hid (Tidy D) := o1.tidy lawI
      have HZ : Hid (_) := And.intro o2 (And.intro o3 (And.intro o4 (And.intro o5 (And.intro o6 o7))))
      have HLN : Hid (Maps.size D < maxLen) := by
        have h1 := nodup_below 3000 ks o3 fun x hx => by have := o4 x hx; omega
        unfold Hid maxLen; omega
      have HKY : Hid (_) := keyOf_int_mk (P := Tryd.prog) (k := 3) Tryd.underlying3 (a := (i : Int)) (WalkArith.wf_i64 (by omega))
      clear o1 o2 o3 o4 o5 o6 o7
      go_wp2_with (at_mapUpdate; refine wpList_mapUpdate_in _ rfl _ _ _ 46 rfl 3 67 lawI Tryd.underlying46 spotR mp _ D rfl HO.out HLN.out _ _ _ rfl rfl HKY.out _ [] (spotR_mk (0, -1)) ?_)
      intro w4 hown4 hturn4
      have HS4 : Hid (SetAt w4 mp c.vars (setP ((i + 1 : Nat) : Int))) := by
        obtain ⟨o2, o3, o4, o5, o6, o7⟩ := HZ.out
        have h1 := SetAt.put o2 o3 o4 o5 o6 o7 HT.out hown4 (by unfold setP; rw [if_neg (by omega)]) (by omega)
        unfold Hid
        rw [← setP_succ]; exact h1
      have HF4 : Hid (FrF mp w w4) := HF.out.turned hturn4
      clear hown4 hturn4
      go_wp2_with fail
      go_roundg g
      case measure => omega
      case rel => exact ⟨i + 1, by go_num, by omega, HS4, HF4⟩

end Go.Proofs.YthlngmknifpbjaaDoor
