/-
  Package ssa: what check holds when it has made its checker: plain.
-/
import Derived.Test.YthlngmknifpbjaaDoorSsL0
import Derived.Test.YthlngmknifpbjaaDoorJSpA
import Derived.Test.YthlngmknifpbjaaDoorSsG
import Derived.Test.YthlngmknifpbjaaDoorJSbN1
namespace Go.Proofs.YthlngmknifpbjaaDoor
section
open Go.RowKit
set_option linter.unusedSimpArgs false
set_option linter.unusedVariables false

theorem firstNZ_zero {E : Nat → Int} : ∀ (n i : Nat), firstNZ E i n = 0 → ∀ k, i ≤ k → k < i + n → E k = 0
  | 0, i, _, k, h1, h2 => by omega
  | n + 1, i, h, k, h1, h2 => by
    unfold firstNZ at h
    by_cases e : (E i != 0) = true
    · rw [if_pos e] at h; rw [h] at e; simp at e
    · rw [if_neg e] at h
      have e' : E i = 0 := by simpa using e
      by_cases hk : k = i
      · rw [hk]; exact e'
      · exact firstNZ_zero n (i + 1) h k (by omega) (by omega)

/-- code without its Phis -/
def noPhi (c : Cod) : Cod := { c with blocks := c.blocks.map dropP }

structure FineP (c : Cod) : Prop where
  pos : 0 < c.blocks.length
  few : c.blocks.length ≤ 2000
  vars : c.vars ≤ 3000
  par0 : 0 ≤ c.params
  par : c.params ≤ c.vars
  par16 : c.params ≤ 16
  ins : ∀ (b : Nat) (bl : List Ins) (k : Nat) (x : Ins), c.blocks[b]? = some bl → phiN bl ≤ k → bl[k]? = some x → (x.op ≠ 14) ∧ belowB c.vars x.ds = true ∧ belowB c.vars x.ar = true

theorem headF_zero {c : Cod} (h : headF c = 0) : 0 < c.blocks.length ∧ c.blocks.length ≤ 2000 ∧ c.vars ≤ 3000 ∧ 0 ≤ c.params ∧ c.params ≤ c.vars ∧ c.params ≤ 16 := by
  unfold headF at h
  split at h
  · simp at h
  · split at h
    · simp at h
    · split at h
      · simp at h
      · rename_i h1 h2 h3
        simp at h2 h3
        omega

theorem fine_of {fs : List Cod} {c : Cod} (h : codeF fs (noPhi c) = 0) : FineP c := by
  unfold codeF at h
  split at h
  · rename_i h1; rw [h] at h1; simp at h1
  · rename_i h1
    have h0 : headF (noPhi c) = 0 := by simpa using h1
    obtain ⟨g1, g2, g3, g4, g5, g6⟩ := headF_zero h0
    have hl : (noPhi c).blocks.length = c.blocks.length := by unfold noPhi; simp
    rw [hl] at g1 g2 h
    refine ⟨g1, g2, g3, g4, g5, g6, fun b bl k x hb hk hx => ?_⟩
    have hbl : b < c.blocks.length := (List.getElem?_eq_some_iff.1 hb).1
    have e1 := firstNZ_zero _ _ h b (Nat.zero_le _) (by omega)
    unfold blockF at e1
    have e2 : (noPhi c).blocks[b]? = some (dropP bl) := by unfold noPhi; simp [hb]
    rw [e2] at e1
    simp only at e1
    have hkl : k < bl.length := (List.getElem?_eq_some_iff.1 hx).1
    split at e1
    · simp at e1
    · split at e1
      · simp at e1
      · have e3 := firstNZ_zero _ _ e1 (k - phiN bl) (Nat.zero_le _) (by unfold dropP; simp; omega)
        unfold atF at e3
        have e4 : (dropP bl)[k - phiN bl]? = some x := by
          unfold dropP
          rw [List.getElem?_drop, show phiN bl + (k - phiN bl) = k by omega]
          exact hx
        rw [e4] at e3
        simp only at e3
        split at e3
        · rename_i h5; rw [e3] at h5; simp at h5
        · rename_i h5
          have e5 : instrF fs (noPhi c) x = 0 := by simpa using h5
          unfold instrF at e5
          split at e5
          · simp at e5
          · split at e5
            · simp at e5
            · split at e5
              · simp at e5
              · rename_i h6 h7 h8
                simp at h6 h8
                have : (noPhi c).vars = c.vars := rfl
                rw [this] at h8
                exact ⟨by omega, h8.1, h8.2.1⟩

theorem belowB_mem {v : Int} {l : List Int} (h : belowB v l = true) {d : Int} (hd : d ∈ l) : 0 ≤ d ∧ d < v := by
  unfold belowB at h
  rw [List.all_eq_true] at h
  have := h d hd
  simpa using this

/-- what holds besides where nothing is wrong with the Phis -/
theorem phi_of {vars : Int} {AH : List (List Int)} {bs : List (List Ins)} (h : phiA vars AH bs = 0) {b k : Nat} {bl : List Ins} {x : Ins} (hb : bs[b]? = some bl) (hk : k < phiN bl) (hx : bl[k]? = some x) :
    x.ds.length = 1 ∧ x.ar.length = (AH.getD b []).length ∧ belowB vars x.ds = true ∧ belowB vars x.ar = true ∧ 0 < b := by
  unfold phiA at h
  have h1 := firstNZ_zero _ _ h b (Nat.zero_le _) (by have := (List.getElem?_eq_some_iff.1 hb).1; omega)
  simp only [hb] at h1
  unfold phiB at h1
  have h2 := firstNZ_zero _ _ h1 k (Nat.zero_le _) (by omega)
  simp only [hx] at h2
  unfold phiE at h2
  split at h2
  · simp at h2
  · split at h2
    · simp at h2
    · split at h2
      · simp at h2
      · rename_i h3 h4 h5
        simp at h3 h4 h5
        exact ⟨h3.1.1, h3.1.2, h4.1, h4.2, by omega⟩

theorem ds_of {c : Cod} {AH : List (List Int)} (h : FineP c) (hp : phiA c.vars AH c.blocks = 0) : ∀ bl ∈ c.blocks, ∀ x ∈ bl, ∀ d ∈ x.ds, 0 ≤ d ∧ d < c.vars := by
  intro bl hbl x hx d hd
  obtain ⟨b, hb⟩ := List.getElem?_of_mem hbl
  obtain ⟨k, hk⟩ := List.getElem?_of_mem hx
  rcases Nat.lt_or_ge k (phiN bl) with hl | hl
  · exact belowB_mem (phi_of hp hb hl hk).2.2.1 hd
  · exact belowB_mem (h.ins b bl k x hb hl hk).2.1 hd
theorem phis_of {c : Cod} {AH : List (List Int)} (h : FineP c) (hp : phiA c.vars AH c.blocks = 0) : ∀ (b : Nat) (bl : List Ins) (k : Nat) (x : Ins), c.blocks[b]? = some bl → bl[k]? = some x → x.op = 14 → x.ar.length = (AH.getD b []).length := by
  intro b bl k x hb hx ho
  rcases Nat.lt_or_ge k (phiN bl) with hl | hl
  · exact (phi_of hp hb hl hx).2.1
  · exact absurd ho (h.ins b bl k x hb hl hx).1

/-- which block stands in a spot -/
theorem setD_spots {n : Nat} {b k : Int} (hb : 0 ≤ b ∧ b < (n : Int)) : ∀ (l : List Int) (S S' : SetM), setD b k l S = some S' → (∀ v sb sa, S v = some (sb, sa) → 0 ≤ sb ∧ sb < (n : Int)) → ∀ v sb sa, S' v = some (sb, sa) → 0 ≤ sb ∧ sb < (n : Int)
  | [], S, S', e, h => by
    have : S = S' := by simpa [setD] using e
    rw [← this]; exact h
  | d :: l, S, S', e, h => by
    unfold setD at e
    split at e
    · cases e
    · refine setD_spots hb l _ S' e fun v sb sa hv => ?_
      unfold ins at hv
      by_cases hvd : v = d
      · rw [if_pos hvd] at hv; cases hv; exact hb
      · rw [if_neg hvd] at hv; exact h v sb sa hv
theorem setI_spots {n : Nat} {b : Int} (hb : 0 ≤ b ∧ b < (n : Int)) : ∀ (l : List Ins) (k : Nat) (S S' : SetM), setI b k l S = some S' → (∀ v sb sa, S v = some (sb, sa) → 0 ≤ sb ∧ sb < (n : Int)) → ∀ v sb sa, S' v = some (sb, sa) → 0 ≤ sb ∧ sb < (n : Int)
  | [], k, S, S', e, h => by
    have : S = S' := by simpa [setI] using e
    rw [← this]; exact h
  | x :: l, k, S, S', e, h => by
    unfold setI at e
    obtain ⟨S1, e1, e2⟩ := Option.bind_eq_some_iff.1 e
    exact setI_spots hb l (k + 1) S1 S' e2 (setD_spots hb _ _ _ e1 h)
theorem setB_spots {n : Nat} : ∀ (l : List (List Ins)) (b : Nat) (S S' : SetM), b + l.length ≤ n → setB b l S = some S' → (∀ v sb sa, S v = some (sb, sa) → 0 ≤ sb ∧ sb < (n : Int)) → ∀ v sb sa, S' v = some (sb, sa) → 0 ≤ sb ∧ sb < (n : Int)
  | [], b, S, S', _, e, h => by
    have : S = S' := by simpa [setB] using e
    rw [← this]; exact h
  | bl :: l, b, S, S', hl, e, h => by
    unfold setB at e
    obtain ⟨S1, e1, e2⟩ := Option.bind_eq_some_iff.1 e
    simp at hl
    exact setB_spots l (b + 1) S1 S' (by omega) e2 (setI_spots (n := n) ⟨by omega, by omega⟩ _ _ _ _ e1 h)
theorem setAll_spots {c : Cod} {S : SetM} (hp : 0 < c.blocks.length) (h : setAll c = some S) : ∀ v sb sa, S v = some (sb, sa) → 0 ≤ sb ∧ sb < (c.blocks.length : Int) := by
  refine setB_spots c.blocks 0 _ S (by omega) h fun v sb sa hv => ?_
  unfold setP at hv
  split at hv
  · cases hv; omega
  · cases hv

/-- what is wrong with code in which each variable is set once -/
noncomputable def checkS (fs : List Cod) (c : Cod) : Int :=
  if codeF fs (noPhi c) != 0 then codeF fs (noPhi c)
  else if phiA c.vars ((List.range c.blocks.length).map fun t => rowL (c.blocks.map leadsL) t c.blocks.length) c.blocks != 0 then phiA c.vars ((List.range c.blocks.length).map fun t => rowL (c.blocks.map leadsL) t c.blocks.length) c.blocks
  else if (rowL (c.blocks.map leadsL) 0 c.blocks.length).length != 0 then 4
  else match setAll c with
    | none => 7
    | some S => if usesY (c.blocks.map leadsL) ((List.range c.blocks.length).map fun t => rowL (c.blocks.map leadsL) t c.blocks.length) c.blocks S then 0 else 12
end

section
open Go.RowKit
set_option linter.unusedSimpArgs false
set_option linter.unusedVariables false

/-- what flowOf answered, and that a block is none of its -/
structure FlowX (w : World) (S n m : Nat) (L : List (List Int)) (v9 v14 : Value) (g5 g6 : Nat) (o : List Nat) (u : Nat → Option Nat) (K : Option Nat) : Prop where
  ln : m = o.length
  ord : Ordered L o
  up : UpOf L o u
  own : w.ownsRow S 3 1 v14 m (numsL (natsL o))
  grid : ∃ vs, Grid w S n v9 vs (fun t => rowL L t n) ∧ ∀ k, K = some k → GOff v9 vs n k
  ne : g5 ≠ g6
  l5 : S ≤ g5
  l6 : S ≤ g6
  rows : ∃ (A : Nat → Int) (at' fr : Nat → Nat), NW o (fun b => (u b).getD 0) m at' fr ∧ (∀ b, b ∈ o → A b = (at' b : Int)) ∧ (∀ b, b ∉ o → A b = -1) ∧ RowI w 0 g5 n A ∧ RowI w 0 g6 n (fun b => wrap64 ((manyL (fun b => (u b).getD 0) o b : Nat) : Int))
  offs : ∀ k, K = some k → k ≠ g5 ∧ k ≠ g6 ∧ v14.ownBlock ≠ some k

variable {w w' : World} {S n m : Nat} {L : List (List Int)} {v9 v14 : Value} {g5 g6 : Nat} {o : List Nat} {u : Nat → Option Nat} {K : Option Nat}
theorem FlowX.keep (h : FlowX w S n m L v9 v14 g5 g6 o u K) (k : Below w.heap.size w w') : FlowX w' S n m L v9 v14 g5 g6 o u K :=
  ⟨h.ln, h.ord, h.up, own_same h.own fun g hg => k.block g (own_lt h.own hg).2, by obtain ⟨vs, h1, h2⟩ := h.grid; exact ⟨vs, h1.keep k, h2⟩, h.ne, h.l5, h.l6,
    by obtain ⟨A, at', fr, h1, h2, h3, h4, h5⟩ := h.rows; exact ⟨A, at', fr, h1, h2, h3, h4.keep (k.block g5 h4.lt.2), h5.keep (k.block g6 h5.lt.2)⟩, h.offs⟩
theorem FlowX.of {s : Nat} (h : Flowed L o u n m v9 v14 g5 g6 s w) (hs : S ≤ s) (hm : m = o.length) (ho : Ordered L o) (hu : UpOf L o u) (hK : ∀ k, K = some k → k < s) : FlowX w S n m L v9 v14 g5 g6 o u K :=
  ⟨hm, ho, hu, own_base' h.own hs, by obtain ⟨vs, h1⟩ := h.grid; exact ⟨vs, h1.base hs, fun k e => h1.offBig (.inl (hK k e))⟩, h.ne, Nat.le_trans hs h.l5, Nat.le_trans hs h.l6, h.rows,
    fun k e => by
      have h1 := hK k e
      have h2 := h.l5
      have h3 := h.l6
      exact ⟨by omega, by omega, fun hg => by have := (own_lt h.own hg).1; omega⟩⟩
theorem FlowX.new (h : FlowX w S n m L v9 v14 g5 g6 o u none) (k : Below w.heap.size w w') : FlowX w' S n m L v9 v14 g5 g6 o u (some w.heap.size) := by
  obtain ⟨A, at', fr, h1, h2, h3, h4, h5⟩ := h.rows
  have x := h.keep k
  exact ⟨h.ln, h.ord, h.up, x.own, by
      obtain ⟨vs, g1, _⟩ := h.grid
      exact ⟨vs, g1.keep k, fun k e => by cases e; exact g1.offBig (.inr (Nat.le_refl _))⟩, h.ne, h.l5, h.l6, x.rows, fun k e => by
      cases e
      have := h4.lt.2
      have := h5.lt.2
      exact ⟨by omega, by omega, fun hg => by have := (own_lt h.own hg).2; omega⟩⟩
theorem FlowX.fr {F : Nat} (h : FlowX w S n m L v9 v14 g5 g6 o u (some F)) (k : FrF F w w') : FlowX w' S n m L v9 v14 g5 g6 o u (some F) := by
  obtain ⟨o1, o2, o3⟩ := h.offs F rfl
  exact ⟨h.ln, h.ord, h.up, own_same h.own fun g hg => k.block g (own_lt h.own hg).2 (fun e => o3 (e ▸ hg)), by
      obtain ⟨vs, g1, g2⟩ := h.grid
      exact ⟨vs, g1.fr (g2 F rfl) k, g2⟩, h.ne, h.l5, h.l6, by
      obtain ⟨A, at', fr, h1, h2, h3, h4, h5⟩ := h.rows
      exact ⟨A, at', fr, h1, h2, h3, h4.keep (k.block g5 h4.lt.2 (fun e => o1 e.symm)), h5.keep (k.block g6 h5.lt.2 (fun e => o2 e.symm))⟩, h.offs⟩

theorem own_cells {w : World} {base size n : Nat} {e : TypeId} {v : Value} {xs : List Value} (h : w.ownsRow base e size v n xs) {g : Nat} (hg : v.ownBlock = some g) {es : Array MapEntry} {cl : Nat} (hm : w.heap[g]? = some (.map es cl)) : False := by
  rcases h.2 with ⟨h1, _⟩ | ⟨g', cap, cur, hv, hb, hh, _⟩
  · subst h1; cases hg
  · subst hv
    have : g' = g := by simpa [Value.ownBlock] using hg
    subst this
    rw [hm] at hh; cases hh
theorem FlowX.map {mp cl : Nat} {es : Array MapEntry} (h : FlowX w S n m L v9 v14 g5 g6 o u K) (hm : w.heap[mp]? = some (.map es cl)) : FlowX w S n m L v9 v14 g5 g6 o u (some mp) := by
  obtain ⟨A, at', fr, h1, h2, h3, h4, h5⟩ := h.rows
  exact ⟨h.ln, h.ord, h.up, h.own, by
      obtain ⟨vs, g1, _⟩ := h.grid
      exact ⟨vs, g1, fun k e => by
        have e2 : mp = k := by injection e
        subst e2
        exact ⟨fun hg => own_cells g1.row hg hm, fun i x hi hx hg => own_cells (g1.each i x hi hx) hg hm⟩⟩, h.ne, h.l5, h.l6, h.rows, fun k e => by
      have e2 : mp = k := by injection e
      subst e2
      exact ⟨fun e => own_cells h4.own rfl (by rw [← e]; exact hm), fun e => own_cells h5.own rfl (by rw [← e]; exact hm), fun hg => own_cells h.own hg hm⟩⟩
theorem setAt_of {mp : Nat} (vars : Int) (h : w.heap[mp]? = some (.map #[] 0)) : SetAt w mp vars (fun _ => none) := by
  obtain ⟨D, ks, ⟨es, cl, e1, e2⟩, h2⟩ := (setAt_made w vars).ex
  rw [heap_alloc_new] at e1
  cases e1
  exact ⟨D, ks, ⟨#[], 0, h, e2⟩, h2⟩
theorem FlowX.flowP (h : FlowX w S n m L v9 v14 g5 g6 o u K) (hn : n = L.length) (hb : n ≤ 1048576) : ∃ A N, FlowP L o u n A N ∧ RowI w 0 g5 n A ∧ RowI w 0 g6 n N := by
  obtain ⟨A, at', fr, h1, h2, h3, h4, h5⟩ := h.rows
  exact ⟨A, _, ⟨h.ord, h.up, hn, hb, ⟨at', fr, by rw [← h.ln]; exact h1, h2⟩, h3, fun _ => rfl⟩, h4, h5⟩

/-- the checker when it is new -/
def kzero : Obj := .cells #[.string ⟨#[]⟩, .int .i64 0, .int .i64 0, .int .i64 0, .int .i64 0, .slice none 0 0, .slice none 0 0, .slice none 0 0, .slice none 0 0, .slice none 0 0, .slice none 0 0, .slice none 0 0, .slice none 0 0, .map none] 48

/-- the checker is made -/
structure D4 (w0 : World) (S n : Nat) (c : Cod) (vb : Value) (L : List (List Int)) (v6 : Value) (w : World) : Prop where
  bel : Below S w0 w
  ex : ∃ (K : Nat) (a9 : Option Addr) (k9 gx : Nat) (a14 : Option Addr) (k14 gu g4 g5 g6 m mp : Nat) (o : List Nat) (u : Nat → Option Nat), v6 = .pointer (some ⟨K, 0, none⟩) ∧ S ≤ K ∧ S ≤ mp ∧ w.heap[mp]? = some (.map #[] 0) ∧
    w.heap[K]? = some (kobj c vb (.slice a9 n k9) (.slice (some ⟨gx, 0, none⟩) n n) (.slice a14 m k14) (.slice (some ⟨gu, 0, none⟩) n n) (.slice (some ⟨g4, 0, none⟩) m m) (.slice (some ⟨g5, 0, none⟩) n n) (.slice (some ⟨g6, 0, none⟩) n n) mp) ∧ FlowX w S n m L (.slice a9 n k9) (.slice a14 m k14) g5 g6 o u (some K)

/-- the checker's making, in any order -/
structure C4 (w0 : World) (S n P : Nat) (c : Cod) (vb : Value) (L : List (List Int)) (d0 d1 d2 d3 d4 d5 d6 d7 d8 : Bool) (v15 v16 v17 v18 v19 v20 v21 v6 : Value) (w : World) : Prop where
  bel : Below S w0 w
  c0 : d0 = true → v15 = .agg #[.string ⟨c.name.toArray⟩, .int .i64 c.params, .int .i64 c.results, .int .i64 c.vars, .int .i64 c.slots, vb]
  c1 : d1 = true → v16 = .pointer (some ⟨P + 1, 5, none⟩)
  c2 : d2 = true → v17 = vb
  c3 : d3 = true → Rws w.heap.size w v18 L
  c4 : d4 = true → ∃ (a9 : Option Addr) (k9 gx : Nat) (a14 : Option Addr) (k14 gu g4 g5 g6 m : Nat) (o : List Nat) (u : Nat → Option Nat), v19 = .agg #[.slice a9 n k9, .slice (some ⟨gx, 0, none⟩) n n, .slice a14 m k14, .slice (some ⟨gu, 0, none⟩) n n, .slice (some ⟨g4, 0, none⟩) m m, .slice (some ⟨g5, 0, none⟩) n n, .slice (some ⟨g6, 0, none⟩) n n] ∧ FlowX w S n m L (.slice a9 n k9) (.slice a14 m k14) g5 g6 o u (if d7 then blkOf v6 else none)
  c5 : d5 = true → ∃ mp, v20 = .map (some mp) ∧ w.heap[mp]? = some (.map #[] 0) ∧ S ≤ mp
  c6 : d6 = true → ∃ (a9 : Option Addr) (k9 gx : Nat) (a14 : Option Addr) (k14 gu g4 g5 g6 m mp : Nat) (o : List Nat) (u : Nat → Option Nat), v21 = .agg #[.string ⟨c.name.toArray⟩, .int .i64 c.params, .int .i64 c.results, .int .i64 c.vars, .int .i64 c.slots, vb, .slice a9 n k9, .slice (some ⟨gx, 0, none⟩) n n, .slice a14 m k14, .slice (some ⟨gu, 0, none⟩) n n, .slice (some ⟨g4, 0, none⟩) m m, .slice (some ⟨g5, 0, none⟩) n n, .slice (some ⟨g6, 0, none⟩) n n, .map (some mp)] ∧
    FlowX w S n m L (.slice a9 n k9) (.slice a14 m k14) g5 g6 o u (if d7 then blkOf v6 else none) ∧ w.heap[mp]? = some (.map #[] 0) ∧ S ≤ mp
  c7 : d8 = false → PtB S kzero d7 v6 w
  o8 : d8 = true → d0 = true ∧ d1 = true ∧ d2 = true ∧ d3 = true ∧ d4 = true ∧ d5 = true ∧ d6 = true ∧ d7 = true
  o6 : d6 = true → d0 = true ∧ d4 = true ∧ d5 = true
  o4 : d4 = true → d3 = true
  o3 : d3 = true → d2 = true

variable {w0 : World} {P : Nat} {c : Cod} {vb : Value} {d0 d1 d2 d3 d4 d5 d6 d7 : Bool} {v15 v16 v17 v18 v19 v20 v21 v6 : Value}
theorem C4.keep (h : C4 w0 S n P c vb L d0 d1 d2 d3 d4 d5 d6 d7 false v15 v16 v17 v18 v19 v20 v21 v6 w) (hS : S ≤ w.heap.size) (k : Below w.heap.size w w') : C4 w0 S n P c vb L d0 d1 d2 d3 d4 d5 d6 d7 false v15 v16 v17 v18 v19 v20 v21 v6 w' :=
  ⟨h.bel.trans (k.mono hS), h.c0, h.c1, h.c2, fun hd => (Rws.below (h.c3 hd) k).up k.size, fun hd => by
      obtain ⟨a9, k9, gx, a14, k14, gu, g4, g5, g6, m, o, u, e, hf⟩ := h.c4 hd
      exact ⟨a9, k9, gx, a14, k14, gu, g4, g5, g6, m, o, u, e, hf.keep k⟩, fun hd => by
      obtain ⟨mp, e, h1, h2⟩ := h.c5 hd
      exact ⟨mp, e, (k.block mp (lt_of_block h1)).trans h1, h2⟩, fun hd => by
      obtain ⟨a9, k9, gx, a14, k14, gu, g4, g5, g6, m, mp, o, u, e, hf, h1, h2⟩ := h.c6 hd
      exact ⟨a9, k9, gx, a14, k14, gu, g4, g5, g6, m, mp, o, u, e, hf.keep k, (k.block mp (lt_of_block h1)).trans h1, h2⟩, fun hd => (h.c7 hd).keep k, (fun hd => nomatch hd), h.o6, h.o4, h.o3⟩
/-- its last step -/
theorem C4.last {K : Nat} {a9 : Option Addr} {k9 gx : Nat} {a14 : Option Addr} {k14 gu g4 mp : Nat} (h : Below S w0 w) (h0 : true = true → v15 = .agg #[.string ⟨c.name.toArray⟩, .int .i64 c.params, .int .i64 c.results, .int .i64 c.vars, .int .i64 c.slots, vb]) (h1 : true = true → v16 = .pointer (some ⟨P + 1, 5, none⟩)) (h2 : true = true → v17 = vb) (hsm : S ≤ mp) (hsK : S ≤ K)
    (hK : w.heap[K]? = some (kobj c vb (.slice a9 n k9) (.slice (some ⟨gx, 0, none⟩) n n) (.slice a14 m k14) (.slice (some ⟨gu, 0, none⟩) n n) (.slice (some ⟨g4, 0, none⟩) m m) (.slice (some ⟨g5, 0, none⟩) n n) (.slice (some ⟨g6, 0, none⟩) n n) mp)) (hm : w.heap[mp]? = some (.map #[] 0)) (hf : FlowX w S n m L (.slice a9 n k9) (.slice a14 m k14) g5 g6 o u (some K)) :
    D4 w0 S n c vb L (.pointer (some ⟨K, 0, none⟩)) w := ⟨h, K, a9, k9, gx, a14, k14, gu, g4, g5, g6, m, mp, o, u, rfl, hsK, hsm, hm, hK, hf⟩
end

end Go.Proofs.YthlngmknifpbjaaDoor
