/-
  Package ssa: uppersOf; plain: rounds till nothing is better.
-/
import Derived.Test.YthlngmknifpbjaaDoorJSbM
namespace Go.Proofs.YthlngmknifpbjaaDoor
section
open Go.RowKit
set_option linter.unusedSimpArgs false
set_option linter.unusedVariables false

section
variable {P : Program} {ops : Array Oper} {Q : Exit → Act → World → Prop} {md : Region.Mode}

theorem ready_mem {listed : Array Bool} {i : Nat} (h : i ∈ Region.ready md ops listed) : i < ops.size ∧ listed.getD i true = false ∧ ((ops[i]?).map (·.after.all fun e => !Region.binds md e || listed.getD e.on false)).getD false = true := by
  unfold Region.ready at h
  rw [List.mem_filter, List.mem_range, Bool.and_eq_true] at h
  exact ⟨h.1, by simpa using h.2.1, h.2.2⟩

theorem count_set_lt {l : List Bool} {i : Nat} (h : l[i]? = some false) : (l.set i true).count false + 1 = l.count false := by
  induction l generalizing i with
  | nil => cases h
  | cons b l ih =>
    cases i with
    | zero => cases h; simp
    | succ i =>
      have := ih (i := i) (by simpa using h)
      cases b <;> simp_all <;> omega

/-- what holds whatever has come up, step by step -/
theorem wpAny_inv (I : Array Bool → Act → World → Prop)
    (hstep : ∀ listed a w i, I listed a w → i ∈ Region.ready md ops listed → wpOp P ops Q i (I (listed.setIfInBounds i true)) a w)
    (hdone : ∀ listed a w, I listed a w → Region.ready md ops listed = [] → Q .normal a w) :
    ∀ (fuel : Nat) (listed : Array Bool) (a : Act) (w : World), listed.toList.count false ≤ fuel → I listed a w → wpAny P md ops Q fuel listed a w := by
  intro fuel
  induction fuel with
  | zero =>
    intro listed a w hc hI
    have hr : Region.ready md ops listed = [] := by
      rw [List.eq_nil_iff_forall_not_mem]
      intro i hi
      obtain ⟨_, h2, _⟩ := ready_mem hi
      have h0 : listed.toList.count false = 0 := by omega
      rw [List.count_eq_zero] at h0
      rw [Array.getD_eq_getD_getElem?] at h2
      rcases hq : listed[i]? with _ | b
      · rw [hq] at h2; cases h2
      · rw [hq] at h2
        have hb : b = false := h2
        subst hb
        exact h0 (by rw [Array.mem_toList_iff]; exact Array.mem_of_getElem? hq)
    exact ⟨hr, hdone _ _ _ hI hr⟩
  | succ fuel ih =>
    intro listed a w hc hI
    refine ⟨fun hr => hdone _ _ _ hI hr, fun i hi => wpOp_mono (fun a' w' h => ih _ a' w' ?_ h) (hstep _ _ _ i hI hi)⟩
    obtain ⟨_, h2, _⟩ := ready_mem hi
    rw [Array.getD_eq_getD_getElem?] at h2
    rcases hq : listed[i]? with _ | b
    · rw [hq] at h2; cases h2
    · rw [hq] at h2
      have hb : b = false := h2
      subst hb
      have := count_set_lt (l := listed.toList) (i := i) (by simpa using hq)
      rw [Array.toList_setIfInBounds]
      omega
end

section
variable {ops : Array Oper} {md : Region.Mode}
theorem ready_none {listed : Array Bool} (h : Region.ready md ops listed = []) (i : Nat) (hi : i < ops.size) (hd : ((ops[i]?).map (·.after.all fun e => !Region.binds md e || listed.getD e.on false)).getD false = true) : listed.getD i true = true := by
  rcases hq : listed.getD i true with _ | _
  · have : i ∈ Region.ready md ops listed := by
      unfold Region.ready
      rw [List.mem_filter, List.mem_range, Bool.and_eq_true]
      exact ⟨hi, by simp [hq], hd⟩
    rw [h] at this; cases this
  · rfl
end

/-- the block where a value lies -/
def blkOf : Value → Option Nat
  | .slice (some a) _ _ => some a.block
  | .pointer (some a) => some a.block
  | _ => none

/-- if it has come up: a slice of a block of its own -/
def SlB (S : Nat) (O : Obj) (l c : Nat) (d : Bool) (v : Value) (w : World) : Prop := d = true → ∃ g : Nat, v = .slice (some ⟨g, 0, none⟩) l c ∧ w.heap[g]? = some O ∧ S ≤ g
def PtB (S : Nat) (O : Obj) (d : Bool) (v : Value) (w : World) : Prop := d = true → ∃ g : Nat, v = .pointer (some ⟨g, 0, none⟩) ∧ w.heap[g]? = some O ∧ S ≤ g
/-- two of them lie in two blocks -/
def Dis (d d' : Bool) (v v' : Value) : Prop := d = true → d' = true → blkOf v ≠ blkOf v'

variable {S l c g : Nat} {O : Obj} {d d' : Bool} {v v' : Value} {w w' : World}
theorem SlB.keep (h : SlB S O l c d v w) (k : Below w.heap.size w w') : SlB S O l c d v w' := fun hd => by
  obtain ⟨g, e, hg, hs⟩ := h hd
  exact ⟨g, e, (k.block g (lt_of_block hg)).trans hg, hs⟩
theorem PtB.keep (h : PtB S O d v w) (k : Below w.heap.size w w') : PtB S O d v w' := fun hd => by
  obtain ⟨g, e, hg, hs⟩ := h hd
  exact ⟨g, e, (k.block g (lt_of_block hg)).trans hg, hs⟩
theorem SlB.no (v : Value) (w : World) : SlB S O l c false v w := fun h => by cases h
theorem PtB.no (v : Value) (w : World) : PtB S O false v w := fun h => by cases h
theorem SlB.new (hg : w.heap[g]? = some O) (hs : S ≤ g) : SlB S O l c true (.slice (some ⟨g, 0, none⟩) l c) w := fun _ => ⟨g, rfl, hg, hs⟩
theorem PtB.new (hg : w.heap[g]? = some O) (hs : S ≤ g) : PtB S O true (.pointer (some ⟨g, 0, none⟩)) w := fun _ => ⟨g, rfl, hg, hs⟩
theorem Dis.no : Dis false d v v' := fun h => by cases h
theorem Dis.no' : Dis d false v v' := fun _ h => by cases h
theorem Dis.symm (h : Dis d d' v v') : Dis d' d v' v := fun h1 h2 => (h h2 h1).symm
theorem SlB.apart (h : SlB S O l c d v w) (hb : blkOf v' = some g) (hg : w.heap.size ≤ g) : Dis d true v v' := fun hd _ => by
  obtain ⟨g', e, hg', _⟩ := h hd
  have := lt_of_block hg'
  rw [hb, e]
  intro e2
  have : g' = g := by simpa [blkOf] using e2
  omega
theorem PtB.apart (h : PtB S O d v w) (hb : blkOf v' = some g) (hg : w.heap.size ≤ g) : Dis d true v v' := fun hd _ => by
  obtain ⟨g', e, hg', _⟩ := h hd
  have := lt_of_block hg'
  rw [hb, e]
  intro e2
  have : g' = g := by simpa [blkOf] using e2
  omega
theorem SlB.off (h : SlB S O l c d v w) (hk : ∀ k, k ≠ g → w'.heap[k]? = w.heap[k]?) {a : Addr} (hd : Dis d true v (.pointer (some a))) (ha : a.block = g := by rfl) : SlB S O l c d v w' := fun e => by
  obtain ⟨g', he, hg, hs⟩ := h e
  refine ⟨g', he, (hk g' fun h2 => ?_).trans hg, hs⟩
  have := hd e rfl
  rw [he] at this
  exact this (by simp [blkOf, ha, h2])
theorem alloc_at {w : World} {o : Obj} {k : Nat} (h : k = w.heap.size) : (w.alloc o).heap[k]? = some o := by rw [h]; exact heap_alloc_new w o
theorem thawAny {w : World} {x : Nat} {T : TypeId} {cs : Array Value} (h : w.heap[x]? = some (.cells cs T)) (o : Nat) : w.frozen? ⟨x, o, none⟩ = false := by simp [World.frozen?, h]
end

section
set_option linter.unusedSimpArgs false
set_option linter.unusedVariables false

theorem preL_len (L : List (List Int)) (b : Nat) : (preL L b).length ≤ L.length := by
  unfold preL
  split
  · refine Nat.le_trans (List.length_filter_le _ _) ?_
    rw [List.length_range]; exact Nat.le_refl _
  · exact Nat.zero_le _

def wt (n : Nat) (r : Nat → Nat) (u : Nat → Option Nat) (b : Nat) : Nat := match u b with
  | some c => r c + 1
  | none => n + 1
/-- how much better it may get -/
def phi (n : Nat) (r : Nat → Nat) (u : Nat → Option Nat) : Nat → Nat
  | 0 => 0
  | m + 1 => phi n r u m + wt n r u m

theorem phi_off {n : Nat} {r : Nat → Nat} {u : Nat → Option Nat} {b z : Nat} : ∀ m, m ≤ b → phi n r (upd1 u b z) m = phi n r u m
  | 0, _ => rfl
  | m + 1, h => by
    have e : wt n r (upd1 u b z) m = wt n r u m := by unfold wt; rw [upd1_other _ (by omega)]
    show phi n r (upd1 u b z) m + _ = _
    rw [phi_off m (by omega), e]; rfl
theorem phi_less {n : Nat} {r : Nat → Nat} {u : Nat → Option Nat} {b z : Nat} (hw : wt n r (upd1 u b z) b < wt n r u b) : ∀ m, b < m → phi n r (upd1 u b z) m + 1 ≤ phi n r u m
  | 0, h => by omega
  | m + 1, h => by
    show phi n r (upd1 u b z) m + _ + 1 ≤ phi n r u m + _
    by_cases e : m = b
    · subst e
      rw [phi_off m (Nat.le_refl _)]; omega
    · have e2 : wt n r (upd1 u b z) m = wt n r u m := by unfold wt; rw [upd1_other _ e]
      have := phi_less hw m (by omega)
      rw [e2]; omega
theorem phi_none (n : Nat) (r : Nat → Nat) : ∀ m, phi n r (fun _ => none) m = m * (n + 1)
  | 0 => by simp [phi]
  | m + 1 => by
    show phi n r (fun _ => none) m + (n + 1) = _
    rw [phi_none n r m, Nat.succ_mul]

/-- within a round -/
structure Rs (n : Nat) (pre : Nat → List Nat) (r p : Nat → Nat) (u0 u : Nat → Option Nat) (k : Nat) (ch : Bool) : Prop where
  rnd : Rnd pre r p u (k + 1)
  le : phi n r u n ≤ phi n r u0 n
  lt : ch = true → phi n r u n < phi n r u0 n
  fx : ch = false → u = u0 ∧ ∀ b c, u b = some c → r b ≤ k → ∀ x, Ch u x c → Com pre u b x

section
variable {n k b z : Nat} {pre : Nat → List Nat} {r p : Nat → Nat} {u0 u : Nat → Option Nat} {ch : Bool}

theorem Rs.start (O : Ranks pre r p) (h : Rnd pre r p u 1) : Rs n pre r p u u 0 false :=
  ⟨h, Nat.le_refl _, fun e => (by cases e), fun _ => ⟨rfl, fun b c e hr => by have := (h.st.up b c e).2.2.2; omega⟩⟩

theorem Rs.same (h : Rs n pre r p u0 u k ch) (T : Turn pre r p u (k + 1) b z) (e : u b = some z) : Rs n pre r p u0 u (k + 1) ch := by
  have hn := T.next
  rw [upd1_id e] at hn
  refine ⟨hn, h.le, h.lt, fun hc => ⟨(h.fx hc).1, fun b' c e' hr x hx => ?_⟩⟩
  by_cases hb : r b' ≤ k
  · exact (h.fx hc).2 b' c e' hb x hx
  · have hrch := (T.rnd.st.up b' c e').1
    have : b' = b := T.ranks.inj b' b hrch T.rch (by have := T.rank; omega)
    subst this
    rw [e] at e'
    cases e'
    exact (T.near x).1 hx

theorem Rs.turn (h : Rs n pre r p u0 u k ch) (T : Turn pre r p u (k + 1) b z) (e : u b ≠ some z) (hb : b < n) (hr : r b < n) : Rs n pre r p u0 (upd1 u b z) (k + 1) true := by
  have hz := T.zrank
  have hw : wt n r (upd1 u b z) b < wt n r u b := by
    unfold wt
    rw [upd1_same]
    rcases hu : u b with _ | c
    · show r z + 1 < n + 1; omega
    · have := T.falls hu (fun e2 => e (by rw [hu, e2]))
      show r z + 1 < r c + 1; omega
  have := phi_less hw n hb
  have h2 := h.le
  exact ⟨T.next, by omega, fun _ => by omega, fun hc => by cases hc⟩

/-- the nearest one above those that have been gone through -/
def Ns (n : Nat) (u : Nat → Option Nat) (l : List Nat) (j : Nat) (nv : Int) (M : Nat → Int) (cl : Int) : Prop :=
  (∀ x, x < n → M x ≤ cl) ∧ ((nv = -1 ∧ (∀ a, a ∈ l.take j → ¬ Kn u a) ∧ ∀ x, x < n → M x < cl) ∨
    ∃ z : Nat, nv = (z : Int) ∧ Kn u z ∧ Met u (fun x => x < n ∧ M x = cl) z ∧ ∀ x, Ch u x z ↔ ∀ a, a ∈ l.take j → Kn u a → Ch u x a)

variable {l : List Nat} {j a : Nat} {nv cl : Int} {M M' : Nat → Int}
theorem mem_take_succ {l : List Nat} {j a : Nat} (h : l[j]? = some a) (x : Nat) : x ∈ l.take (j + 1) ↔ x ∈ l.take j ∨ x = a := by
  rw [List.take_add_one, h]; simp

theorem Ns.start (h : ∀ x, x < n → M x < cl) : Ns n u l 0 (-1) M cl := ⟨fun x hx => by have := h x hx; omega, .inl ⟨rfl, fun a ha => by simp at ha, h⟩⟩

theorem Ns.skip (h : Ns n u l j nv M cl) (ha : l[j]? = some a) (hk : ¬ Kn u a) : Ns n u l (j + 1) nv M cl := by
  refine ⟨h.1, ?_⟩
  rcases h.2 with ⟨h1, h2, h3⟩ | ⟨z, h1, h2, h3, h4⟩
  · exact .inl ⟨h1, fun x hx => ((mem_take_succ ha x).1 hx).elim (h2 x) fun e => e ▸ hk, h3⟩
  · refine .inr ⟨z, h1, h2, h3, fun x => (h4 x).trans ⟨fun h y hy ky => ?_, fun h y hy ky => h y ((mem_take_succ ha y).2 (.inl hy)) ky⟩⟩
    rcases (mem_take_succ ha y).1 hy with hy | rfl
    · exact h y hy ky
    · exact absurd ky hk

theorem Ns.first (h : Ns n u l j (-1) M cl) (ha : l[j]? = some a) (hk : Kn u a) : Ns n u l (j + 1) (a : Int) M cl := by
  refine ⟨h.1, ?_⟩
  rcases h.2 with ⟨h1, h2, h3⟩ | ⟨z, h1, _⟩
  · refine .inr ⟨a, rfl, hk, fun x hx => by have := h3 x hx.1; omega, fun x => ⟨fun hx y hy ky => ?_, fun hx => hx a ((mem_take_succ ha a).2 (.inr rfl)) hk⟩⟩
    rcases (mem_take_succ ha y).1 hy with hy | rfl
    · exact absurd ky (h2 y hy)
    · exact hx
  · omega

theorem Ns.got (h : Ns n u l j nv M cl) (hn : nv ≠ -1) : ∃ z : Nat, nv = (z : Int) ∧ Kn u z ∧ Met u (fun x => x < n ∧ M x = cl) z ∧ ∀ x, Ch u x z ↔ ∀ a, a ∈ l.take j → Kn u a → Ch u x a := by
  rcases h.2 with ⟨h1, _⟩ | h
  · exact absurd h1 hn
  · exact h

theorem Ns.meet {z z' : Nat} (h : Ns n u l j (z : Int) M cl) (ha : l[j]? = some a) (hk : Kn u a) (kz : Kn u z') (hz : ∀ x, Ch u x z' ↔ (Ch u x a ∧ Ch u x z)) (hm : Met u (fun x => x < n ∧ M' x = cl) z') (hM : ∀ i, M' i = M i ∨ M' i = cl) : Ns n u l (j + 1) (z' : Int) M' cl := by
  obtain ⟨z2, e, _, _, h4⟩ := h.got (by omega)
  have e : z2 = z := by omega
  subst e
  refine ⟨fun x hx => ?_, .inr ⟨z', rfl, kz, hm, fun x => (hz x).trans ⟨fun h y hy ky => ?_, fun h => ⟨h a ((mem_take_succ ha a).2 (.inr rfl)) hk, (h4 x).2 fun y hy ky => h y ((mem_take_succ ha y).2 (.inl hy)) ky⟩⟩⟩⟩
  · rcases hM x with e | e
    · rw [e]; exact h.1 x hx
    · omega
  · rcases (mem_take_succ ha y).1 hy with hy | rfl
    · exact (h4 x).1 h.2 y hy ky
    · exact h.1

/-- behind the last one -/
theorem Ns.end (h : Ns n u (pre b) (pre b).length nv M cl) (hr : Rnd pre r p u (k + 1)) (O : Ranks pre r p) (hb : Rch pre b) (hk : r b = k + 1) (h0 : b ≠ 0) : ∃ z : Nat, nv = (z : Int) ∧ Turn pre r p u (k + 1) b z := by
  have hp := O.par b hb h0
  have kp : Kn u (p b) := hr.kn _ hp.2.1 (by omega)
  have hl : (pre b).take (pre b).length = pre b := List.take_length
  have hn : nv ≠ -1 := by
    rintro rfl
    rcases h.2 with ⟨_, h2, _⟩ | ⟨z, h1, _⟩
    · exact h2 _ (by rw [hl]; exact hp.1) kp
    · omega
  obtain ⟨z, e, _, _, h4⟩ := h.got hn
  refine ⟨z, e, O, hr, hb, hk, h0, fun x => (h4 x).trans ?_⟩
  rw [hl]; rfl
end

/-- what uppersOf answers -/
structure UpOf (L : List (List Int)) (o : List Nat) (u : Nat → Option Nat) : Prop where
  st : St (preL L) (fun x => o.idxOf x) u
  kn : ∀ a, Rch (preL L) a → Kn u a
  dom : ∀ b x, Rch (preL L) b → (Ch u x b ↔ Dom (preL L) x b)

theorem UpOf.one {L : List (List Int)} {o : List Nat} (h : Ordered L o) (h1 : o.length ≤ 1) : UpOf L o (fun _ => none) := by
  obtain ⟨p, O⟩ := h.ranks
  have R := Rnd.first O
  have kn : ∀ a, Rch (preL L) a → Kn (fun _ => none) a := fun a ha => by
    have hm := (h.mem a).2 ha
    have hh := h.head
    rcases o with _ | ⟨y, o'⟩
    · cases hm
    · cases hh
      have : o' = [] := List.eq_nil_of_length_eq_zero (by simp at h1; exact h1 ▸ rfl)
      subst this
      exact .inl (by simpa using hm)
  exact ⟨R.st, kn, fun b x hb => above_all R.st kn (fun b c e => (nomatch e)) hb⟩

theorem UpOf.of {L : List (List Int)} {o : List Nat} {n : Nat} {p : Nat → Nat} {u0 u : Nat → Option Nat} (h : Ordered L o) (hs : Rs n (preL L) (fun x => o.idxOf x) p u0 u (o.length - 1) false) : UpOf L o u := by
  have kn : ∀ a, Rch (preL L) a → Kn u a := fun a ha => hs.rnd.kn a ha (by have := h.rank_lt ha; show o.idxOf a < _; omega)
  refine ⟨hs.rnd.st, kn, fun b x hb => above_all hs.rnd.st kn (fun b c e x hx => (hs.fx rfl).2 b c e ?_ x hx) hb⟩
  have := h.rank_lt (hs.rnd.st.up b c e).1
  show o.idxOf b ≤ _; omega

theorem Rs.again {L : List (List Int)} {o : List Nat} {n : Nat} {p : Nat → Nat} {u0 u : Nat → Option Nat} {ch : Bool} (h : Ordered L o) (O : Ranks (preL L) (fun x => o.idxOf x) p) (hs : Rs n (preL L) (fun x => o.idxOf x) p u0 u (o.length - 1) ch) : Rnd (preL L) (fun x => o.idxOf x) p u 1 :=
  hs.rnd.again O fun a ha => by have := h.rank_lt ha; show o.idxOf a < _; omega

/-- ranks as they are set one by one -/
def rkF (o : List Nat) (i : Nat) : Nat → Int := fun b => if b ∈ o ∧ o.idxOf b < i then (o.idxOf b : Int) else 0
theorem rkF_zero (o : List Nat) : rkF o 0 = fun _ => 0 := by funext b; unfold rkF; rw [if_neg (by omega)]
theorem rkF_set {o : List Nat} (hn : o.Nodup) {i b : Nat} (h : o[i]? = some b) : fset (rkF o i) b (i : Int) = rkF o (i + 1) := by
  obtain ⟨hi, hb⟩ := List.getElem?_eq_some_iff.1 h
  have hx : o.idxOf b = i := by subst hb; exact List.Nodup.idxOf_getElem hn i hi
  have hm : b ∈ o := List.mem_of_getElem? h
  funext y
  unfold fset rkF
  by_cases e : y = b
  · subst e; rw [if_pos rfl, if_pos ⟨hm, by omega⟩, hx]
  · rw [if_neg e]
    by_cases hy : y ∈ o ∧ o.idxOf y < i
    · rw [if_pos hy, if_pos ⟨hy.1, by omega⟩]
    · rw [if_neg hy, if_neg]
      rintro ⟨h1, h2⟩
      have : o.idxOf y = i := by
        by_cases h3 : o.idxOf y < i
        · exact absurd ⟨h1, h3⟩ hy
        · omega
      have h5 := List.getElem_idxOf (List.idxOf_lt_length_of_mem h1)
      simp only [this] at h5
      exact e (h5.symm.trans hb)
theorem rkF_all {L : List (List Int)} {o : List Nat} (h : Ordered L o) {b : Nat} (hb : Rch (preL L) b) : rkF o o.length b = (o.idxOf b : Int) := by
  unfold rkF; rw [if_pos ⟨(h.mem b).2 hb, h.rank_lt hb⟩]
end

end Go.Proofs.YthlngmknifpbjaaDoor
