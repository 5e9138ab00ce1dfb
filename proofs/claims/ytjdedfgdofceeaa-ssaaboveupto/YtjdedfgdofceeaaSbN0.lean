/-
  A region that draws its order, by what holds whatever has come up: plain.
-/
import Derived.Test.YtjdedfgdofceeaaSbM
namespace Go.Proofs.Ytjdedfgdofceeaa
open Go.RowKit
set_option linter.unusedSimpArgs false
set_option linter.unusedVariables false

section
variable {P : Program} {ops : Array Oper} {Q : Exit → Act → World → Prop} {md : Region.Mode}

theorem ready_mem {listed : Array Bool} {i : Nat} (h : i ∈ Region.ready md ops listed) : i < ops.size ∧ listed.getD i true = false ∧ ((ops[i]?).map (·.after.all fun e => !Region.binds md e || listed.getD e.on false)).getD false = true := by
  unfold Region.ready at h
  rw [List.mem_filter, List.mem_range, Bool.and_eq_true] at h
  exact ⟨h.1, by simpa using h.2.1, h.2.2⟩

theorem count_set_lt {l : List Bool} {i : Nat} (h : l[i]? = some false) : (l.set i true).count false + 1 = l.count false := by
  induction l generalizing i with
  | nil => cases h
  | cons b l ih =>
    cases i with
    | zero => cases h; simp
    | succ i =>
      have := ih (i := i) (by simpa using h)
      cases b <;> simp_all <;> omega

/-- what holds whatever has come up, step by step -/
theorem wpAny_inv (I : Array Bool → Act → World → Prop)
    (hstep : ∀ listed a w i, I listed a w → i ∈ Region.ready md ops listed → wpOp P ops Q i (I (listed.setIfInBounds i true)) a w)
    (hdone : ∀ listed a w, I listed a w → Region.ready md ops listed = [] → Q .normal a w) :
    ∀ (fuel : Nat) (listed : Array Bool) (a : Act) (w : World), listed.toList.count false ≤ fuel → I listed a w → wpAny P md ops Q fuel listed a w := by
  intro fuel
  induction fuel with
  | zero =>
    intro listed a w hc hI
    have hr : Region.ready md ops listed = [] := by
      rw [List.eq_nil_iff_forall_not_mem]
      intro i hi
      obtain ⟨_, h2, _⟩ := ready_mem hi
      have h0 : listed.toList.count false = 0 := by omega
      rw [List.count_eq_zero] at h0
      rw [Array.getD_eq_getD_getElem?] at h2
      rcases hq : listed[i]? with _ | b
      · rw [hq] at h2; cases h2
      · rw [hq] at h2
        have hb : b = false := h2
        subst hb
        exact h0 (by rw [Array.mem_toList_iff]; exact Array.mem_of_getElem? hq)
    exact ⟨hr, hdone _ _ _ hI hr⟩
  | succ fuel ih =>
    intro listed a w hc hI
    refine ⟨fun hr => hdone _ _ _ hI hr, fun i hi => wpOp_mono (fun a' w' h => ih _ a' w' ?_ h) (hstep _ _ _ i hI hi)⟩
    obtain ⟨_, h2, _⟩ := ready_mem hi
    rw [Array.getD_eq_getD_getElem?] at h2
    rcases hq : listed[i]? with _ | b
    · rw [hq] at h2; cases h2
    · rw [hq] at h2
      have hb : b = false := h2
      subst hb
      have := count_set_lt (l := listed.toList) (i := i) (by simpa using hq)
      rw [Array.toList_setIfInBounds]
      omega
end

section
variable {ops : Array Oper} {md : Region.Mode}
theorem ready_none {listed : Array Bool} (h : Region.ready md ops listed = []) (i : Nat) (hi : i < ops.size) (hd : ((ops[i]?).map (·.after.all fun e => !Region.binds md e || listed.getD e.on false)).getD false = true) : listed.getD i true = true := by
  rcases hq : listed.getD i true with _ | _
  · have : i ∈ Region.ready md ops listed := by
      unfold Region.ready
      rw [List.mem_filter, List.mem_range, Bool.and_eq_true]
      exact ⟨hi, by simp [hq], hd⟩
    rw [h] at this; cases this
  · rfl
end

/-- the block where a value lies -/
def blkOf : Value → Option Nat
  | .slice (some a) _ _ => some a.block
  | .pointer (some a) => some a.block
  | _ => none

/-- if it has come up: a slice of a block of its own -/
def SlB (S : Nat) (O : Obj) (l c : Nat) (d : Bool) (v : Value) (w : World) : Prop := d = true → ∃ g : Nat, v = .slice (some ⟨g, 0, none⟩) l c ∧ w.heap[g]? = some O ∧ S ≤ g
def PtB (S : Nat) (O : Obj) (d : Bool) (v : Value) (w : World) : Prop := d = true → ∃ g : Nat, v = .pointer (some ⟨g, 0, none⟩) ∧ w.heap[g]? = some O ∧ S ≤ g
/-- two of them lie in two blocks -/
def Dis (d d' : Bool) (v v' : Value) : Prop := d = true → d' = true → blkOf v ≠ blkOf v'

variable {S l c g : Nat} {O : Obj} {d d' : Bool} {v v' : Value} {w w' : World}
theorem SlB.keep (h : SlB S O l c d v w) (k : Below w.heap.size w w') : SlB S O l c d v w' := fun hd => by
  obtain ⟨g, e, hg, hs⟩ := h hd
  exact ⟨g, e, (k.block g (lt_of_block hg)).trans hg, hs⟩
theorem PtB.keep (h : PtB S O d v w) (k : Below w.heap.size w w') : PtB S O d v w' := fun hd => by
  obtain ⟨g, e, hg, hs⟩ := h hd
  exact ⟨g, e, (k.block g (lt_of_block hg)).trans hg, hs⟩
theorem SlB.no (v : Value) (w : World) : SlB S O l c false v w := fun h => by cases h
theorem PtB.no (v : Value) (w : World) : PtB S O false v w := fun h => by cases h
theorem SlB.new (hg : w.heap[g]? = some O) (hs : S ≤ g) : SlB S O l c true (.slice (some ⟨g, 0, none⟩) l c) w := fun _ => ⟨g, rfl, hg, hs⟩
theorem PtB.new (hg : w.heap[g]? = some O) (hs : S ≤ g) : PtB S O true (.pointer (some ⟨g, 0, none⟩)) w := fun _ => ⟨g, rfl, hg, hs⟩
theorem Dis.no : Dis false d v v' := fun h => by cases h
theorem Dis.no' : Dis d false v v' := fun _ h => by cases h
theorem Dis.symm (h : Dis d d' v v') : Dis d' d v' v := fun h1 h2 => (h h2 h1).symm
theorem SlB.apart (h : SlB S O l c d v w) (hb : blkOf v' = some g) (hg : w.heap.size ≤ g) : Dis d true v v' := fun hd _ => by
  obtain ⟨g', e, hg', _⟩ := h hd
  have := lt_of_block hg'
  rw [hb, e]
  intro e2
  have : g' = g := by simpa [blkOf] using e2
  omega
theorem PtB.apart (h : PtB S O d v w) (hb : blkOf v' = some g) (hg : w.heap.size ≤ g) : Dis d true v v' := fun hd _ => by
  obtain ⟨g', e, hg', _⟩ := h hd
  have := lt_of_block hg'
  rw [hb, e]
  intro e2
  have : g' = g := by simpa [blkOf] using e2
  omega
theorem SlB.off (h : SlB S O l c d v w) (hk : ∀ k, k ≠ g → w'.heap[k]? = w.heap[k]?) {a : Addr} (hd : Dis d true v (.pointer (some a))) (ha : a.block = g := by rfl) : SlB S O l c d v w' := fun e => by
  obtain ⟨g', he, hg, hs⟩ := h e
  refine ⟨g', he, (hk g' fun h2 => ?_).trans hg, hs⟩
  have := hd e rfl
  rw [he] at this
  exact this (by simp [blkOf, ha, h2])
theorem alloc_at {w : World} {o : Obj} {k : Nat} (h : k = w.heap.size) : (w.alloc o).heap[k]? = some o := by rw [h]; exact heap_alloc_new w o
theorem thawAny {w : World} {x : Nat} {T : TypeId} {cs : Array Value} (h : w.heap[x]? = some (.cells cs T)) (o : Nat) : w.frozen? ⟨x, o, none⟩ = false := by simp [World.frozen?, h]

end Go.Proofs.Ytjdedfgdofceeaa
