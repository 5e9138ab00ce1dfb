/-
  Lists that a call makes, of things that have lists of their own.
-/
import Derived.Test.YtjdedfgdofceeaaIaP
import Derived.Test.YtjdedfgdofceeaaIaQ
import Derived.OwnWalk
namespace Go.Proofs.Ytjdedfgdofceeaa
open Go.RowKit
set_option linter.unusedSimpArgs false
set_option linter.unusedVariables false

/-- a list of the call's own: its row and what its elements hold lie in blocks of S -/
def OwnL {A : Type} (m : Nat) (e : TypeId) (P : (Nat → Prop) → World → List Value → A → Prop) (S : Nat → Prop) (w : World) (v : Value) (l : List A) : Prop :=
  (∀ g, v.ownBlock = some g → S g) ∧ ∃ xs : List (List Value), w.ownsRow 0 e m v l.length xs.flatten ∧ xs.length = l.length ∧ (∀ cs, cs ∈ xs → cs.length = m) ∧
    ∀ (i : Nat) (x : A) (cs : List Value), l[i]? = some x → xs[i]? = some cs → P (fun g => S g ∧ v.ownBlock ≠ some g) w cs x

def MovesP {A : Type} (P : (Nat → Prop) → World → List Value → A → Prop) : Prop :=
  ∀ (S S' : Nat → Prop) (w w' : World) (cs : List Value) (x : A), P S w cs x → w.heap.size ≤ w'.heap.size → (∀ g, S g → g < w.heap.size → S' g ∧ w'.heap[g]? = w.heap[g]?) → P S' w' cs x

theorem own0_lt {w : World} {base m n : Nat} {e : TypeId} {v : Value} {xs : List Value} (h : w.ownsRow base e m v n xs) {g : Nat} (hg : v.ownBlock = some g) : g < w.heap.size := by
  rcases h.2 with ⟨h1, _⟩ | ⟨g', cap, cur, hv, hb, hh, _⟩
  · subst h1; cases hg
  · subst hv
    have : g' = g := by simpa [Value.ownBlock] using hg
    subst this
    exact lt_of_block hh

theorem OwnL.nil {A : Type} (m : Nat) (e : TypeId) (P : (Nat → Prop) → World → List Value → A → Prop) (S : Nat → Prop) (w : World) : OwnL m e P S w (.slice none 0 0) ([] : List A) :=
  ⟨fun g hg => (by cases hg), [], World.ownsRow_nil _ _ _ _, rfl, (fun _ h => by cases h), (fun i x cs hx => by simp at hx)⟩

theorem OwnL.move {A : Type} {m : Nat} {e : TypeId} {P : (Nat → Prop) → World → List Value → A → Prop} (hP : MovesP P) {S S' : Nat → Prop} {w w' : World} {v : Value} {l : List A} (h : OwnL m e P S w v l) (hs : w.heap.size ≤ w'.heap.size)
    (k : ∀ g, S g → g < w.heap.size → S' g ∧ w'.heap[g]? = w.heap[g]?) : OwnL m e P S' w' v l := by
  obtain ⟨h1, xs, h2, h3, h4, h5⟩ := h
  refine ⟨fun g hg => (k g (h1 g hg) (own0_lt h2 hg)).1, xs, own_same h2 fun g hg => (k g (h1 g hg) (own0_lt h2 hg)).2, h3, h4, fun i x cs hx hc => ?_⟩
  exact hP _ _ _ _ _ _ (h5 i x cs hx hc) hs fun g hg hlt => ⟨⟨(k g hg.1 hlt).1, hg.2⟩, (k g hg.1 hlt).2⟩

theorem OwnL.slice {A : Type} {m : Nat} {e : TypeId} {P : (Nat → Prop) → World → List Value → A → Prop} {S : Nat → Prop} {w : World} {v : Value} {l : List A} (h : OwnL m e P S w v l) : ∃ a c, v = .slice a l.length c := by
  obtain ⟨_, xs, h2, _⟩ := h
  exact own_slice h2

theorem OwnL.push {A : Type} {m : Nat} {e : TypeId} {P : (Nat → Prop) → World → List Value → A → Prop} (hP : MovesP P) {S S' : Nat → Prop} {w wa w2 : World} {v v' : Value} {l : List A} {x : A} {cs : List Value} {xs : List (List Value)}
    (h1 : ∀ g, v.ownBlock = some g → S g) (hl : xs.length = l.length) (hm : ∀ cs, cs ∈ xs → cs.length = m) (ho : w.ownsRow 0 e m v l.length xs.flatten)
    (hE : ∀ (i : Nat) (x : A) (cs : List Value), l[i]? = some x → xs[i]? = some cs → P (fun g => S g ∧ v.ownBlock ≠ some g) w cs x)
    (hk : ∀ g, g < w.heap.size → wa.heap[g]? = w.heap[g]?) (hs : w.heap.size ≤ wa.heap.size) (hx : P (fun g => w.heap.size ≤ g) wa cs x) (hcm : cs.length = m) (hg : wa.grownBy w2 v.ownBlock)
    (hat : v'.ownBlock = v.ownBlock ∨ v'.ownBlock = some wa.heap.size) (ho2 : w2.ownsRow 0 e m v' (l.length + 1) (xs.flatten ++ cs)) (hS : ∀ g, S g → S' g) (hS2 : ∀ g, w.heap.size ≤ g → S' g) : OwnL m e P S' w2 v' (l ++ [x]) := by
  refine ⟨fun g hgv => ?_, xs ++ [cs], ?_, by simp [hl], fun c hc => ?_, fun i y c hy hc => ?_⟩
  · rcases hat with e1 | e1
    · exact hS g (h1 g (by rw [← e1]; exact hgv))
    · rw [e1] at hgv
      injection hgv with hgv
      subst hgv
      exact hS2 _ hs
  · rw [List.length_append, List.flatten_append]
    simpa using ho2
  · rcases List.mem_append.1 hc with h | h
    · exact hm c h
    · simp at h; subst h; exact hcm
  · by_cases hi : i < l.length
    · rw [List.getElem?_append_left hi] at hy
      rw [List.getElem?_append_left (by omega)] at hc
      refine hP _ _ _ _ _ _ (hE i y c hy hc) (Nat.le_trans hs hg.size) fun g hgS hlt => ⟨⟨hS g hgS.1, fun e2 => ?_⟩, ?_⟩
      · rcases hat with e1 | e1
        · exact hgS.2 (by rw [← e1]; exact e2)
        · rw [e1] at e2; injection e2 with e2; omega
      · exact (hg.block g (by omega) (fun e2 => hgS.2 e2.symm)).trans (hk g hlt)
    · have hil : i = l.length := by
        have := (List.getElem?_eq_some_iff.1 hy).1
        simp at this; omega
      subst hil
      rw [List.getElem?_append_right (Nat.le_refl _)] at hy
      rw [List.getElem?_append_right (by omega)] at hc
      simp at hy hc
      rw [hl] at hc
      simp at hc
      subst hy; subst hc
      refine hP _ _ _ _ _ _ hx hg.size fun g hgS hlt => ⟨⟨hS2 g hgS, fun e2 => ?_⟩, ?_⟩
      · rcases hat with e1 | e1
        · rw [e1] at e2; have := own0_lt ho e2; omega
        · rw [e1] at e2; injection e2 with e2; omega
      · exact hg.block g hlt (fun e2 => by have := own0_lt ho e2.symm; omega)

theorem flat_at : ∀ (xs : List (List Value)) (m i j : Nat), (∀ cs, cs ∈ xs → cs.length = m) → j < m → i < xs.length → xs.flatten[i * m + j]? = (xs[i]?).bind fun cs => cs[j]?
  | [], m, i, j, _, _, hi => by simp at hi
  | c :: xs, m, 0, j, h, hj, _ => by
    have hc := h c (by simp)
    simp
    rw [List.getElem?_append_left (by omega)]
  | c :: xs, m, i + 1, j, h, hj, hi => by
    have hc := h c (by simp)
    rw [List.flatten_cons, List.getElem?_append_right (by rw [hc, Nat.succ_mul]; omega), hc, show (i + 1) * m + j - m = i * m + j by rw [Nat.succ_mul]; omega, flat_at xs m i j (fun cs hcs => h cs (by simp [hcs])) hj (by simp at hi; omega)]
    simp

theorem OwnL.lies {A : Type} {m : Nat} {e : TypeId} {P : (Nat → Prop) → World → List Value → A → Prop} {Q : List Value → A → Prop} {S : Nat → Prop} {w : World} {v : Value} {l : List A} (h : OwnL m e P S w v l) (hm : 0 < m)
    (hPQ : ∀ S cs x, P S w cs x → Q cs x) : Lies m w.heap.size w Q v l := by
  obtain ⟨h1, xs, h2, h3, h4, h5⟩ := h
  obtain ⟨a, c, rfl⟩ := own_slice h2
  have hc := own_cap h2
  refine ⟨Nat.le_trans hc.1 hc.2, a, c, rfl, fun h0 => ?_⟩
  obtain ⟨g, cap, he, _, hlt, _, _, _, hat⟩ := own_at h2 h0
  cases he
  refine ⟨g, 0, rfl, hlt, fun i x hx => ?_⟩
  have hi : i < xs.length := by have := (List.getElem?_eq_some_iff.1 hx).1; omega
  have hxi : xs[i]? = some xs[i] := List.getElem?_eq_getElem hi
  refine ⟨xs[i], h4 _ (List.getElem_mem hi), hPQ _ _ _ (h5 i x _ hx hxi), fun j hj => ?_⟩
  have hf := flat_at xs m i j h4 hj hi
  rw [hxi] at hf
  have hf : xs.flatten[i * m + j]? = xs[i][j]? := hf
  have hjl : j < xs[i].length := by rw [h4 _ (List.getElem_mem hi)]; exact hj
  rw [List.getElem?_eq_getElem hjl] at hf ⊢
  rw [Nat.zero_add]
  exact hat _ _ hf

/-- numbers in a block of their own -/
def NumsS (S : Nat → Prop) (w : World) (v : Value) (xs : List Int) : Prop :=
  xs.length ≤ maxLen ∧ (∀ x, x ∈ xs → I64 x) ∧ ((v = .slice none 0 0 ∧ xs = []) ∨ ∃ g c, v = .slice (some ⟨g, 0, none⟩) xs.length c ∧ S g ∧ g < w.heap.size ∧ ∃ T, w.heap[g]? = some (.cells (numsL xs).toArray T))
theorem NumsS.move {S S' : Nat → Prop} {w w' : World} {v : Value} {xs : List Int} (h : NumsS S w v xs) (hs : w.heap.size ≤ w'.heap.size) (k : ∀ g, S g → g < w.heap.size → S' g ∧ w'.heap[g]? = w.heap[g]?) : NumsS S' w' v xs := by
  obtain ⟨h0, h1, h2⟩ := h
  refine ⟨h0, h1, ?_⟩
  rcases h2 with h2 | ⟨g, c, e, hg, hlt, T, hb⟩
  · exact .inl h2
  · exact .inr ⟨g, c, e, (k g hg hlt).1, Nat.lt_of_lt_of_le hlt hs, T, (k g hg hlt).2.trans hb⟩
theorem NumsS.nums {S : Nat → Prop} {w : World} {v : Value} {xs : List Int} (h : NumsS S w v xs) : Nums w.heap.size w v xs := by
  obtain ⟨h0, h1, h2⟩ := h
  rcases h2 with ⟨rfl, rfl⟩ | ⟨g, c, rfl, hg, hlt, T, hb⟩
  · exact ⟨h0, none, 0, rfl, fun h => by simp at h⟩
  · refine ⟨h0, _, c, rfl, fun _ => ⟨g, 0, rfl, hlt, fun i x hx => ⟨[.int .i64 x], rfl, ⟨rfl, h1 x (List.mem_of_getElem? hx)⟩, fun j hj => ?_⟩⟩⟩
    have : j = 0 := by omega
    subst this
    have h3 := numsL_get _ _ _ hx
    simp only [World.cell?, hb]
    simp [h3, numV]
/-- an instruction, what it holds in blocks of S -/
def PIn (S : Nat → Prop) (w : World) (cs : List Value) (x : Ins) : Prop :=
  ∃ vd va vt, cs = [.int .i64 x.op, vd, va, .int .i64 x.n, .string ⟨x.s.toArray⟩, vt] ∧ NumsS S w vd x.ds ∧ NumsS S w va x.ar ∧ NumsS S w vt x.to ∧ x.s.length ≤ maxLen ∧ I64 x.n
theorem PIn.moves : MovesP PIn := fun S S' w w' cs x ⟨vd, va, vt, h1, h2, h3, h4, h5⟩ hs k => ⟨vd, va, vt, h1, h2.move hs k, h3.move hs k, h4.move hs k, h5⟩
theorem PIn.ins {S : Nat → Prop} {w : World} {cs : List Value} {x : Ins} (h : PIn S w cs x) : IsIns w.heap.size w cs x := by
  obtain ⟨vd, va, vt, h1, h2, h3, h4, h5⟩ := h
  exact ⟨vd, va, vt, h1, h2.nums, h3.nums, h4.nums, h5⟩
/-- a block -/
def PB (S : Nat → Prop) (w : World) (cs : List Value) (b : List Ins) : Prop := ∃ u, cs = [u] ∧ OwnL 6 42 PIn S w u b
theorem PB.moves : MovesP PB := fun S S' w w' cs x ⟨u, h1, h2⟩ hs k => ⟨u, h1, h2.move PIn.moves hs k⟩
theorem PB.blk {S : Nat → Prop} {w : World} {cs : List Value} {x : List Ins} (h : PB S w cs x) : IsBlk w.heap.size w cs x := by
  obtain ⟨u, h1, h2⟩ := h
  exact ⟨u, h1, h2.lies (by decide) fun _ _ _ h => h.ins⟩
theorem blks_of {S : Nat → Prop} {w : World} {v : Value} {bs : List (List Ins)} (h : OwnL 1 40 PB S w v bs) : Blks w.heap.size w v bs := h.lies (by decide) fun _ _ _ h => h.blk

end Go.Proofs.Ytjdedfgdofceeaa
