/-
  Package posternref: which blocks can be done without one (doneWithout).
-/
import Derived.Test.YthlngmknifpbjaaDoorJSsE
namespace Go.Proofs.YthlngmknifpbjaaDoor
section
set_option linter.unusedSimpArgs false
set_option linter.unusedVariables false

/-- ways from block 0 that keep off some blocks -/
inductive Wy (pre : Nat → List Nat) (k : Nat → Prop) : Nat → Prop
  | start : ¬ k 0 → Wy pre k 0
  | step {a b : Nat} : Wy pre k a → a ∈ pre b → ¬ k b → Wy pre k b

theorem Wy.mono {pre : Nat → List Nat} {k k' : Nat → Prop} {b : Nat} (h : Wy pre k b) (hk : ∀ x, k' x → k x) : Wy pre k' b := by
  induction h with
  | start h => exact .start fun c => h (hk _ c)
  | step _ ha hb ih => exact .step ih ha fun c => hb (hk _ c)

def Rch (pre : Nat → List Nat) (b : Nat) : Prop := Wy pre (fun _ => False) b
/-- x is on each way to b -/
def Dom (pre : Nat → List Nat) (x b : Nat) : Prop := ¬ Wy pre (· = x) b

theorem Rch.zero (pre : Nat → List Nat) : Rch pre 0 := .start fun h => h
theorem Rch.next {pre : Nat → List Nat} {a b : Nat} (h : Rch pre a) (hb : a ∈ pre b) : Rch pre b := .step h hb fun h => h
theorem Wy.rch {pre : Nat → List Nat} {k : Nat → Prop} {b : Nat} (h : Wy pre k b) : Rch pre b := h.mono fun _ h => h.elim

/-- chains of uppers -/
inductive Ch (u : Nat → Option Nat) (x : Nat) : Nat → Prop
  | here : Ch u x x
  | up {b c : Nat} : u b = some c → Ch u x c → Ch u x b

theorem Ch.trans {u : Nat → Option Nat} {x y z : Nat} (h : Ch u x y) (h' : Ch u y z) : Ch u x z := by
  induction h' with
  | here => exact h
  | up e _ ih => exact .up e ih

/-- from z to b, all behind z of higher ranks than it -/
inductive Low (pre : Nat → List Nat) (r : Nat → Nat) (z : Nat) : Nat → Prop
  | edge {b : Nat} : z ∈ pre b → r z < r b → Low pre r z b
  | step {a b : Nat} : Low pre r z a → a ∈ pre b → r z < r b → Low pre r z b

theorem Low.rank {pre : Nat → List Nat} {r : Nat → Nat} {z b : Nat} (h : Low pre r z b) : r z < r b := by
  cases h <;> assumption

theorem Low.trans {pre : Nat → List Nat} {r : Nat → Nat} {x y z : Nat} (h : Low pre r x y) (h' : Low pre r y z) : Low pre r x z := by
  have hr := h.rank
  induction h' with
  | edge e k => exact .step h e (by omega)
  | step _ e k ih => exact .step ih e (by omega)

theorem Low.way {pre : Nat → List Nat} {r : Nat → Nat} {x z b : Nat} (h : Low pre r z b) (hx : r x ≤ r z) (hw : Wy pre (· = x) z) : Wy pre (· = x) b := by
  induction h with
  | edge e k => exact .step hw e fun c => by have c : _ = x := c; subst c; omega
  | step _ e k ih => exact .step ih e fun c => by have c : _ = x := c; subst c; omega

def Kn (u : Nat → Option Nat) (b : Nat) : Prop := b = 0 ∨ ∃ c, u b = some c
/-- in the chains of all known ones ahead -/
def Com (pre : Nat → List Nat) (u : Nat → Option Nat) (b x : Nat) : Prop := ∀ a, a ∈ pre b → Kn u a → Ch u x a

/-- what the order gives -/
structure Ranks (pre : Nat → List Nat) (r p : Nat → Nat) : Prop where
  zero : r 0 = 0
  inj : ∀ a b, Rch pre a → Rch pre b → r a = r b → a = b
  par : ∀ b, Rch pre b → b ≠ 0 → p b ∈ pre b ∧ Rch pre (p b) ∧ r (p b) < r b

structure St (pre : Nat → List Nat) (r : Nat → Nat) (u : Nat → Option Nat) : Prop where
  zero : u 0 = none
  up : ∀ b c, u b = some c → Rch pre b ∧ Rch pre c ∧ Kn u c ∧ r c < r b
  low : ∀ b c, u b = some c → Low pre r c b
  dom : ∀ b x, Kn u b → Dom pre x b → Ch u x b
  all : ∀ b c x, u b = some c → Com pre u b x → r x ≤ r c

section
variable {pre : Nat → List Nat} {r p : Nat → Nat} {u : Nat → Option Nat}

theorem St.rank (h : St pre r u) {x b : Nat} (k : Ch u x b) : r x ≤ r b ∧ (x ≠ b → r x < r b) := by
  induction k with
  | here => exact ⟨Nat.le_refl _, fun h => absurd rfl h⟩
  | up e _ ih => have := (h.up _ _ e).2.2.2; exact ⟨by omega, fun _ => by omega⟩

theorem St.anti (h : St pre r u) {x b : Nat} (k : Ch u x b) (k' : Ch u b x) : x = b := by
  by_cases e : x = b
  · exact e
  · have := (h.rank k).2 e; have := (h.rank k').1; omega

theorem St.line (h : St pre r u) {x y b : Nat} (hx : Ch u x b) (hy : Ch u y b) (hr : r x ≤ r y) : Ch u x y := by
  induction hy with
  | here => exact hx
  | up e k ih =>
    cases hx with
    | here => have := (h.up _ _ e).2.2.2; have := (h.rank k).1; omega
    | up e' k' => rw [e] at e'; cases e'; exact ih k'

theorem Kn.rch (h : St pre r u) {b : Nat} (k : Kn u b) : Rch pre b := by
  rcases k with rfl | ⟨c, e⟩
  · exact Rch.zero _
  · exact (h.up _ _ e).1

theorem St.known (h : St pre r u) {x b : Nat} (k : Ch u x b) (kb : Kn u b) : Kn u x := by
  induction k with
  | here => exact kb
  | up e _ ih => exact ih (h.up _ _ e).2.2.1

theorem St.lowCh (h : St pre r u) {z y : Nat} (k : Ch u z y) : y = z ∨ Low pre r z y := by
  induction k with
  | here => exact .inl rfl
  | up e _ ih =>
    rcases ih with rfl | ih
    · exact .inr (h.low _ _ e)
    · exact .inr (ih.trans (h.low _ _ e))

theorem Ch.zero (h : u 0 = none) {x : Nat} (k : Ch u x 0) : x = 0 := by
  cases k with
  | here => rfl
  | up e _ => rw [h] at e; cases e

/-- the state within a round: those of a rank below i have been gone through -/
structure Rnd (pre : Nat → List Nat) (r p : Nat → Nat) (u : Nat → Option Nat) (i : Nat) : Prop where
  st : St pre r u
  kn : ∀ a, Rch pre a → r a < i → Kn u a
  mode : (∀ y c, u y = some c → r y < i) ∨ ∀ a, Rch pre a → Kn u a
  done : ∀ b c, u b = some c → r b < i → Ch u c (p b)
  todo : ∀ b c, u b = some c → i ≤ r b → (i ≤ r c + 1 → Ch u c (p b)) ∧ ∀ x, Ch u x (p b) → r x ≤ r c → Ch u x c

def upd1 (u : Nat → Option Nat) (b z : Nat) : Nat → Option Nat := fun y => if y = b then some z else u y
theorem upd1_same (u : Nat → Option Nat) (b z : Nat) : upd1 u b z b = some z := by unfold upd1; rw [if_pos rfl]
theorem upd1_other (u : Nat → Option Nat) {b z y : Nat} (h : y ≠ b) : upd1 u b z y = u y := by unfold upd1; rw [if_neg h]

theorem ch_off {b z x y : Nat} (h : ¬ Ch u b y) : Ch (upd1 u b z) x y ↔ Ch u x y := by
  constructor
  · intro k
    induction k with
    | here => exact .here
    | up e hk ih =>
      rename_i y' c
      have hy : y' ≠ b := by rintro rfl; exact h .here
      rw [upd1_other _ hy] at e
      exact .up e (ih fun k => h (.up e k))
  · intro k
    induction k with
    | here => exact .here
    | up e hk ih =>
      rename_i y' c
      have hy : y' ≠ b := by rintro rfl; exact h .here
      exact .up (by rw [upd1_other _ hy]; exact e) (ih fun k => h (.up e k))

theorem ch_on (S : St pre r u) {b z x y : Nat} (hz : ¬ Ch u b z) (h : Ch u b y) : Ch (upd1 u b z) x y ↔ (Ch u x y ∧ r b ≤ r x) ∨ Ch u x z := by
  induction h with
  | here =>
    constructor
    · intro k
      cases k with
      | here => exact .inl ⟨.here, Nat.le_refl _⟩
      | up e k => rw [upd1_same] at e; cases e; exact .inr ((ch_off hz).1 k)
    · rintro (⟨k, hr⟩ | k)
      · have : x = b := by
          by_cases e : x = b
          · exact e
          · have := (S.rank k).2 e; omega
        subst this; exact .here
      · exact .up (upd1_same _ _ _) ((ch_off hz).2 k)
  | up e hk ih =>
    rename_i y' c
    have hr := S.up _ _ e
    have hb := (S.rank hk).1
    have hy : y' ≠ b := by rintro rfl; omega
    constructor
    · intro k
      cases k with
      | here => exact .inl ⟨.here, by omega⟩
      | up e' k =>
        rw [upd1_other _ hy, e] at e'
        cases e'
        rcases ih.1 k with ⟨k, hx⟩ | k
        · exact .inl ⟨.up e k, hx⟩
        · exact .inr k
    · rintro (⟨k, hx⟩ | k)
      · cases k with
        | here => exact .here
        | up e' k =>
          rw [e] at e'; cases e'
          exact .up (by rw [upd1_other _ hy]; exact e) (ih.2 (.inl ⟨k, hx⟩))
      · exact .up (by rw [upd1_other _ hy]; exact e) (ih.2 (.inr k))

theorem Kn.upd {b z y : Nat} (h : Kn u y) : Kn (upd1 u b z) y := by
  rcases h with rfl | ⟨c, e⟩
  · exact .inl rfl
  · by_cases hy : y = b
    · subst hy; exact .inr ⟨_, upd1_same _ _ _⟩
    · exact .inr ⟨c, by rw [upd1_other _ hy]; exact e⟩

variable {i b z : Nat}

/-- what is done with block b: z is the nearest one above all known ones ahead -/
structure Turn (pre : Nat → List Nat) (r p : Nat → Nat) (u : Nat → Option Nat) (i b z : Nat) : Prop where
  ranks : Ranks pre r p
  rnd : Rnd pre r p u i
  rch : Rch pre b
  rank : r b = i
  nz : b ≠ 0
  near : ∀ x, Ch u x z ↔ Com pre u b x

theorem Turn.zpar (T : Turn pre r p u i b z) : Ch u z (p b) := by
  have hp := T.ranks.par b T.rch T.nz
  exact (T.near z).1 .here _ hp.1 (T.rnd.kn _ hp.2.1 (by have := T.rank; omega))
theorem Turn.pkn (T : Turn pre r p u i b z) : Kn u (p b) := by
  have hp := T.ranks.par b T.rch T.nz
  exact T.rnd.kn _ hp.2.1 (by have := T.rank; omega)
theorem Turn.zrank (T : Turn pre r p u i b z) : r z < r b := by
  have hp := T.ranks.par b T.rch T.nz
  have := (T.rnd.st.rank T.zpar).1; omega
theorem Turn.zoff (T : Turn pre r p u i b z) : ¬ Ch u b z := fun h => by
  have := (T.rnd.st.rank h).1; have := T.zrank; omega
theorem Turn.zkn (T : Turn pre r p u i b z) : Kn u z := T.rnd.st.known T.zpar T.pkn

/-- an upper that was known gives way to one above it, or stays -/
theorem Turn.better (T : Turn pre r p u i b z) {c : Nat} (e : u b = some c) : Ch u z c :=
  ((T.rnd.todo b c e (by have := T.rank; omega)).2 z T.zpar (T.rnd.st.all b c z e ((T.near z).1 .here)))

theorem Turn.shrinks (T : Turn pre r p u i b z) {c x y : Nat} (e : u b = some c) (k : Ch (upd1 u b z) x y) : Ch u x y := by
  by_cases h : Ch u b y
  · rcases (ch_on T.rnd.st T.zoff h).1 k with k | k
    · exact k.1
    · exact ((k.trans (T.better e)).trans (.up e .here)).trans h
  · exact (ch_off h).1 k

theorem Turn.shrink (T : Turn pre r p u i b z) {x y : Nat} (hy : Kn u y) (hne : u b = none → y ≠ b) (k : Ch (upd1 u b z) x y) : Ch u x y := by
  cases e : u b with
  | some c => exact T.shrinks e k
  | none =>
    have h : ¬ Ch u b y := by
      intro h
      rcases T.rnd.st.known h hy with hz | ⟨c, e'⟩
      · exact T.nz hz
      · rw [e] at e'; cases e'
    exact (ch_off h).1 k

theorem Turn.domCom (T : Turn pre r p u i b z) {x : Nat} (h : Dom pre x b) (hx : x ≠ b) : Ch u x z := by
  refine (T.near x).2 fun a ha ka => T.rnd.st.dom a x ka fun hw => h (.step hw ha fun e => hx (Eq.symm e))

theorem Turn.st (T : Turn pre r p u i b z) : St pre r (upd1 u b z) := by
  have S := T.rnd.st
  have hp := T.ranks.par b T.rch T.nz
  refine ⟨?_, ?_, ?_, ?_, ?_⟩
  · rw [upd1_other _ (fun h => T.nz h.symm)]; exact S.zero
  · intro y c e
    by_cases hy : y = b
    · subst hy; rw [upd1_same] at e; cases e
      exact ⟨T.rch, T.zkn.rch S, T.zkn.upd, T.zrank⟩
    · rw [upd1_other _ hy] at e
      have := S.up _ _ e
      exact ⟨this.1, this.2.1, this.2.2.1.upd, this.2.2.2⟩
  · intro y c e
    by_cases hy : y = b
    · subst hy; rw [upd1_same] at e; cases e
      rcases S.lowCh T.zpar with h | h
      · rw [← h]; exact .edge hp.1 hp.2.2
      · exact .step h hp.1 T.zrank
    · rw [upd1_other _ hy] at e; exact S.low _ _ e
  · intro y x ky hd
    by_cases hy : y = b
    · subst hy
      by_cases hx : x = y
      · subst hx; exact .here
      · exact .up (upd1_same _ _ _) ((ch_off T.zoff).2 (T.domCom hd hx))
    · have ky : Kn u y := by
        rcases ky with h | ⟨c, e⟩
        · exact .inl h
        · rw [upd1_other _ hy] at e; exact .inr ⟨c, e⟩
      have k := S.dom y x ky hd
      by_cases hb : Ch u b y
      · refine (ch_on S T.zoff hb).2 ?_
        by_cases hr : r b ≤ r x
        · exact .inl ⟨k, hr⟩
        · right
          refine T.domCom (fun hw => ?_) (by rintro rfl; omega)
          rcases S.lowCh hb with h | h
          · exact hy h
          · exact hd (h.way (by omega) hw)
      · exact (ch_off hb).2 k
  · intro y c x e hc
    by_cases hy : y = b
    · subst hy; rw [upd1_same] at e; cases e
      have hoff : ¬ Ch u y (p y) := fun h => by have := (S.rank h).1; omega
      have h1 : Ch u x (p y) := (ch_off hoff).1 (hc _ hp.1 T.pkn.upd)
      have h2 := (S.rank h1).1
      have : Ch u x z := by
        by_cases hx : Ch u x z
        · exact hx
        · refine (T.near x).2 fun a ha ka => ?_
          have k := hc a ha ka.upd
          by_cases hb : Ch u y a
          · rcases (ch_on S T.zoff hb).1 k with k | k
            · exact k.1
            · exact absurd k hx
          · exact (ch_off hb).1 k
      exact (S.rank this).1
    · rw [upd1_other _ hy] at e
      refine S.all y c x e fun a ha ka => ?_
      refine T.shrink ka (fun hn hab => ?_) (hc a ha ka.upd)
      subst hab
      rcases ka with h | ⟨c', e'⟩
      · exact T.nz h
      · rw [hn] at e'; cases e'

theorem Turn.next (T : Turn pre r p u i b z) : Rnd pre r p (upd1 u b z) (i + 1) := by
  have S := T.rnd.st
  have hp := T.ranks.par b T.rch T.nz
  have hi := T.rank
  refine ⟨T.st, ?_, ?_, ?_, ?_⟩
  · intro a ha hr
    by_cases e : r a = i
    · have := T.ranks.inj a b ha T.rch (by omega)
      subst this; exact .inr ⟨_, upd1_same _ _ _⟩
    · exact (T.rnd.kn a ha (by omega)).upd
  · rcases T.rnd.mode with h | h
    · left; intro y c e
      by_cases hy : y = b
      · subst hy; omega
      · rw [upd1_other _ hy] at e; have := h _ _ e; omega
    · right; exact fun a ha => (h a ha).upd
  · intro y c e hr
    by_cases hy : y = b
    · subst hy; rw [upd1_same] at e; cases e
      have hoff : ¬ Ch u y (p y) := fun h => by have := (S.rank h).1; omega
      exact (ch_off hoff).2 T.zpar
    · rw [upd1_other _ hy] at e
      have hy' := S.up _ _ e
      have hne : r y ≠ i := fun h => hy (T.ranks.inj y b hy'.1 T.rch (by omega))
      have hy0 : y ≠ 0 := by rintro rfl; rw [S.zero] at e; cases e
      have hpy := T.ranks.par y hy'.1 hy0
      have hoff : ¬ Ch u b (p y) := fun h => by have := (S.rank h).1; omega
      exact (ch_off hoff).2 (T.rnd.done y c e (by omega))
  · intro y c e hr
    have hy : y ≠ b := by rintro rfl; omega
    rw [upd1_other _ hy] at e
    have td := T.rnd.todo y c e (by omega)
    constructor
    · intro hc
      have k := td.1 (by omega)
      by_cases hb : Ch u b (p y)
      · exact (ch_on S T.zoff hb).2 (.inl ⟨k, by omega⟩)
      · exact (ch_off hb).2 k
    · intro x kx hx
      by_cases hb : Ch u b c
      · have hbc := (S.rank hb).1
        have k := td.1 (by omega)
        have hbp := hb.trans k
        refine (ch_on S T.zoff hb).2 ?_
        rcases (ch_on S T.zoff hbp).1 kx with ⟨k', hr'⟩ | k'
        · exact .inl ⟨td.2 x k' hx, hr'⟩
        · exact .inr k'
      · refine (ch_off hb).2 (td.2 x ?_ hx)
        rcases T.rnd.mode with h | h
        · have := h _ _ e; omega
        · rcases h b T.rch with h0 | ⟨c', e'⟩
          · exact absurd h0 T.nz
          · exact T.shrinks e' kx

/-- what changes falls -/
theorem Turn.falls (T : Turn pre r p u i b z) {c : Nat} (e : u b = some c) (h : z ≠ c) : r z < r c :=
  (T.rnd.st.rank (T.better e)).2 h

theorem upd1_id {b z : Nat} (h : u b = some z) : upd1 u b z = u := by
  funext y; unfold upd1; split <;> simp_all

theorem Rnd.first (O : Ranks pre r p) : Rnd pre r p (fun _ => none) 1 := by
  refine ⟨⟨rfl, fun b c e => (nomatch e), fun b c e => (nomatch e), ?_, fun b c x e => (nomatch e)⟩, ?_, .inl fun y c e => (nomatch e), fun b c e => (nomatch e), fun b c e => (nomatch e)⟩
  · intro b x hb hd
    rcases hb with rfl | ⟨c, e⟩
    · by_cases hx : x = 0
      · subst hx; exact .here
      · exact absurd (Wy.start fun h => hx (Eq.symm h)) hd
    · cases e
  · intro a ha hr
    exact .inl (O.inj a 0 ha (Rch.zero _) (by rw [O.zero]; omega))

theorem Rnd.again {n : Nat} (O : Ranks pre r p) (h : Rnd pre r p u n) (hn : ∀ a, Rch pre a → r a < n) : Rnd pre r p u 1 := by
  have S := h.st
  refine ⟨S, fun a ha hr => h.kn a ha (hn a ha), .inr fun a ha => h.kn a ha (hn a ha), fun b c e hr => ?_, fun b c e hr => ?_⟩
  · have := (S.up _ _ e).2.2.2; omega
  · have k := h.done b c e (hn b (S.up _ _ e).1)
    exact ⟨fun _ => k, fun x hx hr => S.line hx k hr⟩

/-- where no better one is found, the chains are what is on all ways -/
theorem above_all (S : St pre r u) (kn : ∀ a, Rch pre a → Kn u a) (fix : ∀ b c, u b = some c → ∀ x, Ch u x c → Com pre u b x) {b x : Nat} (hb : Rch pre b) : Ch u x b ↔ Dom pre x b := by
  constructor
  · intro k hw
    have key : ∀ y, Wy pre (· = x) y → ¬ Ch u x y := by
      intro y hy
      induction hy with
      | start h => exact fun k => h (Ch.zero S.zero k).symm
      | step hw ha hb ih =>
        intro k
        cases k with
        | here => exact hb rfl
        | up e k => exact ih (fix _ _ e _ k _ ha (kn _ hw.rch))
    exact key b hw k
  · exact S.dom b x (kn b hb)

/-- the climb to the nearest one above two blocks; mk: which blocks have been met -/
structure Climb (r : Nat → Nat) (u : Nat → Option Nat) (mk : Nat → Prop) (a0 n0 a n : Nat) : Prop where
  ka : Kn u a
  kn : Kn u n
  com : ∀ x, (Ch u x a ∧ Ch u x n) ↔ (Ch u x a0 ∧ Ch u x n0)
  low : ∀ x, mk x → ∀ w, Ch u w a → Ch u w n → Ch u w x
  high : ∀ x, mk x → (r a < r x ∧ r n < r x) ∨ (Ch u n0 x ∧ x ≠ n0)
  role : (Ch u n n0 ∧ (n = n0 ∨ r a < r n0)) ∨ (Ch u a n0 ∧ (a = n0 ∨ r n < r n0))

/-- what a climb has met is below the nearest one -/
def Met (u : Nat → Option Nat) (mk : Nat → Prop) (n : Nat) : Prop := ∀ x, mk x → Ch u n x ∧ x ≠ n

variable {mk : Nat → Prop} {a0 n0 a n : Nat}

theorem Climb.start (ka : Kn u a) (kn : Kn u n) (h : Met u mk n) : Climb r u mk a n a n :=
  ⟨ka, kn, fun x => Iff.rfl, fun x hx w _ hn => hn.trans (h x hx).1, fun x hx => .inr (h x hx), .inl ⟨.here, .inl rfl⟩⟩

theorem Climb.swap (C : Climb r u mk a0 n0 a n) : Climb r u mk a0 n0 n a :=
  ⟨C.kn, C.ka, fun x => ⟨fun h => (C.com x).1 h.symm, fun h => ((C.com x).2 h).symm⟩, fun x hx w h h' => C.low x hx w h' h, fun x hx => (C.high x hx).imp And.symm id, C.role.symm⟩

theorem Climb.same (S : St pre r u) (C : Climb r u mk a0 n0 n n) : (∀ x, Ch u x n ↔ (Ch u x a0 ∧ Ch u x n0)) ∧ Met u mk n := by
  refine ⟨fun x => ⟨fun h => (C.com x).1 ⟨h, h⟩, fun h => ((C.com x).2 h).1⟩, fun x hx => ⟨C.low x hx n .here .here, ?_⟩⟩
  rintro rfl
  rcases C.high x hx with h | h
  · omega
  · exact h.2 (S.anti ((C.com x).1 ⟨.here, .here⟩).2 h.1)

theorem Climb.ended (S : St pre r u) (C : Climb r u mk a0 n0 a n) (hr : r n < r a) (hm : mk a) : (∀ x, Ch u x n ↔ (Ch u x a0 ∧ Ch u x n0)) ∧ Met u mk n := by
  have ha : Ch u n0 a ∧ a ≠ n0 := by
    rcases C.high a hm with h | h
    · omega
    · exact h
  have hn : n = n0 := by
    rcases C.role with ⟨h, h'⟩ | ⟨h, _⟩
    · rcases h' with h' | h'
      · exact h'
      · have := (S.rank ha.1).1; omega
    · exact absurd (S.anti h ha.1) ha.2
  have hna : Ch u n a := by rw [hn]; exact ha.1
  refine ⟨fun x => ⟨fun h => (C.com x).1 ⟨h.trans hna, h⟩, fun h => ((C.com x).2 h).2⟩, fun x hx => ⟨C.low x hx n hna .here, ?_⟩⟩
  rintro rfl
  rcases C.high x hx with h | h
  · omega
  · exact h.2 hn

theorem Climb.step (S : St pre r u) {c : Nat} (C : Climb r u mk a0 n0 a n) (hr : r n < r a) (e : u a = some c) : Climb r u (fun x => x = a ∨ mk x) a0 n0 c n := by
  have hc := S.up _ _ e
  have hcom : ∀ x, (Ch u x c ∧ Ch u x n) ↔ (Ch u x a ∧ Ch u x n) := by
    intro x
    refine ⟨fun h => ⟨.up e h.1, h.2⟩, fun h => ⟨?_, h.2⟩⟩
    rcases h with ⟨h, h'⟩
    cases h with
    | here => have := (S.rank h').1; omega
    | up e' k => rw [e] at e'; cases e'; exact k
  refine ⟨hc.2.2.1, C.kn, fun x => (hcom x).trans (C.com x), ?_, ?_, ?_⟩
  · rintro x (rfl | hx) w h h'
    · exact .up e h
    · exact C.low x hx w (.up e h) h'
  · rintro x (rfl | hx)
    · exact .inl ⟨hc.2.2.2, hr⟩
    · rcases C.high x hx with h | h
      · exact .inl ⟨by omega, h.2⟩
      · exact .inr h
  · rcases C.role with ⟨h, h'⟩ | ⟨h, h'⟩
    · exact .inl ⟨h, h'.imp id fun h => by omega⟩
    · refine .inr ⟨Ch.trans (.up e .here) h, .inr ?_⟩
      rcases h' with h' | h'
      · subst h'; exact hr
      · exact h'

theorem Climb.goes (S : St pre r u) (O : Ranks pre r p) (C : Climb r u mk a0 n0 a n) (hne : a ≠ n) (hr : r n ≤ r a) : r n < r a ∧ ∃ c, u a = some c ∧ r c < r a := by
  have h1 : r n < r a := by
    rcases Nat.lt_or_ge (r n) (r a) with h | h
    · exact h
    · exact absurd (O.inj a n (C.ka.rch S) (C.kn.rch S) (by omega)) hne
  refine ⟨h1, ?_⟩
  rcases C.ka with h | ⟨c, e⟩
  · rw [h, O.zero] at h1; omega
  · exact ⟨c, e, (S.up _ _ e).2.2.2⟩
end
end

section
set_option linter.unusedSimpArgs false
set_option linter.unusedVariables false

/-- the blocks that lead to one -/
def preL (L : List (List Int)) (b : Nat) : List Nat := if b < L.length then (List.range L.length).filter (fun a => (L.getD a []).contains (b : Int)) else []
theorem mem_preL {L : List (List Int)} {a b : Nat} : a ∈ preL L b ↔ b < L.length ∧ a < L.length ∧ (b : Int) ∈ L.getD a [] := by
  unfold preL
  split
  · rw [List.mem_filter, List.mem_range, List.contains_iff_mem]
    exact ⟨fun h => ⟨by assumption, h⟩, fun h => h.2⟩
  · exact ⟨fun h => absurd h (List.not_mem_nil), fun h => by omega⟩

/-- a way, block by block -/
def Leads (pre : Nat → List Nat) : List Nat → Prop
  | [] => True
  | [_] => True
  | a :: b :: l => a ∈ pre b ∧ Leads pre (b :: l)
theorem leads_snoc {pre : Nat → List Nat} {b y : Nat} (hb : b ∈ pre y) : ∀ l : List Nat, Leads pre (l ++ [b]) → Leads pre (l ++ [b, y])
  | [], _ => ⟨hb, trivial⟩
  | [a], h => ⟨h.1, hb, trivial⟩
  | a :: c :: l, h => ⟨h.1, leads_snoc hb (c :: l) h.2⟩
theorem leads_init {pre : Nat → List Nat} {b : Nat} : ∀ l : List Nat, Leads pre (l ++ [b]) → Leads pre l
  | [], _ => trivial
  | [a], _ => trivial
  | a :: c :: l, h => ⟨h.1, leads_init (c :: l) h.2⟩
theorem leads_last {pre : Nat → List Nat} {a b : Nat} : ∀ l : List Nat, Leads pre (l ++ [a, b]) → a ∈ pre b
  | [], h => h.1
  | [_], h => h.2.1
  | _ :: c :: l, h => leads_last (c :: l) h.2

/-- the look for an order, within its loop -/
structure Dfs (L : List (List Int)) (order way : List Nat) (met : Nat → Bool) (looked : Nat → Nat) : Prop where
  nodup : (order ++ way).Nodup
  iff : ∀ x, met x = true ↔ x ∈ order ∨ x ∈ way
  fresh : ∀ x, met x = false → looked x = 0
  ok : ∀ x, x ∈ order ∨ x ∈ way → x < L.length ∧ Rch (preL L) x
  path : Leads (preL L) way
  head : way.head? = some 0 ∨ (way = [] ∧ order.getLast? = some 0)
  par : ∀ x, x ∈ order → x ≠ 0 → ∃ a, a ∈ preL L x ∧ (a ∈ way ∨ ∃ l1 l2, order = l1 ++ l2 ∧ x ∈ l1 ∧ a ∈ l2)
  look : ∀ x j y, (x ∈ order ∨ (x ∈ way ∧ j < looked x)) → (L.getD x [])[j]? = some ((y : Nat) : Int) → y < L.length → met y = true

theorem Dfs.start {L : List (List Int)} (h : 0 < L.length) : Dfs L [] [0] (fun x => x == 0) (fun _ => 0) := by
  refine ⟨by simp, by simp, fun _ _ => rfl, ?_, trivial, .inl rfl, by simp, ?_⟩
  · intro x hx
    have : x = 0 := by simpa using hx
    subst this
    exact ⟨h, Rch.zero _⟩
  · intro x j y h; simp at h

def lookAt (f : Nat → Nat) (b : Nat) : Nat → Nat := fun x => if x = b then f b + 1 else f x
def metAt (f : Nat → Bool) (b : Nat) : Nat → Bool := fun x => if x = b then true else f x

/-- a place that is none, or has been met -/
theorem Dfs.pass {L : List (List Int)} {order ws : List Nat} {b : Nat} {met : Nat → Bool} {looked : Nat → Nat} (h : Dfs L order (ws ++ [b]) met looked) {z : Int} (hz : (L.getD b [])[looked b]? = some z) (hm : ¬ (0 ≤ z ∧ z < L.length ∧ met z.toNat = false)) : Dfs L order (ws ++ [b]) met (lookAt looked b) := by
  have hmb : met b = true := (h.iff b).2 (.inr (by simp))
  refine ⟨h.nodup, h.iff, ?_, h.ok, h.path, h.head, h.par, fun x j y hx hy hl => ?_⟩
  · intro x hx
    unfold lookAt
    rw [if_neg (by rintro rfl; rw [hmb] at hx; cases hx)]
    exact h.fresh x hx
  by_cases e : x ∈ order
  · exact h.look x j y (.inl e) hy hl
  · have hx' := hx.resolve_left e
    unfold lookAt at hx'
    by_cases hb : x = b
    · subst hb
      rw [if_pos rfl] at hx'
      by_cases hj : j = looked x
      · subst hj
        rw [hz] at hy
        cases hy
        rcases Bool.eq_false_or_eq_true (met y) with h' | h'
        · exact h'
        · exact absurd ⟨by omega, by omega, by simpa using h'⟩ hm
      · exact h.look x j y (.inr ⟨hx'.1, by omega⟩) hy hl
    · rw [if_neg hb] at hx'
      exact h.look x j y (.inr hx') hy hl

/-- a new block is met -/
theorem Dfs.push {L : List (List Int)} {order ws : List Nat} {b z : Nat} {met : Nat → Bool} {looked : Nat → Nat} (h : Dfs L order (ws ++ [b]) met looked) (hz : (L.getD b [])[looked b]? = some (z : Int)) (hl : z < L.length) (hm : met z = false) : Dfs L order (ws ++ [b, z]) (metAt met z) (lookAt looked b) := by
  have hl0 := h.fresh z hm
  have hb := h.ok b (.inr (by simp))
  have hpre : b ∈ preL L z := mem_preL.2 ⟨hl, hb.1, List.mem_of_getElem? hz⟩
  have hnew : ¬ (z ∈ order ∨ z ∈ ws ++ [b]) := fun hh => by rw [(h.iff z).2 hh] at hm; cases hm
  have hzb : z ≠ b := by rintro rfl; exact hnew (.inr (by simp))
  have e2 : order ++ (ws ++ [b, z]) = (order ++ (ws ++ [b])) ++ [z] := by simp
  have hw : ∀ x, x ∈ ws ++ [b, z] ↔ x ∈ ws ++ [b] ∨ x = z := by intro x; simp [or_assoc]
  have hmb : met b = true := (h.iff b).2 (.inr (by simp))
  refine ⟨?_, ?_, ?_, ?_, leads_snoc hpre ws h.path, ?_, ?_, ?_⟩
  · rw [e2, List.nodup_append]
    refine ⟨h.nodup, by simp, ?_⟩
    intro a ha c hc
    have : c = z := by simpa using hc
    subst this
    rintro rfl
    exact hnew (by simpa using ha)
  · intro x
    rw [hw]
    unfold metAt
    by_cases e : x = z
    · simp [e]
    · rw [if_neg e, h.iff x]; simp [e]
  · intro x hx
    unfold metAt at hx
    split at hx
    · cases hx
    · unfold lookAt
      rw [if_neg (by rintro rfl; rw [hmb] at hx; cases hx)]
      exact h.fresh x hx
  · intro x hx
    rw [hw] at hx
    rcases hx with hx | hx | rfl
    · exact h.ok x (.inl hx)
    · exact h.ok x (.inr hx)
    · exact ⟨hl, hb.2.next hpre⟩
  · left
    rcases h.head with h' | h'
    · cases ws with
      | nil => simpa using h'
      | cons a l => simpa using h'
    · exact absurd h'.1 (by simp)
  · intro x hx h0
    obtain ⟨a, ha, h'⟩ := h.par x hx h0
    exact ⟨a, ha, h'.imp (fun k => (hw a).2 (.inl k)) id⟩
  · intro x j y hx hy hly
    have goal : ∀ y, met y = true → metAt met z y = true := by
      intro y hy; unfold metAt; split
      · rfl
      · exact hy
    by_cases e : x ∈ order
    · exact goal y (h.look x j y (.inl e) hy hly)
    · have hx' := hx.resolve_left e
      rw [hw] at hx'
      unfold lookAt at hx'
      by_cases hb' : x = b
      · subst hb'
        rw [if_pos rfl] at hx'
        by_cases hj : j = looked x
        · subst hj
          rw [hz] at hy
          have : z = y := by have : ((z : Nat) : Int) = (y : Nat) := by simpa using hy
                             omega
          subst this
          unfold metAt; rw [if_pos rfl]
        · exact goal y (h.look x j y (.inr ⟨by simp, by omega⟩) hy hly)
      · rw [if_neg hb'] at hx'
        by_cases hxz : x = z
        · subst hxz; omega
        · exact goal y (h.look x j y (.inr ⟨hx'.1.resolve_right hxz, hx'.2⟩) hy hly)

/-- a block whose places have been looked at is in order -/
theorem Dfs.pop {L : List (List Int)} {order ws : List Nat} {b : Nat} {met : Nat → Bool} {looked : Nat → Nat} (h : Dfs L order (ws ++ [b]) met looked) (hl : (L.getD b []).length ≤ looked b) : Dfs L (order ++ [b]) ws met looked := by
  have hmem : ∀ x, (x ∈ order ++ [b] ∨ x ∈ ws) ↔ (x ∈ order ∨ x ∈ ws ++ [b]) := by
    intro x; simp only [List.mem_append, List.mem_singleton]; grind
  refine ⟨?_, fun x => (h.iff x).trans (hmem x).symm, h.fresh, fun x hx => h.ok x ((hmem x).1 hx), leads_init ws h.path, ?_, ?_, ?_⟩
  · have hn := h.nodup
    simp only [List.nodup_append, List.mem_append, List.mem_singleton] at hn ⊢
    grind
  · cases ws with
    | nil =>
      right
      refine ⟨rfl, ?_⟩
      rcases h.head with h' | h'
      · simpa using h'
      · exact absurd h'.1 (by simp)
    | cons a l =>
      left
      rcases h.head with h' | h'
      · simpa using h'
      · exact absurd h'.1 (by simp)
  · intro x hx h0
    rcases List.mem_append.1 hx with hx | hx
    · obtain ⟨a, ha, h'⟩ := h.par x hx h0
      refine ⟨a, ha, ?_⟩
      rcases h' with h' | ⟨l1, l2, e, h1, h2⟩
      · rcases List.mem_append.1 h' with h' | h'
        · exact .inl h'
        · exact .inr ⟨order, [b], rfl, hx, h'⟩
      · exact .inr ⟨l1, l2 ++ [b], by rw [e, List.append_assoc], h1, List.mem_append.2 (.inl h2)⟩
    · have hxb : x = b := by simpa using hx
      subst hxb
      rcases List.eq_nil_or_concat ws with rfl | ⟨l, a, rfl⟩
      · rcases h.head with h' | h'
        · have : x = 0 := by simpa using h'
          exact absurd this h0
        · exact absurd h'.1 (by simp)
      · refine ⟨a, ?_, .inl (by simp)⟩
        have hp := h.path
        rw [List.concat_eq_append, List.append_assoc] at hp
        exact leads_last l hp
  · intro x j y hx hy hly
    rcases hx with hx | hx
    · rcases List.mem_append.1 hx with hx | hx
      · exact h.look x j y (.inl hx) hy hly
      · have : x = b := by simpa using hx
        subst this
        have : j < (L.getD x []).length := by
          rcases Nat.lt_or_ge j (L.getD x []).length with h' | h'
          · exact h'
          · rw [List.getElem?_eq_none h'] at hy; cases hy
        exact h.look x j y (.inr ⟨by simp, by omega⟩) hy hly
    · exact h.look x j y (.inr ⟨List.mem_append.2 (.inl hx.1), hx.2⟩) hy hly

/-- what the order is at the end -/
structure Ordered (L : List (List Int)) (o : List Nat) : Prop where
  nodup : o.Nodup
  mem : ∀ x, x ∈ o ↔ Rch (preL L) x
  lt : ∀ x, x ∈ o → x < L.length
  head : o.head? = some 0
  par : ∀ x, x ∈ o → x ≠ 0 → ∃ a, a ∈ preL L x ∧ a ∈ o ∧ o.idxOf a < o.idxOf x

theorem Dfs.end {L : List (List Int)} {order : List Nat} {met : Nat → Bool} {looked : Nat → Nat} (h : Dfs L order [] met looked) : Ordered L order.reverse := by
  have hn : order.Nodup := by simpa using h.nodup
  have h0 : order.getLast? = some 0 := by
    rcases h.head with h' | h'
    · cases h'
    · exact h'.2
  have hn' : order.reverse.Nodup := by unfold List.Nodup at hn ⊢; rw [List.pairwise_reverse]; exact hn.imp fun h => h.symm
  refine ⟨hn', ?_, ?_, by rw [List.head?_reverse]; exact h0, ?_⟩
  · intro x
    rw [List.mem_reverse]
    refine ⟨fun hx => (h.ok x (.inl hx)).2, fun hx => ?_⟩
    unfold Rch at hx
    induction hx with
    | start _ => exact List.mem_of_getLast? h0
    | step hw ha hk ih =>
      rename_i a b
      obtain ⟨hb, ha', hc⟩ := mem_preL.1 ha
      obtain ⟨j, hj⟩ := List.getElem?_of_mem hc
      have := (h.iff b).1 (h.look a j b (.inl ih) hj hb)
      simpa using this
  · intro x hx; exact (h.ok x (.inl (List.mem_reverse.1 hx))).1
  · intro x hx h0
    obtain ⟨a, ha, h'⟩ := h.par x (List.mem_reverse.1 hx) h0
    rcases h' with h' | ⟨l1, l2, e, h1, h2⟩
    · exact absurd h' (List.not_mem_nil)
    · refine ⟨a, ha, ?_, ?_⟩
      · rw [List.mem_reverse, e]; exact List.mem_append.2 (.inr h2)
      · have hx2 : x ∉ l2 := by
          intro hx2
          rw [e, List.nodup_append] at hn
          exact hn.2.2 x h1 x hx2 rfl
        rw [e, List.reverse_append, List.idxOf_append, List.idxOf_append, if_pos (List.mem_reverse.2 h2), if_neg (fun h => hx2 (List.mem_reverse.1 h))]
        have := List.idxOf_lt_length_of_mem (List.mem_reverse.2 h2)
        omega

/-- the ranks of an order -/
theorem Ordered.ranks {L : List (List Int)} {o : List Nat} (h : Ordered L o) : ∃ p, Ranks (preL L) (fun x => o.idxOf x) p := by
  have hp : ∀ b, ∃ a, Rch (preL L) b → b ≠ 0 → a ∈ preL L b ∧ Rch (preL L) a ∧ o.idxOf a < o.idxOf b := by
    intro b
    by_cases hb : Rch (preL L) b ∧ b ≠ 0
    · obtain ⟨a, h1, h2, h3⟩ := h.par b ((h.mem b).2 hb.1) hb.2
      exact ⟨a, fun _ _ => ⟨h1, (h.mem a).1 h2, h3⟩⟩
    · exact ⟨0, fun h1 h2 => absurd ⟨h1, h2⟩ hb⟩
  refine ⟨fun b => Classical.choose (hp b), ?_, ?_, fun b h1 h2 => Classical.choose_spec (hp b) h1 h2⟩
  · have := h.head
    cases o with
    | nil => cases this
    | cons a l => cases this; simp
  · intro a b ha hb e
    have ha' := List.idxOf_lt_length_of_mem ((h.mem a).2 ha)
    have hb' := List.idxOf_lt_length_of_mem ((h.mem b).2 hb)
    have e1 := List.getElem_idxOf ha'
    have e2 := List.getElem_idxOf hb'
    have e : o.idxOf a = o.idxOf b := e
    rw [← e1, ← e2]
    simp only [e]

theorem Ordered.rank_lt {L : List (List Int)} {o : List Nat} (h : Ordered L o) {x : Nat} (hx : Rch (preL L) x) : o.idxOf x < o.length := List.idxOf_lt_length_of_mem ((h.mem x).2 hx)
end

section
open Go.RowKit
set_option linter.unusedSimpArgs false
set_option linter.unusedVariables false

theorem in_one (n a b : Int) (w : World) : Calls Tryd.prog 23 #[.int .i64 n, .int .i64 a, .int .i64 b] w fun e w' => e = .returned (.bool (decide (a ≤ n) && decide (n ≤ b))) ∧ w' = w := by
  by_cases h1 : a ≤ n
  · have h1' : n ≥ a := h1
    by_cases h2 : n ≤ b <;>
      (go_enter Tryd.func23, Tryd.ntmps23
       go_wp2_with fail
       go_ret
       exact ⟨by simp [h1, h2], rfl⟩)
  · have h1' : ¬ n ≥ a := h1
    go_enter Tryd.func23, Tryd.ntmps23
    go_wp2_with fail
    go_ret
    exact ⟨by simp; omega, rfl⟩

theorem infoBool : (Tryd.prog.info? 4).map (fun i => (i.zero, i.size, i.bytes)) = some (some (.bool false), 1, 1) := by kernel_rfl

def bools (n : Nat) (f : Nat → Bool) : List Value := (List.range n).map fun i => .bool (f i)
theorem bools_len (n : Nat) (f : Nat → Bool) : (bools n f).length = n := by simp [bools]
theorem bools_get {n i : Nat} (f : Nat → Bool) (h : i < n) : (bools n f)[i]? = some (.bool (f i)) := by
  unfold bools; rw [List.getElem?_map, List.getElem?_range h]; rfl
theorem bools_set {n i : Nat} (f : Nat → Bool) (h : i < n) : (bools n f).set i (.bool true) = bools n (metAt f i) := by
  refine List.ext_getElem? fun k => ?_
  by_cases hk : k < n
  · by_cases e : i = k
    · subst e
      rw [List.getElem?_set_self (by rw [bools_len]; exact h), bools_get _ hk]; unfold metAt; rw [if_pos rfl]
    · rw [List.getElem?_set_ne e, bools_get _ hk, bools_get _ hk]; unfold metAt; rw [if_neg (fun h => e h.symm)]
  · rw [List.getElem?_eq_none (by rw [List.length_set, bools_len]; omega), List.getElem?_eq_none (by rw [bools_len]; omega)]
theorem bools_none (n : Nat) : bools n (fun _ => false) = List.replicate n (.bool false) := by
  unfold bools; rw [List.map_const', List.length_range]

/-- how many have not been met -/
def unseen : Nat → (Nat → Bool) → Nat
  | 0, _ => 0
  | n + 1, f => unseen n f + if f n then 0 else 1
theorem unseen_off {y : Nat} (f : Nat → Bool) : ∀ n, n ≤ y → unseen n (metAt f y) = unseen n f
  | 0, _ => rfl
  | n + 1, h => by
    unfold unseen
    rw [unseen_off f n (by omega)]
    have : metAt f y n = f n := by unfold metAt; rw [if_neg (by omega)]
    rw [this]
theorem unseen_met {y : Nat} (f : Nat → Bool) (hf : f y = false) : ∀ n, y < n → unseen n (metAt f y) + 1 = unseen n f
  | 0, h => by omega
  | n + 1, h => by
    unfold unseen
    by_cases e : n = y
    · subst e
      rw [unseen_off f n (Nat.le_refl _), hf]
      have : metAt f n n = true := by unfold metAt; rw [if_pos rfl]
      rw [this]
      simp
    · have : metAt f y n = f n := by unfold metAt; rw [if_neg e]
      rw [this, ← unseen_met f hf n (by omega)]
      omega
theorem unseen_le (f : Nat → Bool) : ∀ n, unseen n f ≤ n
  | 0 => Nat.le_refl _
  | n + 1 => by unfold unseen; have := unseen_le f n; split <;> omega

/-- what has been met can be done without that block -/
structure Fill (L : List (List Int)) (out : Int) (f : Nat → Bool) : Prop where
  zero : f 0 = true
  way : ∀ x, f x = true → x < L.length ∧ Wy (preL L) (fun y => (y : Int) = out) x
def Shut (L : List (List Int)) (out : Int) (f : Nat → Bool) (l : List Int) : Prop := ∀ y : Nat, (y : Int) ∈ l → y < L.length → (y : Int) ≠ out → f y = true

theorem Fill.start {L : List (List Int)} {out : Int} (h : out ≠ 0) (hn : 0 < L.length) : Fill L out (metAt (fun _ => false) 0) := by
  refine ⟨by unfold metAt; rw [if_pos rfl], fun x hx => ?_⟩
  unfold metAt at hx
  split at hx
  · subst_vars; exact ⟨hn, .start fun e => h e.symm⟩
  · cases hx
theorem Fill.more {L : List (List Int)} {out : Int} {f : Nat → Bool} {a y : Nat} (h : Fill L out f) (ha : f a = true) (hy : (y : Int) ∈ L.getD a []) (hl : y < L.length) (ho : (y : Int) ≠ out) : Fill L out (metAt f y) := by
  refine ⟨?_, fun x hx => ?_⟩
  · unfold metAt; split
    · rfl
    · exact h.zero
  · unfold metAt at hx
    split at hx
    · subst_vars
      have := h.way a ha
      exact ⟨hl, .step this.2 (mem_preL.2 ⟨hl, this.1, hy⟩) ho⟩
    · exact h.way x hx
theorem Fill.end {L : List (List Int)} {out : Int} {f : Nat → Bool} (h : Fill L out f) (hs : ∀ x, x < L.length → f x = true → Shut L out f (L.getD x [])) (x : Nat) : f x = true ↔ Wy (preL L) (fun y => (y : Int) = out) x := by
  refine ⟨fun hx => (h.way x hx).2, fun hx => ?_⟩
  induction hx with
  | start _ => exact h.zero
  | step hw ha hk ih =>
    obtain ⟨hb, ha', hc⟩ := mem_preL.1 ha
    exact hs _ ha' ih _ hc hb hk

/-- what the loops keep -/
structure DW (w wr : World) (n gB : Nat) (hd : Array Value) (f : Nat → Bool) : Prop where
  row : wr.ownsRow (w.heap.size + 1) 4 1 (.slice (some ⟨gB, 0, none⟩) n n) n (bools n f)
  blk : wr.heap[w.heap.size]? = some (.cells hd 28)
  bel : Below w.heap.size w wr

theorem DW.get {w wr : World} {n gB : Nat} {hd : Array Value} {f : Nat → Bool} (h : DW w wr n gB hd f) {i : Nat} (hi : i < n) : wr.cell? ⟨gB, i, none⟩ = some (.bool (f i)) ∧ wr.frozen? ⟨gB, i, none⟩ = false := by
  obtain ⟨g, c, he, _, _, _, _, hfz, hat⟩ := own_at h.row (by omega)
  cases he
  exact ⟨hat i _ (bools_get f hi), hfz i⟩
theorem DW.put {w wr : World} {n gB : Nat} {hd : Array Value} {f : Nat → Bool} (h : DW w wr n gB hd f) {i : Nat} (hi : i < n) : DW w (wr.setCell ⟨gB, i, none⟩ (.bool true)) n gB hd (metAt f i) := by
  have hg := own_lt h.row (g := gB) rfl
  have h1 := own_set h.row i (.bool true) (by omega)
  rw [bools_set f hi] at h1
  have hk : ∀ k, k ≠ gB → (wr.setCell ⟨gB, i, none⟩ (.bool true)).heap[k]? = wr.heap[k]? := fun k hk => Below.heap_setCell _ _ _ _ hk
  refine ⟨h1, (hk _ (by omega)).trans h.blk, h.bel.os, h.bel.tape, h.bel.output, ?_, fun k hkN => (hk k (by omega)).trans (h.bel.block k hkN)⟩
  have := h.bel.size
  simpa [World.setCell] using this
end

end Go.Proofs.YthlngmknifpbjaaDoor
