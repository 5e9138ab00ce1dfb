/-
  slices.Backward over numbers: its contract.
-/
import Derived.Test.YthlngmknifpbjaaDoorJSbN1
import Derived.RangeFuncNested
import Derived.RangeFuncBound
import Derived.RangeFuncCalls
import Derived.RangeFuncLeaves
import Derived.Shelf.Abstract
import Derived.Shelf.RegionOpen
import Derived.WalkKit
import Derived.OwnWalkIn
import Derived.TacticsInMore
import Derived.LoopNIn
import Derived.LoopIn
namespace Go.Proofs.YthlngmknifpbjaaDoor
section
set_option linter.unusedSimpArgs false
set_option linter.unusedVariables false

/-- a tree in the order of its blocks -/
structure TR (o : List Nat) (q : Nat → Nat) : Prop where
  nodup : o.Nodup
  head : o.head? = some 0
  par : ∀ b, b ∈ o → b ≠ 0 → q b ∈ o ∧ o.idxOf (q b) < o.idxOf b

def updN (f : Nat → Nat) (i x : Nat) : Nat → Nat := fun j => if j = i then x else f j
theorem updN_same (f : Nat → Nat) (i x : Nat) : updN f i x i = x := by simp [updN]
theorem updN_other (f : Nat → Nat) {i j : Nat} (x : Nat) (h : j ≠ i) : updN f i x j = f j := by simp [updN, h]

def manyS (q : Nat → Nat) (f : Nat → Nat) (b : Nat) : Nat → Nat :=
  if b = 0 then updN f b (f b + 1) else updN (updN f b (f b + 1)) (q b) (updN f b (f b + 1) (q b) + updN f b (f b + 1) b)
def manyL (q : Nat → Nat) : List Nat → Nat → Nat
  | [] => fun _ => 0
  | b :: l => manyS q (manyL q l) b
def sumC (q N : Nat → Nat) (x : Nat) : List Nat → Nat
  | [] => 0
  | c :: l => (if c ≠ 0 ∧ q c = x then N c else 0) + sumC q N x l
theorem sumC_append (q N : Nat → Nat) (x : Nat) : ∀ l l', sumC q N x (l ++ l') = sumC q N x l + sumC q N x l'
  | [], l' => by simp [sumC]
  | c :: l, l' => by simp only [List.cons_append, sumC]; rw [sumC_append q N x l l']; omega
theorem sumC_none {q N : Nat → Nat} {x : Nat} : ∀ {l : List Nat}, (∀ c, c ∈ l → c ≠ 0 → q c ≠ x) → sumC q N x l = 0
  | [], _ => rfl
  | c :: l, h => by
    unfold sumC
    rw [if_neg (fun k => h c List.mem_cons_self k.1 k.2), sumC_none fun c hc => h c (List.mem_cons_of_mem _ hc)]

section
variable {o : List Nat} {q : Nat → Nat}

theorem manyS_off {f : Nat → Nat} {b x : Nat} (h1 : x ≠ b) (h2 : b ≠ 0 → q b ≠ x) : manyS q f b x = f x := by
  unfold manyS
  by_cases h0 : b = 0
  · rw [if_pos h0, updN_other _ _ h1]
  · rw [if_neg h0, updN_other _ _ (fun e => h2 h0 e.symm), updN_other _ _ h1]
theorem manyS_here {f : Nat → Nat} {b : Nat} (h : b ≠ 0 → q b ≠ b) : manyS q f b b = f b + 1 := by
  unfold manyS
  by_cases h0 : b = 0
  · rw [if_pos h0, updN_same]
  · rw [if_neg h0, updN_other _ _ (fun e => h h0 e.symm), updN_same]
theorem manyS_par {f : Nat → Nat} {b : Nat} (h0 : b ≠ 0) (h : q b ≠ b) : manyS q f b (q b) = f (q b) + (f b + 1) := by
  unfold manyS
  rw [if_neg h0, updN_same, updN_same, updN_other _ _ h]

theorem TR.ne (T : TR o q) {b : Nat} (hb : b ∈ o) (h0 : b ≠ 0) : q b ≠ b := fun e => by have := (T.par b hb h0).2; rw [e] at this; omega

theorem idx_split {pre l : List Nat} {x y : Nat} (hn : (pre ++ l).Nodup) (hx : x ∈ pre) (hy : y ∈ l) : (pre ++ l).idxOf x < (pre ++ l).idxOf y := by
  have h1 : (pre ++ l).idxOf x = pre.idxOf x := by rw [List.idxOf_append, if_pos hx]
  have h2 : y ∉ pre := fun h => (List.nodup_append.1 hn).2.2 y h y hy rfl
  have h3 : (pre ++ l).idxOf y = pre.length + l.idxOf y := by rw [List.idxOf_append, if_neg h2]; omega
  have := List.idxOf_lt_length_of_mem hx
  omega

/-- what has been gone through stays as it is -/
theorem many_stays (T : TR o q) : ∀ (mid pre l : List Nat), o = pre ++ (mid ++ l) → ∀ x, x ∈ l → manyL q (mid ++ l) x = manyL q l x
  | [], _, _, _, _, _ => rfl
  | b :: mid, pre, l, e, x, hx => by
    have e2 : o = (pre ++ [b]) ++ (mid ++ l) := by rw [e]; simp
    have ih := many_stays T mid (pre ++ [b]) l e2 x hx
    have hn : ((pre ++ [b]) ++ (mid ++ l)).Nodup := by rw [← e2]; exact T.nodup
    have hb : b ∈ o := by rw [e]; simp
    have hlt : o.idxOf b < o.idxOf x := by rw [e2]; exact idx_split hn (by simp) (by simp [hx])
    show manyS q (manyL q (mid ++ l)) b x = _
    rw [manyS_off (by rintro rfl; omega) (fun h0 h => by have := (T.par b hb h0).2; rw [h] at this; omega), ih]

theorem many_sum (T : TR o q) : ∀ (l pre : List Nat), o = pre ++ l → ∀ x, manyL q l x = (if x ∈ l then 1 else 0) + sumC q (manyL q o) x l
  | [], _, _, x => by simp [manyL, sumC]
  | b :: l, pre, e, x => by
    have e2 : o = (pre ++ [b]) ++ l := by rw [e]; simp
    have ih := many_sum T l (pre ++ [b]) e2 x
    have ihb := many_sum T l (pre ++ [b]) e2 b
    have hb : b ∈ o := by rw [e]; simp
    have hbl : b ∉ l := fun h => by
      have hn := T.nodup
      rw [e2, List.nodup_append] at hn
      exact hn.2.2 b (by simp) b h rfl
    have hN : manyL q o b = manyL q l b + 1 := by
      have h1 := many_stays T pre [] (b :: l) (by rw [e]; rfl) b (by simp)
      rw [e, h1]
      exact manyS_here fun h0 => T.ne hb h0
    show manyS q (manyL q l) b x = _ + ((if b ≠ 0 ∧ q b = x then manyL q o b else 0) + sumC q (manyL q o) x l)
    by_cases hx : x = b
    · subst hx
      rw [manyS_here fun h0 => T.ne hb h0, if_pos (by simp), ih, if_neg hbl, if_neg (fun h => T.ne hb h.1 h.2)]; omega
    · by_cases hq : b ≠ 0 ∧ q b = x
      · obtain ⟨h0, rfl⟩ := hq
        rw [manyS_par h0 hx, ih, hN, if_pos (show b ≠ 0 ∧ q b = q b from ⟨h0, rfl⟩)]
        have : (q b ∈ b :: l) ↔ q b ∈ l := by simp [hx]
        by_cases hm : q b ∈ l
        · rw [if_pos hm, if_pos (this.2 hm)]; omega
        · rw [if_neg hm, if_neg (fun h => hm (this.1 h))]; omega
      · rw [manyS_off hx (fun h0 h => hq ⟨h0, h⟩), ih, if_neg hq]
        have : (x ∈ b :: l) ↔ x ∈ l := by simp [hx]
        by_cases hm : x ∈ l
        · rw [if_pos hm, if_pos (this.2 hm)]; omega
        · rw [if_neg hm, if_neg (fun h => hm (this.1 h))]; omega

def sumL (f : Nat → Nat) : List Nat → Nat
  | [] => 0
  | c :: l => f c + sumL f l
theorem sumL_append (f : Nat → Nat) : ∀ l l', sumL f (l ++ l') = sumL f l + sumL f l'
  | [], l' => by simp [sumL]
  | c :: l, l' => by simp only [List.cons_append, sumL]; rw [sumL_append f l l']; omega
theorem sumL_upd {f g : Nat → Nat} {p d : Nat} : ∀ {l : List Nat}, l.Nodup → (∀ x, x ∈ l → x ≠ p → g x = f x) → g p = f p + d → sumL g l ≤ sumL f l + d
  | [], _, _, _ => by simp [sumL]
  | c :: l, hn, h, hp => by
    obtain ⟨h1, h2⟩ := List.nodup_cons.1 hn
    unfold sumL
    by_cases e : c = p
    · subst e
      have h3 : sumL g l = sumL f l := by
        have : ∀ l : List Nat, (∀ x, x ∈ l → g x = f x) → sumL g l = sumL f l := by
          intro l
          induction l with
          | nil => intro _; rfl
          | cons a l ih => intro h; unfold sumL; rw [h a (by simp), ih fun x hx => h x (by simp [hx])]
        exact this l fun x hx => h x (by simp [hx]) (fun e => h1 (e ▸ hx))
      rw [h3, hp]; omega
    · have := sumL_upd (l := l) h2 (fun x hx => h x (by simp [hx])) hp
      rw [h c (by simp) e]; omega

theorem many_total (T : TR o q) : ∀ (l pre : List Nat), o = pre ++ l → pre ≠ [] → sumL (manyL q l) pre ≤ l.length
  | [], pre, _, _ => by
    have : ∀ l : List Nat, sumL (manyL q []) l = 0 := by
      intro l
      induction l with
      | nil => rfl
      | cons a l ih => unfold sumL; rw [ih]; rfl
    rw [this]; exact Nat.zero_le _
  | b :: l, pre, e, hp => by
    have e2 : o = (pre ++ [b]) ++ l := by rw [e]; simp
    have ih := many_total T l (pre ++ [b]) e2 (by simp)
    have hb : b ∈ o := by rw [e]; simp
    have hn : (pre ++ b :: l).Nodup := by rw [← e]; exact T.nodup
    have h0 : b ≠ 0 := by
      rintro rfl
      have hh := T.head
      rw [e] at hh
      rcases pre with _ | ⟨y, pre⟩
      · exact hp rfl
      · cases hh
        exact (List.nodup_append.1 hn).2.2 0 (by simp) 0 (by simp) rfl
    have hne := T.ne hb h0
    rw [sumL_append] at ih
    have h1 : sumL (manyL q l) [b] = manyL q l b := by simp [sumL]
    rw [h1] at ih
    have h2 := sumL_upd (f := manyL q l) (g := manyL q (b :: l)) (p := q b) (d := manyL q l b + 1) (l := pre) (List.nodup_append.1 hn).1 (fun x hx hxp => by
      refine manyS_off ?_ (fun _ h => hxp h.symm)
      rintro rfl
      exact (List.nodup_append.1 hn).2.2 x hx x (by simp) rfl) (manyS_par h0 hne)
    rw [List.length_cons]; omega

theorem many_zero (T : TR o q) : manyL q o 0 ≤ o.length := by
  have hh := T.head
  rcases o with _ | ⟨y, l⟩
  · cases hh
  · cases hh
    have h1 := many_total T l [0] rfl (by simp)
    have h2 : sumL (manyL q l) [0] = manyL q l 0 := by simp [sumL]
    rw [h2] at h1
    show manyS q (manyL q l) 0 0 ≤ _
    rw [manyS_here fun h => absurd rfl h, List.length_cons]; omega

/-- where the blocks stand, the first i of them -/
structure FW (o : List Nat) (q : Nat → Nat) (i : Nat) (at' fr : Nat → Nat) : Prop where
  eq : ∀ b, b ∈ o.take i → fr b + sumC q (manyL q o) b (o.drop i) = at' b + manyL q o b
  le : ∀ b, b ∈ o.take i → at' b + manyL q o b ≤ o.length

theorem FW.zero : FW o q 0 (fun x => x) (fun _ => 0) := ⟨fun b hb => by simp at hb, fun b hb => by simp at hb⟩
theorem FW.zero' (f g : Nat → Nat) : FW o q 0 f g := ⟨fun b hb => by simp at hb, fun b hb => by simp at hb⟩

theorem many_eq (T : TR o q) {b : Nat} (hb : b ∈ o) : manyL q o b = 1 + sumC q (manyL q o) b o := by
  have := many_sum T o [] rfl b
  rw [if_pos hb] at this; exact this

theorem sum_behind (T : TR o q) {i b : Nat} (h : o[i]? = some b) : sumC q (manyL q o) b o = sumC q (manyL q o) b (o.drop (i + 1)) := by
  obtain ⟨hi, hb⟩ := List.getElem?_eq_some_iff.1 h
  have hx : o.idxOf b = i := by subst hb; exact List.Nodup.idxOf_getElem T.nodup i hi
  have e := List.take_append_drop (i + 1) o
  have h1 : sumC q (manyL q o) b o = sumC q (manyL q o) b (o.take (i + 1)) + sumC q (manyL q o) b (o.drop (i + 1)) := by
    rw [← sumC_append, e]
  rw [h1, sumC_none fun c hc h0 hq => ?_]
  · omega
  · have hc' : c ∈ o := List.mem_of_mem_take hc
    have := (T.par c hc' h0).2
    rw [hq, hx] at this
    have h5 : o.idxOf c < i + 1 := by
      have h6 : (o.take (i + 1) ++ o.drop (i + 1)).idxOf c = (o.take (i + 1)).idxOf c := by rw [List.idxOf_append, if_pos hc]
      rw [e] at h6
      have := List.idxOf_lt_length_of_mem hc
      rw [List.length_take] at this
      omega
    omega

theorem drop_cons {i b : Nat} (h : o[i]? = some b) : o.drop i = b :: o.drop (i + 1) := by
  obtain ⟨hi, hb⟩ := List.getElem?_eq_some_iff.1 h
  subst hb
  exact List.drop_eq_getElem_cons hi

theorem FW.first (T : TR o q) {at' fr : Nat → Nat} : FW o q 1 (updN at' 0 0) (updN fr 0 1) := by
  have h0 : o[0]? = some 0 := by have := T.head; rw [List.head?_eq_getElem?] at this; exact this
  have hm : 0 ∈ o := List.mem_of_getElem? h0
  have ht : ∀ b, b ∈ o.take 1 → b = 0 := fun b hb => by
    rw [List.take_one, T.head] at hb
    simpa using hb
  refine ⟨fun b hb => ?_, fun b hb => ?_⟩
  · have hsb := sum_behind T h0
    rw [Nat.zero_add] at hsb
    rw [ht b hb, updN_same, updN_same, many_eq T hm, hsb]; omega
  · rw [ht b hb, updN_same]; have := many_zero T; omega

theorem FW.next (T : TR o q) {i b : Nat} {at' fr : Nat → Nat} (h : FW o q i at' fr) (hi : 0 < i) (hb : o[i]? = some b) :
    b ≠ 0 ∧ q b ∈ o.take i ∧ fr (q b) + manyL q o b ≤ o.length ∧ 1 ≤ manyL q o b ∧ FW o q (i + 1) (updN at' b (fr (q b))) (updN (updN fr (q b) (fr (q b) + manyL q o b)) b (fr (q b) + 1)) := by
  obtain ⟨hil, hbe⟩ := List.getElem?_eq_some_iff.1 hb
  have hx : o.idxOf b = i := by subst hbe; exact List.Nodup.idxOf_getElem T.nodup i hil
  have hm : b ∈ o := List.mem_of_getElem? hb
  have h0 : b ≠ 0 := by
    rintro rfl
    have hh := T.head
    rw [List.head?_eq_getElem?] at hh
    obtain ⟨hz, he⟩ := List.getElem?_eq_some_iff.1 hh
    have : o.idxOf 0 = 0 := by have := List.Nodup.idxOf_getElem T.nodup 0 hz; rw [he] at this; exact this
    omega
  obtain ⟨hq, hlt⟩ := T.par b hm h0
  have hqt : q b ∈ o.take i := by
    rw [hx] at hlt
    have h1 := List.getElem_idxOf (List.idxOf_lt_length_of_mem hq)
    rw [List.mem_take_iff_getElem]
    exact ⟨o.idxOf (q b), by have := List.idxOf_lt_length_of_mem hq; omega, h1⟩
  have hbt : b ∉ o.take i := fun hc => by
    rw [List.mem_take_iff_getElem] at hc
    obtain ⟨j, hj, he⟩ := hc
    have : o.idxOf b = j := by rw [← he]; exact List.Nodup.idxOf_getElem T.nodup j (by omega)
    omega
  have hne := T.ne hm h0
  have hs : ∀ x, sumC q (manyL q o) x (o.drop i) = (if q b = x then manyL q o b else 0) + sumC q (manyL q o) x (o.drop (i + 1)) := fun x => by
    rw [drop_cons hb]
    show (if b ≠ 0 ∧ q b = x then manyL q o b else 0) + _ = _
    by_cases e : q b = x
    · rw [if_pos ⟨h0, e⟩, if_pos e]
    · rw [if_neg (fun k => e k.2), if_neg e]
  have eq := h.eq (q b) hqt
  rw [hs (q b), if_pos rfl] at eq
  have le := h.le (q b) hqt
  have hmb := many_eq T hm
  refine ⟨h0, hqt, by omega, by omega, fun x hxt => ?_, fun x hxt => ?_⟩
  · rcases (mem_take_succ hb x).1 hxt with hxt | rfl
    · have hxb : x ≠ b := fun e => hbt (e ▸ hxt)
      have ex := h.eq x hxt
      rw [updN_other _ _ hxb, updN_other _ _ hxb]
      by_cases e : x = q b
      · subst e
        rw [updN_same]
        omega
      · rw [hs x, if_neg (fun k => e k.symm)] at ex
        rw [updN_other _ _ e]; omega
    · rw [updN_same, updN_same, ← sum_behind T hb]; omega
  · rcases (mem_take_succ hb x).1 hxt with hxt | rfl
    · have hxb : x ≠ b := fun e => hbt (e ▸ hxt)
      rw [updN_other _ _ hxb]
      exact h.le x hxt
    · rw [updN_same]; omega
end
end

section
open Go.RowKit Go.Shelf
set_option linter.unusedSimpArgs false
set_option linter.unusedVariables false

attribute [local go_sem] Oper.semAt_some

/-- what a round keeps: all blocks below one but a row -/
def KpB (D g : Nat) (W W' : World) : Prop := W.heap.size ≤ W'.heap.size ∧ ∀ k, k < D → k ≠ g → W'.heap[k]? = W.heap[k]?
theorem KpB.refl (D g : Nat) (W : World) : KpB D g W W := ⟨Nat.le_refl _, fun _ _ _ => rfl⟩
theorem KpB.trans {D g : Nat} {A B C : World} (h : KpB D g A B) (k : KpB D g B C) : KpB D g A C := ⟨Nat.le_trans h.1 k.1, fun i hi hn => (k.2 i hi hn).trans (h.2 i hi hn)⟩
theorem KpB.cell {D g : Nat} {A B : World} (h : KpB D g A B) {p : Addr} (hp : p.block < D) (hn : p.block ≠ g) : B.cell? p = A.cell? p := World.cell?_of_block (w := A) (h.2 p.block hp hn)

theorem backward_one (a : Option Addr) (n c : Nat) (w : World) : Calls Tryd.prog 48 #[.slice a n c] w fun e w' => e = .returned (.func (.func 59) #[] #[.pointer (some ⟨w.heap.size, 0, none⟩)]) ∧ w' = w.alloc (.cells #[.slice a n c] 23) := by
  go_enter Tryd.func48, Tryd.ntmps48
  go_wp2_with fail
  go_ret
  exact ⟨rfl, rfl⟩

set_option maxRecDepth 100000 in
set_option maxHeartbeats 4000000 in
theorem backward_stops (o : List Nat) (Bx D gm m ko : Nat) (ao : Option Addr) (w : World) (hm : m = o.length) (hn : o.Nodup) (hreach : m ≤ 1048576) (hB : Bx < D) (hne : Bx ≠ gm) (hD : D ≤ w.heap.size)
    (hbx : w.cell? ⟨Bx, 0, none⟩ = some (.slice ao m ko))
    (hrow : ∀ (j b : Nat), o[j]? = some b → ∃ go oo : Nat, ao = some ⟨go, oo, none⟩ ∧ go < D ∧ go ≠ gm ∧ w.cell? ⟨go, oo + j, none⟩ = some (.int .i64 (b : Nat))) :
    SeqStopsK Fence.wide 4 Tryd.prog 59 #[.pointer (some ⟨Bx, 0, none⟩)] (fun x : { b : Nat // b ∈ o } => #[.int .i64 (o.idxOf x.1 : Nat), .int .i64 (x.1 : Nat)]) (KpB D gm)
      (fun xs => xs.map (·.1) = o.reverse) (fun pre => True) m w := fun l J Jx W hW _ _ hY h0 => by
  have HM : Hid (m = o.length) := hm
  clear hm
  have hc' := (hW.cell (p := ⟨Bx, 0, none⟩) (by show Bx < _; omega)).trans hbx
  refine callsIn_of_wp Tryd.func59 rfl trivial ?_ rfl
  simp only [Tryd.ntmps59, List.size_toArray, List.length_cons, List.length_nil, Nat.reduceAdd, Nat.reduceSub, Array.replicate_succ, Array.replicate_zero, List.push_toArray, List.append_toArray, List.nil_append, List.cons_append]
  gi_wp2
  gi_loopw [3] (fun i wr => ∃ (k : Nat) (pre : List { b : Nat // b ∈ o }), k ≤ m ∧ i = .int .i64 ((m : Int) - 1 - k) ∧ pre.map (·.1) = o.reverse.take k ∧ J pre wr ∧ KpB D gm W wr)
    (fun i _ => (intOf i + 1).toNat)
  case atStart => exact ⟨0, [], Nat.zero_le _, by simp, by simp, h0, KpB.refl _ _ _⟩
  case round =>
    obtain ⟨k, pre, hk, rfl, hpre, hJs, hnx⟩ := hrel
    have hbx2 := (hnx.cell (p := ⟨Bx, 0, none⟩) hB hne).trans hc'
    have hpl : pre.length = k := by
      have := congrArg List.length hpre
      have hh := HM.out
      simp at this; omega
    by_cases hlt : k < m
    · have hko : m - 1 - k < o.length := by have := HM.out; omega
      have hget : o[m - 1 - k]? = some o[m - 1 - k] := List.getElem?_eq_getElem hko
      obtain ⟨b, hb⟩ : ∃ b, b = o[m - 1 - k] := ⟨_, rfl⟩
      rw [← hb] at hget
      have hbm : b ∈ o := List.mem_of_getElem? hget
      have hidx : o.idxOf b = m - 1 - k := by rw [hb]; exact List.Nodup.idxOf_getElem hn _ hko
      obtain ⟨go, oo, rfl, hg1, hg2, hcell⟩ := hrow _ _ hget
      have hcx := (hnx.cell (p := ⟨go, oo + (m - 1 - k), none⟩) hg1 hg2).trans ((hW.cell (p := ⟨go, oo + (m - 1 - k), none⟩) (by show go < _; omega)).trans hcell)
      obtain ⟨fn, tmps, assign, body, hy, hR⟩ := hY pre ⟨b, hbm⟩ wr hJs (by omega)
      dsimp only at hy
      rw [hidx] at hy
      have hpre2 : (pre ++ [(⟨b, hbm⟩ : { b : Nat // b ∈ o })]).map (·.1) = o.reverse.take (k + 1) := by
        have h1 : o.reverse[k]? = some b := by rw [List.getElem?_reverse (by have := HM.out; omega), ← HM.out]; exact hget
        rw [List.map_append, hpre, List.take_add_one, h1]; rfl
      obtain ⟨j, hj⟩ : ∃ j, j = m - 1 - k := ⟨_, rfl⟩
      have hij : (m : Int) - 1 - (k : Int) = (j : Int) := by omega
      have hjm : (j : Int) < (m : Int) := by omega
      rw [← hj] at hcx hy
      rw [hij]
      have hj0 : (0 : Int) ≤ (j : Int) := by omega
      have HJJ : Hid (j = m - 1 - k) := hj
      clear hj hij hget hb hidx hcell hrow hko
      gi_wp2
      refine hR.mono ?_
      rintro e W3 (⟨rfl, hJ3, hk3⟩ | ⟨rfl, hJx3⟩)
      · gi_wp2
        go_roundw
        case rel => exact ⟨k + 1, _, by omega, by have h1 := HJJ.out; have h2 : wrap64 ((j : Int) - 1) = (m : Int) - 1 - ((k + 1 : Nat) : Int) := (by unfold wrap64; omega); have h3 : (j : Int) - 1 = (m : Int) - 1 - ((k + 1 : Nat) : Int) := (by omega); first | rw [h2] | rw [h3], hpre2, hJ3, hnx.trans hk3⟩
        case measure => have := HJJ.out; simp [intOf] <;> omega
      · gi_wp2
        refine bodyPost_ret (results_none rfl _ _ _) rfl ?_
        exact ⟨⟨_, rfl⟩, .inr ⟨_, trivial, hJx3⟩⟩
    · obtain rfl : k = m := by omega
      have hi : (k : Int) - 1 - (k : Int) = -1 := by omega
      rw [hi]
      gi_wp2
      go_end0
      refine ⟨⟨_, rfl⟩, .inl ⟨pre, ?_, hJs⟩⟩
      rw [hpre, List.take_of_length_le (by rw [List.length_reverse]; have := HM.out; omega)]
end

end Go.Proofs.YthlngmknifpbjaaDoor
