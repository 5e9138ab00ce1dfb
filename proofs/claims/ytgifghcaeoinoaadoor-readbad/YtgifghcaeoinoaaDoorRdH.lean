/-
  Arguments, the whole; calls, names, and words that look like calls.
-/
import Derived.Test.YtgifghcaeoinoaaDoorRdG
namespace Go.Proofs.YtgifghcaeoinoaaDoor
open Go.RowKit
set_option linter.unusedSimpArgs false
set_option linter.unusedVariables false

/-- what a call that reads many expressions leaves -/
def PostL (b bp cap T : Nat) (ps : List Tok) (q : RS) (w : World) (r : Sum (Int × Int) (List Ex × Nat)) (e : Ending) (w' : World) : Prop :=
  Kept b w w' ∧ match r with
  | .inl k => ∃ a l c n', e = .returned (.tuple #[.slice a l c, .bool false]) ∧ Rdr w' b bp cap T ps ⟨n', q.depth, k.1, k.2⟩
  | .inr x => ∃ a c, e = .returned (.tuple #[.slice a x.1.length c, .bool true]) ∧ Row (fun g => w.heap.size ≤ g) w' (AnE (fun g => w.heap.size ≤ g) w') (.slice a x.1.length c) x.1 ∧ Rdr w' b bp cap T ps { q with next := x.2 }

theorem row_of_owns {w : World} {base size n : Nat} {e : TypeId} {v : Value} {xs : List Value} (h : w.ownsRow base e size v n xs) (S : Nat → Prop) (hS : ∀ g, base ≤ g → S g) : RowIs S w v n xs := by
  obtain ⟨h1, h2⟩ := h
  rcases h2 with ⟨rfl, rfl⟩ | ⟨g, cap, cur, rfl, hb, hh, hn, hc, hs, ht⟩
  · exact .inl ⟨rfl, rfl, List.eq_nil_of_length_eq_zero (by simpa using h1)⟩
  · exact .inr ⟨g, cap, cur, e, (0, 0), rfl, hS g hb, hh, by rw [h1]; exact ht⟩

theorem callArg (caps : Array Value) (w : World) : (callFunc 122 caps).run Tryd.prog w = .ok (.enter 122 caps) w := by kernel_rfl

theorem mkf (fn : Fn) (first cap : Array Value) (w : World) : (Instr.makeFunc fn first cap).run Tryd.prog w = .ok (.func fn first cap) w := rfl

theorem heap_alloc2 (w : World) (o1 o2 : Obj) : ((w.alloc o1).alloc o2).heap[w.heap.size]? = some o1 ∧ ((w.alloc o1).alloc o2).heap[w.heap.size + 1]? = some o2 := by
  refine ⟨blk_alloc (heap_alloc_new w o1) o2, ?_⟩
  have := heap_alloc_new (w.alloc o1) o2
  simpa using this

theorem argStart (w : World) (b : Nat) : ArgI w b ((w.alloc (.cells #[.pointer (some ⟨b, 0, none⟩)] 50)).alloc (.cells #[.slice none 0 0] 33)) [] :=
  ⟨((Kept.refl _ _).alloc _).alloc _, by simp, (heap_alloc2 w _ _).1, _, [], (heap_alloc2 w _ _).2, World.ownsRow_nil _ _ _ _, trivial⟩

set_option maxHeartbeats 1000000 in
theorem arguments_any {ps : List Tok} {E : Nat → Nat → R Ex} (hE : SaidE ps E) (w : World) (b bp cap T f : Nat) (hf : f ≤ 1000000) (q : RS) (r : Sum (Int × Int) (List Ex × Nat)) (h : Rdr w b bp cap T ps q)
    (hr : listM ps (E q.depth) f q.next = some r) :
    Calls Tryd.prog 111 #[.pointer (some ⟨b, 0, none⟩)] w (PostL b bp cap T ps q w r) := by
  have hbs := h.bsize
  have hps := h.lt
  have hfar := h.far
  have hmf := mkf
  go_enter Tryd.func111, Tryd.ntmps111
  go_wp2_with fail
  refine (listed_any b bp cap T q.depth f 122 _ (ArgI w b) (ArgB w b) (callArg _)
    (fun w' q' acc r' hl hd hR hI hi => argItem_core w w' b bp cap T ps q' acc (by omega) hbs hps (by omega) hR hI r' (hE _ _ _ _ _ _ _ hR (by rw [hd]; exact hi)))
    (fun w' w'' acc hI hk => hI.kept hbs hk) (fun w' acc hI => hI.bad) _ q r rfl (h.below (((Below.refl _ _).alloc (Nat.le_refl _) _).alloc (by simp) _)) (argStart w b) hr).mono ?_
  intro e w1 hP
  cases r with
  | inl k =>
    obtain ⟨rfl, n', h1, ⟨kp, hsz, a, l, c, hca⟩⟩ := hP
    have c1 : w1.cell? ⟨w.heap.size + 1, 0, none⟩ = some (.slice a l c) := by simp [World.cell?, hca]
    go_wp2_with fail
    go_ret2
    exact ⟨kp, a, l, c, n', rfl, h1⟩
  | inr x =>
    obtain ⟨rfl, h1, hI⟩ := hP
    obtain ⟨v, vs, hca, hown, hall⟩ := hI.ca
    obtain ⟨av, cv, rfl⟩ := ownsRow_slice hown
    have c1 : w1.cell? ⟨w.heap.size + 1, 0, none⟩ = some (.slice av x.1.length cv) := by simp [World.cell?, hca]
    go_wp2_with fail
    go_ret2
    exact ⟨hI.kp, av, cv, rfl, ⟨vs, row_of_owns hown _ (fun g hg => by omega), hall.imp fun u y hu => hu.move fun g hg _ => ⟨by omega, rfl⟩⟩, h1⟩

end Go.Proofs.YtgifghcaeoinoaaDoor
