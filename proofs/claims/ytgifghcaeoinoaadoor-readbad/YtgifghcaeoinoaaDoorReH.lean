/-
  Parameters.
-/
import Derived.Test.YtgifghcaeoinoaaDoorReG
namespace Go.Proofs.YtgifghcaeoinoaaDoor
open Go.RowKit
set_option linter.unusedSimpArgs false
set_option linter.unusedVariables false

def IsP (_ : Nat → Prop) (_ : World) (v : Value) (x : List UInt8 × Int) : Prop := v = .agg #[.string ⟨x.1.toArray⟩, .int .i64 x.2]

theorem moves_IsP : Moves IsP := fun _ _ _ _ _ _ h _ => h

theorem infoParam : (Tryd.prog.info? 67).map (fun i => (i.zero, i.size, i.bytes)) = some (some (.agg #[.string ⟨#[]⟩, .int .i64 0]), 2, 24) := by kernel_rfl

def paramM (ps : List Tok) (n : Nat) : R (List UInt8 × Int) :=
  bindR (nameM ps n) fun s n1 => if ((typeP (cur ps n1) n1).1 : Int) == 0 then badR (refuseM ps (typeP (cur ps n1) n1).2) else okR (s, ((typeP (cur ps n1) n1).1 : Int)) (typeP (cur ps n1) n1).2

structure ParI (w0 : World) (b : Nat) (w : World) (xs : List (List UInt8 × Int)) : Prop where
  kp : Kept b w0 w
  sz : w0.heap.size + 2 ≤ w.heap.size
  cr : w.heap[w0.heap.size]? = some (.cells #[.pointer (some ⟨b, 0, none⟩)] 50 (0, 0))
  ca : ∃ v vs, w.heap[w0.heap.size + 1]? = some (.cells #[v] 40 (0, 0)) ∧ Grow IsP 67 2 (w0.heap.size + 2) w v vs xs

structure ParB (w0 : World) (b : Nat) (w : World) : Prop where
  kp : Kept b w0 w
  sz : w0.heap.size + 2 ≤ w.heap.size
  ca : ∃ a l c, w.heap[w0.heap.size + 1]? = some (.cells #[.slice a l c] 40 (0, 0))

theorem ParI.kept {w0 w w' : World} {b : Nat} {xs : List (List UInt8 × Int)} (hb : b < w0.heap.size) (h : ParI w0 b w xs) (k : Kept b w w') : ParI w0 b w' xs := by
  have hs := h.sz
  obtain ⟨v, vs, h1, h2⟩ := h.ca
  exact ⟨h.kp.trans k, Nat.le_trans h.sz k.size, by rw [k.block _ (by omega) (by omega)]; exact h.cr, v, vs, by rw [k.block _ (by omega) (by omega)]; exact h1, h2.kept moves_IsP k (by omega)⟩

theorem ParI.bad {w0 w : World} {b : Nat} {xs : List (List UInt8 × Int)} (h : ParI w0 b w xs) : ParB w0 b w := by
  obtain ⟨v, vs, h1, h2⟩ := h.ca
  obtain ⟨a, c, rfl⟩ := h2.slice
  exact ⟨h.kp, h.sz, _, _, _, h1⟩

theorem param_one (s : ByteArray) (t : Int) : ∀ u ∈ [Value.string s, .int .i64 t], u.oneCell' = true := by
  intro u hu
  simp at hu
  rcases hu with rfl | rfl <;> rfl

set_option maxHeartbeats 2000000 in
theorem parItem (w0 w : World) (b bp cap T : Nat) (ps : List Tok) (q : RS) (xs : List (List UInt8 × Int)) (hxl : xs.length < 1000000) (hb0 : b < w0.heap.size) (hp0 : bp < w0.heap.size)
    (h : Rdr w b bp cap T ps q) (hI : ParI w0 b w xs) (r : Sum (Int × Int) ((List UInt8 × Int) × Nat)) (hr : paramM ps q.next = some r) :
    Calls Tryd.prog 78 #[.pointer (some ⟨w0.heap.size, 0, none⟩), .pointer (some ⟨w0.heap.size + 1, 0, none⟩)] w (ItemPost b bp cap T ps q (ParI w0 b) (ParB w0 b) xs r) := by
  obtain ⟨i0, hi, hz0, hz1, hz2⟩ := info_parts infoParam
  have cr : w.cell? ⟨w0.heap.size, 0, none⟩ = some (.pointer (some ⟨b, 0, none⟩)) := by simp [World.cell?, hI.cr]
  have hsz0 := hI.sz
  unfold paramM at hr
  go_enter Tryd.func78, Tryd.ntmps78
  go_wp2_with fail
  rcases bindR_some hr with ⟨k, h4, rfl⟩ | ⟨nm, n2, h4, h5⟩
  · rcases nameM_some h4 with ⟨hN, h6⟩ | ⟨hN, h6⟩
    · cases h6
    · cases h6
      refine (name_no _ _ _ _ _ _ _ h hN).mono ?_
      rintro e w1 ⟨rfl, hR, k1⟩
      go_wp2_with fail
      go_ret
      exact ⟨rfl, _, hR, (hI.kept hb0 k1).bad⟩
  · rcases nameM_some h4 with ⟨hN, h6⟩ | ⟨hN, h6⟩
    · cases h6
      refine (name_yes _ _ _ _ _ _ _ h hN).mono ?_
      rintro e w1 ⟨rfl, hR1, k1⟩
      have hI1 := hI.kept hb0 k1
      have cr1 : w1.cell? ⟨w0.heap.size, 0, none⟩ = some (.pointer (some ⟨b, 0, none⟩)) := by simp [World.cell?, hI1.cr]
      go_wp2_with fail
      refine (skipType_any _ _ _ _ _ _ _ hR1).mono ?_
      generalize hty : typeP (cur ps (q.next + 1)) (q.next + 1) = ty at h5 ⊢
      obtain ⟨t, n3⟩ := ty
      rintro e w2 ⟨rfl, hR2, k2⟩
      have hI2 := hI1.kept hb0 k2
      have cr2 : w2.cell? ⟨w0.heap.size, 0, none⟩ = some (.pointer (some ⟨b, 0, none⟩)) := by simp [World.cell?, hI2.cr]
      simp only at h5 hR2 ⊢
      by_cases hT : ((t : Int) == 0) = true
      · rw [if_pos hT] at h5
        cases h5
        go_wp2_with fail
        refine (refuse_any _ _ _ _ _ _ _ hR2).mono ?_
        rintro e w3 ⟨rfl, hR3, k3⟩
        go_wp2_with fail
        go_ret
        exact ⟨rfl, _, hR3, (hI2.kept hb0 k3).bad⟩
      · rw [if_neg hT] at h5
        have hT' : ((t : Int) == 0) = false := by simpa using hT
        clear hT
        cases h5
        obtain ⟨v, vs, hca, hgr⟩ := hI2.ca
        obtain ⟨av, cv, rfl⟩ := hgr.slice
        have hs2 := hI2.sz
        have c1 : w2.cell? ⟨w0.heap.size + 1, 0, none⟩ = some (.slice av xs.length cv) := by simp [World.cell?, hca]
        have HV : Hid (∀ k, (Value.slice av xs.length cv).ownBlock = some k → w0.heap.size + 2 ≤ k ∧ k < w2.heap.size) := hgr.1.lt
        have HGR : Hid (Grow IsP 67 2 (w0.heap.size + 2) w2 (.slice av xs.length cv) vs xs) := hgr
        have HO : Hid ((w2.alloc (.cells #[.string ⟨(cur ps q.next).s.toArray⟩, .int .i64 t] 67)).ownsRow (w0.heap.size + 2) 67 2 (.slice av xs.length cv) xs.length (flat vs)) := hgr.1.alloc _
        have HN : Hid (∀ j u, [Value.string ⟨(cur ps q.next).s.toArray⟩, .int .i64 t][j]? = some u → (w2.alloc (.cells #[.string ⟨(cur ps q.next).s.toArray⟩, .int .i64 t] 67)).cell? ((⟨w2.heap.size, 0, none⟩ : Addr).add j) = some u) :=
          World.news_of_block (B := w2.heap.size) (cs := #[.string ⟨(cur ps q.next).s.toArray⟩, .int .i64 t]) (heap_alloc_new w2 _)
        have hm63 : xs.length + 1 ≤ maxLen := by unfold maxLen; omega
        clear hgr
        go_wp2_with (at_builtin; refine wpList_append_lies _ rfl _ _ 40 (by rfl) (w0.heap.size + 2) 67 i0 _ 2 24 Tryd.underlying40 hi hz0 hz1 hz2 rfl (by decide) (.slice av xs.length cv) xs.length (flat vs) (by rfl) HO.out ⟨w2.heap.size, 0, none⟩ 1 1 [.string ⟨(cur ps q.next).s.toArray⟩, .int .i64 t] (by rfl) rfl HN.out (param_one _ _) (by decide) hm63 (by omega) (by simp; omega) (w2.heap.size + 1) (by simp) ?_)
        intro gg cp w8 hown8 hgrow8 hat8 hlt8
        have hv := HV.out
        have hca8 : w8.heap[w0.heap.size + 1]? = some (.cells #[.slice av xs.length cv] 40 (0, 0)) := (hgrow8.block (w0.heap.size + 1) (by simp; omega) (fun e => by have := hv _ e.symm; omega)).trans (blk_alloc hca _)
        have c8 : w8.cell? ⟨w0.heap.size + 1, 0, none⟩ = some (.slice av xs.length cv) := by simp [World.cell?, hca8]
        have z8 := thaw4 hca8 0
        have HO8 : Hid (_) := hown8
        have HG8 : Hid (_) := hgrow8
        have HA8 : Hid (_) := hat8
        clear hown8 hgrow8 hat8 hv
        go_wp2_with fail
        go_ret
        have hv := HV.out
        have hsg := HG8.out.size
        simp at hsg
        have hgg : w0.heap.size + 2 ≤ gg := by
          rcases HA8.out with e | e
          · have := hv _ e; omega
          · omega
        have ka : Kept b w2 (w2.alloc (.cells #[.string ⟨(cur ps q.next).s.toArray⟩, .int .i64 t] 67)) := (Kept.refl b w2).alloc _
        have k8 := kept_grown (hI2.kp.trans ka) HG8.out (fun k e => by have := hv k e; omega)
        have kx : Kept (w0.heap.size + 1) w8 (w8.setCell ⟨w0.heap.size + 1, 0, none⟩ (.slice (some ⟨gg, 0, none⟩) (xs.length + 1) cp)) := (Kept.refl _ _).setCell _ _
        have hR8 := rdr_grown (z := w0.heap.size) (hR2.below ((Below.refl _ _).alloc (Nat.le_refl _) _)) HG8.out (fun k e => by have := hv k e; omega) hb0 hp0
        have hfar := hR8.far
        have hgr8 := HGR.out.snoc (z := w2.heap.size) (ys := [.string ⟨(cur ps q.next).s.toArray⟩, .int .i64 t]) (x := ((cur ps q.next).s, (t : Int))) moves_IsP rfl (by omega) (fun k e => (hv k e).2) (by simp [flat, Value.cells]) (fun k hk => Below.heap_alloc _ _ _ hk) (by simp) HG8.out (by simpa using HA8.out) HO8.out
        refine ⟨rfl, hR8.own kx (by omega) (by omega) (by omega), k8.own kx (by omega), by rw [size_set]; omega, ?_, ?_⟩
        · rw [kx.block w0.heap.size (by omega) (by omega), HG8.out.block w0.heap.size (by simp; omega) (fun e => by have := hv _ e.symm; omega)]
          exact blk_alloc hI2.cr _
        · exact ⟨_, _, heap_setCell_same hca8 _, by simpa using hgr8.kept moves_IsP kx (by omega)⟩
    · cases h6

theorem callPar (caps : Array Value) (w : World) : (callFunc 78 caps).run Tryd.prog w = .ok (.enter 78 caps) w := by kernel_rfl

theorem parStart (w : World) (b : Nat) : ParI w b ((w.alloc (.cells #[.pointer (some ⟨b, 0, none⟩)] 50)).alloc (.cells #[.slice none 0 0] 40)) [] :=
  ⟨((Kept.refl _ _).alloc _).alloc _, by simp, (heap_alloc2 w _ _).1, _, [], (heap_alloc2 w _ _).2, Grow.nil _ _ _ _ _⟩

/-- what a call that reads the parameters leaves -/
def PostP (b bp cap T : Nat) (ps : List Tok) (q : RS) (w : World) (r : Sum (Int × Int) (List (List UInt8 × Int) × Nat)) (e : Ending) (w' : World) : Prop :=
  Kept b w w' ∧ match r with
  | .inl k => ∃ a l c n', e = .returned (.tuple #[.slice a l c, .bool false]) ∧ Rdr w' b bp cap T ps ⟨n', q.depth, k.1, k.2⟩
  | .inr x => ∃ a c, e = .returned (.tuple #[.slice a x.1.length c, .bool true]) ∧ Row (fun g => w.heap.size ≤ g) w' (IsP (fun g => w.heap.size ≤ g) w') (.slice a x.1.length c) x.1 ∧ Rdr w' b bp cap T ps { q with next := x.2 }

set_option maxHeartbeats 1000000 in
theorem params_any {ps : List Tok} (w : World) (b bp cap T f : Nat) (hf : f ≤ 1000000) (q : RS) (r : Sum (Int × Int) (List (List UInt8 × Int) × Nat)) (h : Rdr w b bp cap T ps q)
    (hr : listM ps (paramM ps) f q.next = some r) :
    Calls Tryd.prog 59 #[.pointer (some ⟨b, 0, none⟩)] w (PostP b bp cap T ps q w r) := by
  have hbs := h.bsize
  have hps := h.lt
  have hfar := h.far
  have hmf := mkf
  go_enter Tryd.func59, Tryd.ntmps59
  go_wp2_with fail
  refine (listed_any b bp cap T q.depth f 78 _ (ParI w b) (ParB w b) (callPar _)
    (fun w' q' acc r' hl hd hR hI hi => parItem w w' b bp cap T ps q' acc (by omega) hbs hps hR hI r' hi)
    (fun w' w'' acc hI hk => hI.kept hbs hk) (fun w' acc hI => hI.bad) _ q r rfl (h.below (((Below.refl _ _).alloc (Nat.le_refl _) _).alloc (by simp) _)) (parStart w b) hr).mono ?_
  intro e w1 hP
  cases r with
  | inl k =>
    obtain ⟨rfl, n', h1, ⟨kp, hsz, a, l, c, hca⟩⟩ := hP
    have c1 : w1.cell? ⟨w.heap.size + 1, 0, none⟩ = some (.slice a l c) := by simp [World.cell?, hca]
    go_wp2_with fail
    go_ret2
    exact ⟨kp, a, l, c, n', rfl, h1⟩
  | inr x =>
    obtain ⟨rfl, h1, hI⟩ := hP
    obtain ⟨v, vs, hca, hgr⟩ := hI.ca
    obtain ⟨av, cv, rfl⟩ := hgr.slice
    have c1 : w1.cell? ⟨w.heap.size + 1, 0, none⟩ = some (.slice av x.1.length cv) := by simp [World.cell?, hca]
    go_wp2_with fail
    go_ret2
    exact ⟨hI.kp, av, cv, rfl, hgr.row moves_IsP (by omega), h1⟩

end Go.Proofs.YtgifghcaeoinoaaDoor
