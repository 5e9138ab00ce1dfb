/-
  A scope is entered, and left.
-/
import Derived.Test.YtbpnfoihonehgabGreatDoorTyC
namespace Go.Proofs.YtbpnfoihonehgabGreatDoor
open Go.RowKit Go.Maps
set_option linter.unusedSimpArgs false
set_option linter.unusedVariables false

theorem infoMap : (Tryz.prog.info? 52).map (fun i => (i.zero, i.size, i.bytes)) = some (some (.map none), 1, 8) := by kernel_rfl

theorem AllP.snocP {A B : Type} {P : A → B → Prop} {a : A} {b : B} {us : List A} {vs : List B} (h : AllP P us vs) (hp : P a b) : AllP P (us ++ [a]) (vs ++ [b]) := AllP.snoc hp h

theorem AllP.mem {A B : Type} {P : A → B → Prop} : ∀ {us : List A} {vs : List B}, AllP P us vs → ∀ a ∈ us, ∃ b, P a b
  | [], [], _, a, h => by simp at h
  | a' :: us, b' :: vs, ⟨x, y⟩, a, h => by
    rcases List.mem_cons.1 h with rfl | h
    · exact ⟨b', x⟩
    · exact AllP.mem y a h
  | [], _ :: _, x, _, _ => x.elim
  | _ :: _, [], x, _, _ => x.elim

theorem mapAt_new {w : World} {m : Nat} (h : w.heap[m]? = some (.map #[] 0)) : MapAt w m (.map []) := by
  obtain ⟨es, clock, hb, F, hs, hD⟩ := World.ownsMap_made (H := Unit) w Tryz.prog 9 (plainElem Tryz.prog 3)
  have e : some (Obj.map #[] 0) = some (Obj.map es clock) := (heap_alloc_new w (.map #[] 0)).symm.trans hb
  cases e
  exact ⟨#[], 0, h, F, Nat.le_refl _, rfl⟩

theorem ownsRow_keptX {w w' : World} {base size n g c x : Nat} {e : TypeId} {xs : List Value} (h : w.ownsRow base e size (.slice (some ⟨g, 0, none⟩) n c) n xs) (k : Kept x w w') (hg : g ≠ x) : w'.ownsRow base e size (.slice (some ⟨g, 0, none⟩) n c) n xs := by
  refine ⟨h.1, ?_⟩
  rcases h.2 with h8 | ⟨g', cap, cc, hv, hg', hh, r⟩
  · exact Or.inl h8
  · cases hv
    exact Or.inr ⟨g, c, cc, rfl, hg', by rw [k.block g (lt_of_block hh) hg]; exact hh, r⟩

/-- the scopes, with one more: the world is w, with blocks added (wa), the row grown (w2), the checker's field set -/
theorem Chk.push {w wa w2 : World} {B cb : Nat} {X : List Nat} {fv : Value} {pl : DataW Unit} {res : Int} {sc : List (DataW Unit)} {d l g cp m : Nat} {mb : Nat} {sv : Value} {ms : List Nat} (h : Chk w B cb X fv pl res sc d l)
    (h1 : w.heap[cb]? = some (.cells #[fv, .map (some mb), .int .i64 res, sv, .int .i64 d, .int .i64 l] 58 (0, 0))) (h2 : mb ∉ X ∧ mb < cb) (h3 : MapAt w mb pl) (h5 : ∀ k, sv.ownBlock = some k → k ∈ X ∧ k ≠ cb) (h6 : AllP (fun m D => m ∈ X ∧ MapAt w m D) ms sc) (h7 : ms.Nodup)
    (hrow : ∀ k, sv.ownBlock = some k → ∃ c T f, w.heap[k]? = some (.cells c T f))
    (hb : Below w.heap.size w wa) (hm : wa.heap[m]? = some (.map #[] 0)) (hml : w.heap.size ≤ m) (hmw : m < wa.heap.size) (hBm : B ≤ w.heap.size)
    (hg : wa.grownBy w2 sv.ownBlock) (hat : sv.ownBlock = some g ∨ g = wa.heap.size) (hlt : g < w2.heap.size) (ho : w2.ownsRow B 52 1 (.slice (some ⟨g, 0, none⟩) (sc.length + 1) cp) (sc.length + 1) (ms.map (fun m => Value.map (some m)) ++ [.map (some m)])) (hsl : sc.length < 1000000) :
    Chk (w2.setCell ⟨cb, 3, none⟩ (.slice (some ⟨g, 0, none⟩) (sc.length + 1) cp)) B cb (g :: m :: X) fv pl res (sc ++ [.map []]) d l ∧ KX X (g :: m :: X) w (w2.setCell ⟨cb, 3, none⟩ (.slice (some ⟨g, 0, none⟩) (sc.length + 1) cp)) := by
  have hcb := h.cblt
  have hs1 := hb.size
  have hs2 := hg.size
  have hk : Kept cb w2 (w2.setCell ⟨cb, 3, none⟩ (.slice (some ⟨g, 0, none⟩) (sc.length + 1) cp)) := (Kept.refl _ _).setCell _ _
  have hcbr : sv.ownBlock ≠ some cb := fun e => (h5 cb e).2 rfl
  -- a block that is a map, or none of the row's, stands
  have keep : ∀ k, k < w.heap.size → sv.ownBlock ≠ some k → w2.heap[k]? = w.heap[k]? := fun k hk hne => (hg.block k (by omega) (fun e => hne e.symm)).trans (hb.block k hk)
  have hcb2 : w2.heap[cb]? = _ := (keep cb hcb hcbr).trans h1
  have nomap : ∀ k D, MapAt w k D → sv.ownBlock ≠ some k := fun k D hD e => by
    obtain ⟨c, T, f, hc⟩ := hrow k e
    exact hD.notCells hc
  have hgn : sv.ownBlock = some g ∨ w.heap.size ≤ g := hat.imp id (fun e => by omega)
  have hgcb : g ≠ cb := by
    rcases hat with e | e
    · exact (h5 g e).2
    · omega
  have hmcb : m ≠ cb := by omega
  have hmr : sv.ownBlock ≠ some m := fun e => by
    have := (h.low m (h5 m e).1).2
    omega
  have hm2 : w2.heap[m]? = some (.map #[] 0) := (hg.block m hmw (fun e => hmr e.symm)).trans hm
  have hBg : B ≤ g := by
    rcases hat with e | e
    · exact (h.low g (h5 g e).1).1
    · omega
  have hmap : ∀ k D, MapAt w k D → k ≠ cb → MapAt (w2.setCell ⟨cb, 3, none⟩ (.slice (some ⟨g, 0, none⟩) (sc.length + 1) cp)) k D := fun k D hD hne =>
    hD.same ((hk.block k (by have := hD.lt; omega) hne).trans (keep k hD.lt (nomap k D hD)))
  refine ⟨⟨by simp [h.cbX], ?_, ⟨mb, .slice (some ⟨g, 0, none⟩) (sc.length + 1) cp, ms ++ [m], ?_, ?_, ?_, ?_, ?_, ?_, ?_⟩, h.far, h.dp, h.lp, by simp; omega⟩, ?_⟩
  · intro k hk'
    rw [size_set]
    simp at hk'
    rcases hk' with rfl | rfl | hk'
    · exact ⟨hBg, hlt⟩
    · exact ⟨by omega, by omega⟩
    · have := h.low k hk'
      exact ⟨this.1, by omega⟩
  · rw [heap_setCell_same hcb2]; simp
  · have := h3.lt
    have hne : mb ≠ g := by
      rintro rfl
      rcases hat with e | e
      · exact h2.1 (h5 _ e).1
      · omega
    refine ⟨?_, h2.2⟩
    simp [h2.1, hne]
    omega
  · exact hmap mb pl h3 (fun e => h2.1 (e ▸ h.cbX))
  · have hrk := ownsRow_keptX ho hk hgcb
    simpa using hrk
  · intro k hk'
    simp [Value.ownBlock] at hk'
    subst hk'
    exact ⟨by simp, hgcb⟩
  · refine AllP.snocP (h6.imp fun k D hD => ⟨by simp [hD.1], hmap k D hD.2 ?_⟩) ⟨by simp, ?_⟩
    · exact mapAt_new (by rw [hk.block m (by omega) hmcb]; exact hm2)
    · rintro rfl; exact hD.2.notCells h1
  · rw [List.nodup_append]
    refine ⟨h7, by simp, fun a ha b hb' => ?_⟩
    simp at hb'
    subst hb'
    obtain ⟨D, hD⟩ := h6.mem a ha
    have := hD.2.lt
    omega
  · refine ⟨hk.os.trans (hg.os.trans hb.os), hk.tape.trans (hg.tape.trans hb.tape), hk.output.trans (hg.output.trans hb.output), by rw [size_set]; omega, fun k hk' => ?_, fun k hlt' hx => ?_⟩
    · simp at hk'
      rcases hk' with rfl | rfl | hk'
      · rcases hat with e | e
        · exact .inl (h5 _ e).1
        · exact .inr (by omega)
      · exact .inr hml
      · exact .inl hk'
    · have hkr : sv.ownBlock ≠ some k := fun e => hx (h5 k e).1
      exact (hk.block k (by omega) (fun e => hx (e ▸ h.cbX))).trans (keep k hlt' hkr)

theorem AllP.unsnoc {A B : Type} {P : A → B → Prop} {b : B} : ∀ {us : List A} {vs : List B}, AllP P us (vs ++ [b]) → ∃ us' a, us = us' ++ [a] ∧ AllP P us' vs ∧ P a b
  | [], vs, h => by cases vs <;> exact h.elim
  | [a], [], h => ⟨[], a, rfl, trivial, h.1⟩
  | a :: a' :: us, [], h => h.2.elim
  | a :: us, v :: vs, h => by
    obtain ⟨us', a', e, h1, h2⟩ := AllP.unsnoc (us := us) (vs := vs) h.2
    exact ⟨a :: us', a', by rw [e]; rfl, ⟨h.1, h1⟩, h2⟩

/-- what the innermost scope's row looks like -/
theorem Chk.last {w : World} {B cb : Nat} {X : List Nat} {fv : Value} {pl : DataW Unit} {res : Int} {sc : List (DataW Unit)} {D : DataW Unit} {d l : Nat} (h : Chk w B cb X fv pl res (sc ++ [D]) d l) :
    ∃ g cv m, w.cell? ⟨cb, 3, none⟩ = some (.slice (some ⟨g, 0, none⟩) (sc.length + 1) cv) ∧ sc.length + 1 ≤ cv ∧ w.cell? ⟨g, sc.length, none⟩ = some (.map (some m)) ∧ MapAt w m D ∧ m ∈ X ∧ m ≠ cb := by
  obtain ⟨mb, sv, ms, h1, h2, h3, h4, h5, h6, h7⟩ := h.ex
  obtain ⟨ms', m, rfl, h8, h9⟩ := AllP.unsnoc h6
  have hl := AllP.length h8
  rcases h4.2 with ⟨_, h0⟩ | ⟨g, cap, cc, hv, hg, hh, hn, hc, hs, ht⟩
  · simp at h0
  · refine ⟨g, cap, m, by simp [World.cell?, h1, hv], by simpa using hn, ?_, h9.2, h9.1, fun e => by subst e; exact h9.2.notCells h1⟩
    have h10 : cc.toList[sc.length]? = some (.map (some m)) := by
      have h11 : (cc.toList.take ((sc ++ [D]).length * 1))[sc.length]? = ((ms' ++ [m]).map fun m => Value.map (some m))[sc.length]? := by rw [ht]
      rw [List.getElem?_take_of_lt (by simp)] at h11
      rw [h11]
      simp [← hl]
    simp only [World.cell?, hh]
    simpa using h10

theorem Chk.pop {w : World} {B cb : Nat} {X : List Nat} {fv : Value} {pl : DataW Unit} {res : Int} {sc : List (DataW Unit)} {D : DataW Unit} {d l g cv : Nat} (h : Chk w B cb X fv pl res (sc ++ [D]) d l)
    (hc : w.cell? ⟨cb, 3, none⟩ = some (.slice (some ⟨g, 0, none⟩) (sc.length + 1) cv)) :
    Chk (w.setCell ⟨cb, 3, none⟩ (.slice (some ⟨g, 0, none⟩) sc.length cv)) B cb X fv pl res sc d l ∧ KX X X w (w.setCell ⟨cb, 3, none⟩ (.slice (some ⟨g, 0, none⟩) sc.length cv)) := by
  obtain ⟨mb, sv, ms, h1, h2, h3, h4, h5, h6, h7⟩ := h.ex
  obtain ⟨ms', m, rfl, h8, h9⟩ := AllP.unsnoc h6
  have hl := AllP.length h8
  have hsv : sv = .slice (some ⟨g, 0, none⟩) (sc.length + 1) cv := by
    simp [World.cell?, h1] at hc
    exact hc
  subst hsv
  have hk : Kept cb w (w.setCell ⟨cb, 3, none⟩ (.slice (some ⟨g, 0, none⟩) sc.length cv)) := (Kept.refl _ _).setCell _ _
  have hgcb := (h5 g rfl).2
  have h4' : w.ownsRow B 52 1 (.slice (some ⟨g, 0, none⟩) (sc.length + 1) cv) (sc.length + 1) (ms'.map (fun m => Value.map (some m)) ++ [.map (some m)]) := by simpa using h4
  have hpop := ownsRow_pop (n := sc.length) (by simp [hl]) h4'
  have hmc : mb ≠ cb := fun e => h2.1 (e ▸ h.cbX)
  refine ⟨⟨h.cbX, fun i hi => ⟨(h.low i hi).1, Nat.lt_of_lt_of_le (h.low i hi).2 hk.size⟩, ⟨mb, .slice (some ⟨g, 0, none⟩) sc.length cv, ms', by rw [heap_setCell_same h1]; simp, h2, h3.same (hk.block mb h3.lt hmc), ownsRow_keptX hpop hk hgcb, ?_, h8.imp fun m' D' hm => ⟨hm.1, hm.2.same (hk.block m' hm.2.lt ?_)⟩, (List.nodup_append.1 h7).1⟩, h.far, h.dp, h.lp, by have := h.sl; simp at this; omega⟩, ?_⟩
  · intro k hk'
    simp [Value.ownBlock] at hk'
    subst hk'
    exact h5 _ rfl
  · exact ⟨hk.os, hk.tape, hk.output, hk.size, fun _ h => .inl h, fun k hlt hx => hk.block k hlt fun e => hx (e ▸ h.cbX)⟩
  · rintro rfl; exact hm.2.notCells h1

theorem KX.drew {X Y : List Nat} {w w' : World} (h : KX X Y w w') : KX X Y w w'.drew := h.trans (KX.of_below (Below.refl _ _).drew)

set_option maxHeartbeats 1000000 in
theorem leave_scope (w : World) (B cb bx : Nat) (X : List Nat) (fv : Value) (pl : DataW Unit) (res : Int) (sc : List (DataW Unit)) (D : DataW Unit) (d l : Nat) (u : FrameMode) (h : Chk w B cb X fv pl res (sc ++ [D]) d l) (hx : w.cell? ⟨bx, 0, none⟩ = some (.pointer (some ⟨cb, 0, none⟩))) :
    CallsD Tryz.prog 48 #[.pointer (some ⟨bx, 0, none⟩)] u w fun e u' w' => u' = u ∧ (e = .returned (.tuple #[]) ∧ Chk w' B cb X fv pl res sc d l ∧ KX X X w w') := by
  obtain ⟨g, cv, m, c3, hcv, _⟩ := h.last
  have hz := h.cells.2.2.2.2 3
  have hsl := h.sl
  simp at hsl
  have hp := h.pop c3
  have HP : Hid (_) := hp
  have hbx : bx < w.heap.size := World.block_lt_of_cell? w ⟨bx, 0, none⟩ hx
  have hcb := h.cblt
  generalize sc.length = n at *
  have hnI : (0 : Int) ≤ (n : Int) := by omega
  have hnc : (n : Int) ≤ (cv : Int) := by omega
  clear hp h
  go_enter_d Tryz.func48, Tryz.ntmps48
  go_wp2_with fail
  go_region
  all_goals
    go_wp2_with fail
    go_end0
    exact ⟨rfl, HP.out.1.below (Below.refl _ _).drew, HP.out.2.drew⟩

theorem results_tmp1 {fn : Func} {a : Act} {w : World} {x : Nat} (h : fn.results = #[.tmp x]) : (results fn a.tmps).run Tryz.prog w = .ok (a.tmps.getD x undef) w := by
  simp [results, h, go_sem]

theorem map_one (m : Nat) : ∀ u ∈ [Value.map (some m)], u.oneCell' = true := by
  intro u hu
  simp at hu
  subst hu; rfl

set_option maxHeartbeats 4000000 in
theorem scoped_any (B cb : Nat) (X : List Nat) (fv : Value) (pl : DataW Unit) (res : Int) (sc : List (DataW Unit)) (d l : Nat) (F : FuncId) (caps : Array Value) (r : Int) (w : World) (h : Chk w B cb X fv pl res sc d l) (hBw : B ≤ w.heap.size) (hsl : sc.length < 1000000)
    (hcall : ∀ w, (callFunc F caps).run Tryz.prog w = .ok (.enter F caps) w)
    (hlook : ∀ w1 X1, KX X X1 w w1 → Chk w1 B cb X1 fv pl res (sc ++ [.map []]) d l → Calls Tryz.prog F caps w1 fun e w' => e = .returned (.int .i64 r) ∧ ∃ X' D, Chk w' B cb X' fv pl res (sc ++ [D]) d l ∧ KX X1 X' w1 w') :
    Calls Tryz.prog 30 #[.pointer (some ⟨cb, 0, none⟩), .func (.func F) #[] caps] w fun e w' => e = .returned (.int .i64 r) ∧ ∃ X', Chk w' B cb X' fv pl res sc d l ∧ KX X X' w w' := by
  have hmm := @run_makeMap Tryz.prog
  have hmf := mkf
  obtain ⟨i0, hi, hz0, hz1, hz2⟩ := info_parts infoMap
  obtain ⟨mb, sv, ms, h1, h2, h3, h4, h5, h6, h7⟩ := h.ex
  obtain ⟨av, cv, rfl⟩ := ownsRow_slice h4
  have hcb := h.cblt
  have c3 : w.cell? ⟨cb, 3, none⟩ = some (.slice av sc.length cv) := by simp [World.cell?, h1]
  have z3 := thaw4 h1 3
  have hrow : ∀ k, (Value.slice av sc.length cv).ownBlock = some k → ∃ c T f, w.heap[k]? = some (.cells c T f) := by
    intro k hk
    rcases h4.2 with ⟨e, _⟩ | ⟨g, cap, cc, hv, hg, hh, _⟩
    · rw [e] at hk; simp [Value.ownBlock] at hk
    · rw [hv] at hk
      simp [Value.ownBlock] at hk
      subst hk
      exact ⟨_, _, _, hh⟩
  have HO : Hid ((((w.alloc (.cells #[.pointer (some ⟨cb, 0, none⟩)] 55)).alloc (.map #[] 0)).alloc (.cells #[.map (some (w.heap.size + 1))] 52)).drew.ownsRow B 52 1 (.slice av sc.length cv) sc.length (ms.map fun m => Value.map (some m))) := ((h4.alloc _).alloc _).alloc _
  have hal : (((w.alloc (.cells #[.pointer (some ⟨cb, 0, none⟩)] 55)).alloc (.map #[] 0)).alloc (.cells #[.map (some (w.heap.size + 1))] 52)).drew.heap[w.heap.size + 2]? = some (.cells #[.map (some (w.heap.size + 1))] 52 (0, 0)) := blk_drew (by
    have := heap_alloc_new ((w.alloc (.cells #[.pointer (some ⟨cb, 0, none⟩)] 55)).alloc (.map #[] 0)) (.cells #[.map (some (w.heap.size + 1))] 52)
    simpa using this)
  have HN : Hid (∀ j u, [Value.map (some (w.heap.size + 1))][j]? = some u → (((w.alloc (.cells #[.pointer (some ⟨cb, 0, none⟩)] 55)).alloc (.map #[] 0)).alloc (.cells #[.map (some (w.heap.size + 1))] 52)).drew.cell? ((⟨w.heap.size + 2, 0, none⟩ : Addr).add j) = some u) :=
    World.news_of_block (B := w.heap.size + 2) (cs := #[.map (some (w.heap.size + 1))]) hal
  have HBX : Hid ((((w.alloc (.cells #[.pointer (some ⟨cb, 0, none⟩)] 55)).alloc (.map #[] 0)).alloc (.cells #[.map (some (w.heap.size + 1))] 52)).drew.heap[w.heap.size]? = some (.cells #[.pointer (some ⟨cb, 0, none⟩)] 55 (0, 0))) := blk_drew (blk_alloc (blk_alloc (heap_alloc_new w _) _) _)
  have HMP : Hid ((((w.alloc (.cells #[.pointer (some ⟨cb, 0, none⟩)] 55)).alloc (.map #[] 0)).alloc (.cells #[.map (some (w.heap.size + 1))] 52)).drew.heap[w.heap.size + 1]? = some (.map #[] 0)) := blk_drew (blk_alloc (by have := heap_alloc_new (w.alloc (.cells #[.pointer (some ⟨cb, 0, none⟩)] 55)) (.map #[] 0); simpa using this) _)
  have HCB : Hid ((((w.alloc (.cells #[.pointer (some ⟨cb, 0, none⟩)] 55)).alloc (.map #[] 0)).alloc (.cells #[.map (some (w.heap.size + 1))] 52)).drew.heap[cb]? = some (.cells #[fv, .map (some mb), .int .i64 res, .slice av sc.length cv, .int .i64 d, .int .i64 l] 58 (0, 0))) := blk_drew (blk_alloc (blk_alloc (blk_alloc h1 _) _) _)
  have HBL : Hid (Below w.heap.size w (((w.alloc (.cells #[.pointer (some ⟨cb, 0, none⟩)] 55)).alloc (.map #[] 0)).alloc (.cells #[.map (some (w.heap.size + 1))] 52)).drew) := ((((Below.refl _ _).alloc (Nat.le_refl _) _).alloc (by simp) _).alloc (by simp; omega) _).drew
  have hH : (((w.alloc (.cells #[.pointer (some ⟨cb, 0, none⟩)] 55)).alloc (.map #[] 0)).alloc (.cells #[.map (some (w.heap.size + 1))] 52)).drew.heap.size = w.heap.size + 3 := by simp
  have hm63 : sc.length + 1 ≤ maxLen := by unfold maxLen; omega
  have kc0 : (w.alloc (.cells #[.pointer (some ⟨cb, 0, none⟩)] 55)).drew.cell? ⟨cb, 3, none⟩ = some (.slice av sc.length cv) := by have := (blk_drew (blk_alloc h1 (.cells #[.pointer (some ⟨cb, 0, none⟩)] 55))); simp [World.cell?, this]
  have kb0 : (w.alloc (.cells #[.pointer (some ⟨cb, 0, none⟩)] 55)).drew.cell? ⟨w.heap.size, 0, none⟩ = some (.pointer (some ⟨cb, 0, none⟩)) := by simp [World.cell?, show (w.alloc (.cells #[.pointer (some ⟨cb, 0, none⟩)] 55)).drew.heap[w.heap.size]? = some (.cells #[.pointer (some ⟨cb, 0, none⟩)] 55 (0, 0)) from heap_alloc_new w _, -Array.getElem?_eq_getElem, -getElem?_pos]; rfl
  have kc1 : ((w.alloc (.cells #[.pointer (some ⟨cb, 0, none⟩)] 55)).alloc (.map #[] 0)).drew.cell? ⟨cb, 3, none⟩ = some (.slice av sc.length cv) := by have := (blk_drew (blk_alloc (blk_alloc h1 (.cells #[.pointer (some ⟨cb, 0, none⟩)] 55)) (.map #[] 0))); simp [World.cell?, this]
  have kb1 : ((w.alloc (.cells #[.pointer (some ⟨cb, 0, none⟩)] 55)).alloc (.map #[] 0)).drew.cell? ⟨w.heap.size, 0, none⟩ = some (.pointer (some ⟨cb, 0, none⟩)) := by have := (blk_drew (blk_alloc (heap_alloc_new w (.cells #[.pointer (some ⟨cb, 0, none⟩)] 55)) (.map #[] 0))); simp [World.cell?, this]
  have kc2 : (((w.alloc (.cells #[.pointer (some ⟨cb, 0, none⟩)] 55)).alloc (.map #[] 0)).alloc (.cells #[.map (some (w.heap.size + 1))] 52)).drew.cell? ⟨cb, 3, none⟩ = some (.slice av sc.length cv) := by have := HCB.out; simp [World.cell?, this]
  have kb2 : (((w.alloc (.cells #[.pointer (some ⟨cb, 0, none⟩)] 55)).alloc (.map #[] 0)).alloc (.cells #[.map (some (w.heap.size + 1))] 52)).drew.cell? ⟨w.heap.size, 0, none⟩ = some (.pointer (some ⟨cb, 0, none⟩)) := by have := HBX.out; simp [World.cell?, this]
  have HN1 : Hid (some w.heap.size ≠ (Value.slice av sc.length cv).ownBlock) := fun e => by have := (h.low _ (h5 _ e.symm).1).2; omega
  have HN2 : Hid (some cb ≠ (Value.slice av sc.length cv).ownBlock) := fun e => (h5 _ e.symm).2 rfl
  have HH : Hid (_) := h
  have HL : Hid (_) := hlook
  have HF : Hid ((mb ∉ X ∧ mb < cb) ∧ MapAt w mb pl ∧ (∀ k, (Value.slice av sc.length cv).ownBlock = some k → k ∈ X ∧ k ≠ cb) ∧ AllP (fun m D => m ∈ X ∧ MapAt w m D) ms sc ∧ ms.Nodup ∧ (∀ k, (Value.slice av sc.length cv).ownBlock = some k → ∃ c T f, w.heap[k]? = some (.cells c T f)) ∧ w.heap[cb]? = some (.cells #[fv, .map (some mb), .int .i64 res, .slice av sc.length cv, .int .i64 d, .int .i64 l] 58 (0, 0))) := ⟨h2, h3, h5, h6, h7, hrow, h1⟩
  clear h h1 h2 h3 h4 h5 h6 h7 hrow hal hlook
  go_enter_defers Tryz.func30, Tryz.ntmps30
  go_wp2_with fail
  refine Code.wp_mono (Q := fun e a' w' => e = Exit.normal ∧ ∃ (g cp : Nat) (w2 : World), a' = { tmps := #[.pointer (some ⟨cb, 0, none⟩), .func (.func F) #[] caps, .pointer (some ⟨w.heap.size, 0, none⟩), undef, .int .i64 0, .pointer (some ⟨cb, 0, none⟩), .pointer (some ⟨cb, 0, none⟩), .pointer (some ⟨cb, 0, none⟩), .pointer (some ⟨cb, 3, none⟩), .slice av sc.length cv, .map (some (w.heap.size + 1)), .slice (some ⟨w.heap.size + 1 + 1, 0, none⟩) 1 1, .slice (some ⟨g, 0, none⟩) (sc.length + 1) cp, .pointer (some ⟨cb, 0, none⟩), .pointer (some ⟨cb, 3, none⟩), undef, undef, undef], defers := [] } ∧ w' = w2.setCell ⟨cb, 3, none⟩ (.slice (some ⟨g, 0, none⟩) (sc.length + 1) cp) ∧
    w2.ownsRow B 52 1 (.slice (some ⟨g, 0, none⟩) (sc.length + 1) cp) (sc.length + 1) (ms.map (fun m => Value.map (some m)) ++ [.map (some (w.heap.size + 1))]) ∧ (((w.alloc (.cells #[.pointer (some ⟨cb, 0, none⟩)] 55)).alloc (.map #[] 0)).alloc (.cells #[.map (some (w.heap.size + 1))] 52)).drew.grownBy w2 (Value.slice av sc.length cv).ownBlock ∧ ((Value.slice av sc.length cv).ownBlock = some g ∨ g = w.heap.size + 3) ∧ g < w2.heap.size ∧ w2.cell? ⟨w.heap.size, 0, none⟩ = some (.pointer (some ⟨cb, 0, none⟩))) ?imp (wp_region_noPanic ?_)
  case imp =>
    rintro _ _ _ ⟨rfl, g, cp, w2, rfl, rfl, hown2, hgrow2, hat2, hlt2, hbc2⟩
    obtain ⟨f2, f3, f5, f6, f7, frow, f1⟩ := HF.out
    obtain ⟨hC, hK⟩ := HH.out.push f1 f2 f3 f5 f6 f7 frow HBL.out HMP.out (by omega) (by rw [hH]; omega) hBw hgrow2 (by rw [hH]; exact hat2) hlt2 hown2 hsl
    have hbx : (w2.setCell ⟨cb, 3, none⟩ (.slice (some ⟨g, 0, none⟩) (sc.length + 1) cp)).cell? ⟨w.heap.size, 0, none⟩ = some (.pointer (some ⟨cb, 0, none⟩)) := by
      rw [((Kept.refl cb w2).setCell 3 (.slice (some ⟨g, 0, none⟩) (sc.length + 1) cp)).cell w.heap.size 0 (World.block_lt_of_cell? w2 ⟨w.heap.size, 0, none⟩ hbc2) (by omega)]
      exact hbc2
    have hlt : w.heap.size < (w2.setCell ⟨cb, 3, none⟩ (.slice (some ⟨g, 0, none⟩) (sc.length + 1) cp)).heap.size := World.block_lt_of_cell? _ ⟨w.heap.size, 0, none⟩ hbx
    have hxX : w.heap.size ∉ (g :: (w.heap.size + 1) :: X) := by
      intro hx
      simp at hx
      rcases hx with e | hx
      · rcases hat2 with e2 | e2
        · rw [← e] at e2; exact HN1.out e2.symm
        · omega
      · have := (HH.out.low _ hx).2; omega
    have HC : Hid (_) := hC
    have HK : Hid (_) := hK
    clear hC hK f2 f3 f5 f6 f7 frow f1 hown2 hgrow2 hat2 hlt2 hbc2 kc0 kc1 kc2 kb0 kb1 kb2
    generalize (w2.setCell ⟨cb, 3, none⟩ (.slice (some ⟨g, 0, none⟩) (sc.length + 1) cp)) = w3 at *
    go_wp2_with fail
    refine (HL.out _ _ HK.out HC.out).mono ?_
    rintro e w4 ⟨rfl, X', D, hC4, hK4⟩
    have hbx4 : w4.cell? ⟨w.heap.size, 0, none⟩ = some (.pointer (some ⟨cb, 0, none⟩)) := (World.cell?_of_block (w := w3) (hK4.block _ hlt hxX)).trans hbx
    have HC4 : Hid (_) := hC4
    have HK4 : Hid (_) := hK4
    clear hC4 hK4
    go_wp2_with fail
    refine leaves_cons (f := 48) (args := #[.pointer (some ⟨w.heap.size, 0, none⟩)]) (by simp) (by simp [go_sem]) ?_
    refine (leave_scope w4 B cb w.heap.size X' fv pl res sc D d l .returning HC4.out hbx4).mono ?_
    rintro e u' w5 ⟨rfl, rfl, hC5, hK5⟩
    exact ⟨_, results_tmp1 Tryz.results30, rfl, X', hC5, (HK.out.trans HK4.out).trans hK5⟩
  go_region_law (refine step_append_lies (((w.alloc (.cells #[.pointer (some ⟨cb, 0, none⟩)] 55)).alloc (.map #[] 0)).alloc (.cells #[.map (some (w.heap.size + 1))] 52)).drew rfl (.tmp 9) (.tmp 11) 56 rfl B 52 i0 (.map none) 1 8 Tryz.underlying56 hi hz0 hz1 hz2 rfl (by decide) (.slice av sc.length cv) sc.length (ms.map fun m => Value.map (some m)) (by simp [Act.eval, Act.put]) HO.out ⟨w.heap.size + 2, 0, none⟩ 1 1 [.map (some (w.heap.size + 1))] (by simp [Act.eval, Act.put]) rfl HN.out (map_one _) (by decide) hm63 (by omega) (by rw [hH]; omega) (w.heap.size + 3) hH ?_; intro g cp w2 hown2 hgrow2 hat2 hlt2; have hbx2 := (hgrow2.block w.heap.size (by rw [hH]; omega) HN1.out).trans HBX.out; have hcb2 := (hgrow2.block cb (by rw [hH]; omega) HN2.out).trans HCB.out; have hbc2 : w2.cell? ⟨w.heap.size, 0, none⟩ = some (.pointer (some ⟨cb, 0, none⟩)) := by { simp [World.cell?, hbx2] }; have hcc2 : w2.cell? ⟨cb, 3, none⟩ = some (.slice av sc.length cv) := by { simp [World.cell?, hcb2] }; have hcz2 := thaw4 hcb2 3)
  all_goals exact NoPanic.normal ⟨rfl, g, cp, w2, rfl, rfl, hown2, hgrow2, hat2, hlt2, hbc2⟩

end Go.Proofs.YtbpnfoihonehgabGreatDoor
