/-
  All functions.
-/
import Derived.Test.YtgifghcaeoinoaaDoorReI
namespace Go.Proofs.YtgifghcaeoinoaaDoor
open Go.RowKit
set_option linter.unusedSimpArgs false
set_option linter.unusedVariables false

def funcsLoop (ps : List Tok) (M : Nat → R Fn') : Nat → List Fn' → Nat → R (List Fn')
  | 0, _, _ => none
  | g + 1, acc, n => if (cur ps n).kind != 0 then bindR (M n) fun x n1 => if (acc.length : Int) == 20 then badR ((cur ps n).at_, 1) else funcsLoop ps M g (acc ++ [x]) n1 else okR acc n

theorem infoFunc : (Tryd.prog.info? 42).map (fun i => (i.zero, i.size, i.bytes)) = some (some (.agg #[.string ⟨#[]⟩, .slice none 0 0, .int .i64 0, .slice none 0 0]), 4, 72) := by kernel_rfl

/-- what a call that reads all functions leaves -/
def PostFs (b bp cap T : Nat) (ps : List Tok) (q : RS) (w : World) (r : Sum (Int × Int) (List Fn' × Nat)) (e : Ending) (w' : World) : Prop :=
  Kept b w w' ∧ match r with
  | .inl k => ∃ n', e = .returned (.tuple #[.slice none 0 0, .bool false]) ∧ Rdr w' b bp cap T ps ⟨n', q.depth, k.1, k.2⟩
  | .inr x => ∃ a c, e = .returned (.tuple #[.slice a x.1.length c, .bool true]) ∧ Row (fun g => w.heap.size ≤ g) w' (IsFn (fun g => w.heap.size ≤ g) w') (.slice a x.1.length c) x.1 ∧ Rdr w' b bp cap T ps { q with next := x.2 }

structure FnsI (w : World) (b bp cap T : Nat) (ps : List Tok) (q : RS) (v : Value) (acc : List Fn') (n : Nat) (wr : World) : Prop where
  kp : Kept b w wr
  gr : ∃ vs, Grow IsFn 42 4 w.heap.size wr v vs acc
  rd : Rdr wr b bp cap T ps { q with next := n }

theorem func_one (v0 : ByteArray) (v2 : Int) (a1 a3 : Option Addr) (l1 c1 l3 c3 : Nat) : ∀ u ∈ [Value.string v0, .slice a1 l1 c1, .int .i64 v2, .slice a3 l3 c3], u.oneCell' = true := by
  intro u hu
  simp at hu
  rcases hu with rfl | rfl | rfl | rfl <;> rfl

set_option maxHeartbeats 3000000 in
theorem functions_any {ps : List Tok} {B : Nat → Nat → R (List St)} (hB : SaidB ps B) (w : World) (b bp cap T f f2 : Nat) (hf : f ≤ 1000000) (hf2 : f2 ≤ 1000000) (q : RS) (r : Sum (Int × Int) (List Fn' × Nat)) (h : Rdr w b bp cap T ps q)
    (hr : funcsLoop ps (functionM ps B f2 q.depth) f [] q.next = some r) :
    Calls Tryd.prog 14 #[.pointer (some ⟨b, 0, none⟩)] w (PostFs b bp cap T ps q w r) := by
  have hbs := h.bsize
  have hps := h.lt
  have hfar := h.far
  obtain ⟨i0, hi, hz0, hz1, hz2⟩ := info_parts infoFunc
  have hI : FnsI w b bp cap T ps q (.slice none 0 0) [] q.next w := ⟨Kept.refl _ _, ⟨[], Grow.nil _ _ _ _ _⟩, h⟩
  go_enter Tryd.func14, Tryd.ntmps14
  go_wp2_with fail
  go_loopg [4] f (fun g s4 wr => ∃ acc n, FnsI w b bp cap T ps q s4 acc n wr ∧ acc.length + g ≤ f ∧ funcsLoop ps (functionM ps B f2 q.depth) g acc n = some r)
  case atStart => exact ⟨[], _, hI, by simp, hr⟩
  case round =>
    clear hI hr
    obtain ⟨acc, n, hI, hlen, hl⟩ := hrel
    obtain ⟨vs, hgr⟩ := hI.gr
    obtain ⟨av, cv, rfl⟩ := hgr.slice
    have hR := hI.rd
    have kp := hI.kp
    have hsz := kp.size
    clear hI
    cases gk with
    | zero => cases hl
    | succ g =>
      simp only [funcsLoop] at hl
      go_wp2_with fail
      refine (peek_any _ _ _ _ _ _ _ hR).mono ?_
      rintro e w1 ⟨rfl, hb1⟩
      have hR1 := hR.below hb1
      have kb1 : Kept b wr w1 := Kept.of_below hb1
      have hgr1 := hgr.kept moves_IsFn (b := b) kb1 hbs
      have kp1 := kp.trans kb1
      have hs1 := kb1.size
      unfold Tok.val
      clear hgr hR
      by_cases hT : ((cur ps n).kind != 0) = true
      · rw [if_pos hT] at hl
        have HGR1 : Hid (_) := hgr1
        clear hgr1
        go_wp2_with fail
        refine (peek_any _ _ _ _ _ _ _ hR1).mono ?_
        rintro e w5 ⟨rfl, hb5⟩
        have hR5 := hR1.below hb5
        have kb5 : Kept b w1 w5 := Kept.of_below hb5
        have hgr5 := Grow.kept moves_IsFn (b := b) HGR1.out kb5 hbs
        have kp5 := kp1.trans kb5
        have hs5 := kb5.size
        unfold Tok.val
        have HGR5 : Hid (_) := hgr5
        clear hgr5
        go_wp2_with fail
        rcases bindR_some hl with ⟨k, h5, rfl⟩ | ⟨x, n5, h5, h6⟩
        · refine (function_any hB _ b bp cap T f2 hf2 _ _ hR5 h5).mono ?_
          rintro e w6 ⟨k6, v, n', ⟨v0, a1, l1, c1, v2, a3, l3, c3, rfl⟩, rfl, hR6⟩
          go_wp2_with fail
          go_ret2
          exact ⟨(kp5.trans k6).trans ((Kept.refl _ _).alloc _), n', rfl, hR6.below ((Below.refl _ _).alloc (Nat.le_refl _) _)⟩
        · refine (function_any hB _ b bp cap T f2 hf2 _ _ hR5 h5).mono ?_
          rintro e w6 ⟨k6, v, rfl, hA, hR6⟩
          obtain ⟨v0, a1, l1, c1, v2, a3, l3, c3, rfl⟩ := hA.sh
          have hs6 := k6.size
          have HA : Hid (IsFn (fun g => w5.heap.size ≤ g) w6 (.agg #[.string v0, .slice a1 l1 c1, .int .i64 v2, .slice a3 l3 c3]) x) := hA
          clear hA
          by_cases hmx : ((acc.length : Int) == 20) = true
          · rw [if_pos hmx] at h6
            cases h6
            go_wp2_with fail
            refine (fail_any _ _ _ _ _ _ _ _ _ (hR6.below ((Below.refl _ _).alloc (Nat.le_refl _) _))).mono ?_
            rintro e w7 ⟨rfl, hR7, k7⟩
            go_wp2_with fail
            go_ret2
            exact ⟨((kp5.trans k6).trans ((Kept.refl _ _).alloc _)).trans k7, _, rfl, hR7⟩
          · rw [if_neg hmx] at h6
            have hmx' : ((acc.length : Int) == 20) = false := by simpa using hmx
            clear hmx
            have hgr6 := Grow.kept moves_IsFn HGR5.out k6 hbs
            have HV : Hid (∀ k, (Value.slice av acc.length cv).ownBlock = some k → w.heap.size ≤ k ∧ k < w5.heap.size) := HGR5.out.1.lt
            have HGR : Hid (Grow IsFn 42 4 w.heap.size w6 (.slice av acc.length cv) vs acc) := hgr6
            have HO : Hid (((w6.alloc (.cells #[.string v0, .slice a1 l1 c1, .int .i64 v2, .slice a3 l3 c3] 42)).alloc (.cells #[.string v0, .slice a1 l1 c1, .int .i64 v2, .slice a3 l3 c3] 42)).ownsRow w.heap.size 42 4 (.slice av acc.length cv) acc.length (flat vs)) := (hgr6.1.alloc _).alloc _
            have HN : Hid (∀ j u, [Value.string v0, .slice a1 l1 c1, .int .i64 v2, .slice a3 l3 c3][j]? = some u → ((w6.alloc (.cells #[.string v0, .slice a1 l1 c1, .int .i64 v2, .slice a3 l3 c3] 42)).alloc (.cells #[.string v0, .slice a1 l1 c1, .int .i64 v2, .slice a3 l3 c3] 42)).cell? ((⟨w6.heap.size + 1, 0, none⟩ : Addr).add j) = some u) :=
              World.news_of_block (B := w6.heap.size + 1) (cs := #[.string v0, .slice a1 l1 c1, .int .i64 v2, .slice a3 l3 c3]) (heap_alloc2 w6 _ _).2
            clear hgr6
            have hm63 : acc.length + 1 ≤ maxLen := by unfold maxLen; omega
            go_wp2_with (at_builtin; refine wpList_append_lies _ rfl _ _ 22 (by rfl) w.heap.size 42 i0 _ 4 72 Tryd.underlying22 hi hz0 hz1 hz2 rfl (by decide) (.slice av acc.length cv) acc.length (flat vs) (by rfl) HO.out ⟨w6.heap.size + 1, 0, none⟩ 1 1 [.string v0, .slice a1 l1 c1, .int .i64 v2, .slice a3 l3 c3] (by rfl) rfl HN.out (func_one _ _ _ _ _ _ _ _) (by decide) hm63 (by omega) (by simp; omega) (w6.heap.size + 2) (by simp) ?_)
            intro gg cp w8 hown8 hgrow8 hat8 hlt8
            have HO8 : Hid (_) := hown8
            have HG8 : Hid (_) := hgrow8
            have HA8 : Hid (_) := hat8
            clear hown8 hgrow8 hat8
            go_wp2_with fail
            go_roundg g
            case measure => omega
            case rel =>
              have hv := HV.out
              have ka : Kept b w6 ((w6.alloc (.cells #[.string v0, .slice a1 l1 c1, .int .i64 v2, .slice a3 l3 c3] 42)).alloc (.cells #[.string v0, .slice a1 l1 c1, .int .i64 v2, .slice a3 l3 c3] 42)) := ((Kept.refl b w6).alloc _).alloc _
              have k8 := kept_grown (((kp5.trans k6).trans ka)) HG8.out (fun k e => by have := hv k e; omega)
              refine ⟨acc ++ [x], n5, ⟨k8, ⟨_, HGR.out.snoc (z := w5.heap.size) (ys := [.string v0, .slice a1 l1 c1, .int .i64 v2, .slice a3 l3 c3]) moves_IsFn HA.out (by omega) (fun k e => (hv k e).2) (by simp [flat, Value.cells]) (fun k hk => (Below.heap_alloc _ _ _ (by simp; omega)).trans (Below.heap_alloc _ _ _ hk)) (by simp; omega) HG8.out (by simpa using HA8.out) HO8.out⟩, ?_⟩, by simp; omega, h6⟩
              exact rdr_grown (z := w.heap.size) (hR6.below (((Below.refl _ _).alloc (Nat.le_refl _) _).alloc (by simp) _)) HG8.out (fun k e => by have := hv k e; omega) hbs hps
      · rw [if_neg hT] at hl
        have hT' : ((cur ps n).kind != 0) = false := by simpa using hT
        clear hT
        cases hl
        have HG : Hid (Row (fun g => w.heap.size ≤ g) w1 (IsFn (fun g => w.heap.size ≤ g) w1) (.slice av acc.length cv) acc) := hgr1.row moves_IsFn (by omega)
        clear hgr1
        go_wp2_with fail
        go_ret2
        exact ⟨kp1, _, _, rfl, HG.out, hR1⟩

end Go.Proofs.YtgifghcaeoinoaaDoor
