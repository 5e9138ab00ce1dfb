/-
  Package posternref: which blocks can be done without one (doneWithout): its walk.
-/
import Derived.Test.YtjdedfgdofceeaaSbC
namespace Go.Proofs.Ytjdedfgdofceeaa
open Go.RowKit
set_option linter.unusedSimpArgs false
set_option linter.unusedVariables false

theorem own_base {w : World} {base base' size n : Nat} {e : TypeId} {v : Value} {xs : List Value} (h : w.ownsRow base e size v n xs) (hb : base' ≤ base) : w.ownsRow base' e size v n xs := by
  refine ⟨h.1, ?_⟩
  rcases h.2 with h2 | ⟨g, cap, cur, h1, h2, h3⟩
  · exact .inl h2
  · exact .inr ⟨g, cap, cur, h1, Nat.le_trans hb h2, h3⟩
theorem below_setAt {B g i : Nat} {w : World} {u : Value} (h : B ≤ g) : Below B w (w.setCell ⟨g, i, none⟩ u) := by
  refine ⟨rfl, rfl, rfl, ?_, fun k hk => Below.heap_setCell _ _ _ _ (by show k ≠ g; omega)⟩
  simp [World.setCell]
theorem wy_none {pre : Nat → List Nat} {x : Nat} (h : Wy pre (fun y => ((y : Nat) : Int) = 0) x) : False := by
  induction h with
  | start h => exact h rfl
  | step _ _ _ ih => exact ih

set_option maxHeartbeats 4000000 in
set_option maxRecDepth 20000 in
theorem doneWithout_any (c : Cod) (vb : Value) (out : Int) (B : Nat) (w : World) (hB : B ≤ w.heap.size) (hb : Blks B w vb c.blocks) (hsz : c.blocks.length * 24 ≤ 140737488351232) :
    Calls Try.prog 21 #[.agg #[.string ⟨c.name.toArray⟩, .int .i64 c.params, .int .i64 c.results, .int .i64 c.vars, .int .i64 c.slots, vb], .int .i64 out] w fun e w' =>
      ∃ v f, e = .returned v ∧ w'.ownsRow w.heap.size 4 1 v c.blocks.length (bools c.blocks.length f) ∧ (∀ x, x < c.blocks.length → (f x = true ↔ Wy (preL (c.blocks.map leadsL)) (fun y => (y : Int) = out) x)) ∧ Below w.heap.size w w' := by
  obtain ⟨a3, k3, rfl⟩ := Lies.slice hb
  have HBK : Hid (Blks B w (.slice a3 c.blocks.length k3) c.blocks) := hb
  obtain ⟨bs, hbs⟩ : ∃ bs, bs = c.blocks := ⟨_, rfl⟩
  rw [← hbs] at hsz HBK ⊢
  obtain ⟨n, hn⟩ : ∃ n, n = bs.length := ⟨_, rfl⟩
  rw [← hn] at hsz HBK ⊢
  have HN : Hid (n = bs.length) := hn
  obtain ⟨L, hL⟩ : ∃ L, L = bs.map leadsL := ⟨_, rfl⟩
  rw [← hL]
  have HLL : Hid (L.length = n) := by unfold Hid; rw [hL, List.length_map, hn]
  have HLD : Hid (∀ i b, bs[i]? = some b → L.getD i [] = leadsL b) := by unfold Hid; intro i b h; rw [hL, List.getD_eq_getElem?_getD, List.getElem?_map, h]; rfl
  obtain ⟨W, hW⟩ : ∃ W, W = w.alloc (.cells #[.string ⟨c.name.toArray⟩, .int .i64 c.params, .int .i64 c.results, .int .i64 c.vars, .int .i64 c.slots, .slice a3 n k3] 24) := ⟨_, rfl⟩
  have HW : Hid (Below w.heap.size w W) := by rw [hW]; exact below_alloc _ _
  have hWs : W.heap.size = w.heap.size + 1 := by rw [hW]; simp
  obtain ⟨hd, hhd⟩ : ∃ hd : Array Value, hd = #[.string ⟨c.name.toArray⟩, .int .i64 c.params, .int .i64 c.results, .int .i64 c.vars, .int .i64 c.slots, .slice a3 n k3] := ⟨_, rfl⟩
  have HHD : Hid (hd = _) := hhd
  have HC1 : Hid (W.heap[w.heap.size]? = some (.cells hd 24)) := by rw [hhd, hW]; exact heap_alloc_new w _
  have HWS : Hid (W = _) := hW
  obtain ⟨i0, hi0, hz0, hz1, hzb⟩ := infoParts infoBool
  clear hb hbs hn hW hhd hL
  go_enter Try.func21, Try.ntmps21
  go_wp2_with (at_make; rw [← HWS.out]; refine wpList_make_full _ rfl _ _ _ rfl W.heap.size 4 i0 _ 1 Try.underlying50 hi0 hz0 hz1 .i64 .i64 _ _ n (by rfl) (by rfl) rfl rfl (by rw [hzb]; omega) (by unfold maxLen; omega) (Nat.le_refl _) ?_)
  intro w0 hown hgrow
  have hex : ∃ gB, gB = w.heap.size + 1 ∧ DW w w0 n gB hd (fun _ => false) := by
    have hb0 : Below W.heap.size W w0 := (Below.refl _ _).grown hgrow (Nat.le_refl _) (fun k hk => by cases hk)
    have h1 : (madeCells #[Value.bool false] n).toList = List.replicate n (.bool false) := toList_madeCells_one _ _
    rw [h1, ← bools_none] at hown
    exact ⟨_, rfl, hown, (hb0.block _ (lt_of_block HC1.out)).trans HC1.out, HW.out.trans (hb0.mono HW.out.size)⟩
  obtain ⟨gB, e1, hG0⟩ := hex
  have p0 := cells6 (w := w0) (x := w.heap.size) (by have := hG0.blk; rw [HHD.out] at this; exact this)
  have HG0 : Hid (_) := hG0
  rw [← e1]
  have HE : Hid (gB = w.heap.size + 1) := e1
  clear hown hgrow HW HC1 HWS e1 hG0
  by_cases ho : out = 0
  · subst ho
    go_wp2_with fail
    go_ret
    exact ⟨_, _, rfl, own_base HG0.out.row (by omega), fun x _ => ⟨fun h => (by cases h), fun h => (wy_none h).elim⟩, HG0.out.bel⟩
  · have HO : Hid (out ≠ 0) := ho
    by_cases hn0 : n = 0
    · subst hn0
      have hz : ((0 : Nat) : Int) = 0 := rfl
      go_wp2_with fail
      go_ret
      exact ⟨_, _, rfl, own_base HG0.out.row (by omega), fun x hx => by omega, HG0.out.bel⟩
    · have hn1 : ¬ (n : Int) = 0 := by omega
      have hn2 : (0 : Int) < (n : Int) := by omega
      have hb1 : (out == 0) = false := by simpa using ho
      have hb2 : ((n : Int) == 0) = false := by simpa using hn0
      obtain ⟨q1, q2⟩ := HG0.out.get (i := 0) (by omega)
      have HG1 : Hid (DW w (w0.setCell ⟨gB, 0, none⟩ (.bool true)) n gB hd (metAt (fun _ => false) 0)) := HG0.out.put (by omega)
      have HF1 : Hid (Fill L out (metAt (fun _ => false) 0)) := Fill.start HO.out (by rw [HLL.out]; omega)
      go_wp2_with fail
      clear p0 q1 q2
      go_loopg [6] (n + 1) (fun g s6 wr => ∃ (f : Nat → Bool) (a : Bool), s6 = .bool a ∧ unseen n f + a.toNat ≤ g ∧ Hid (a = false → ∀ x, x < n → f x = true → Shut L out f (L.getD x [])) ∧ Hid (Fill L out f) ∧ Hid (DW w wr n gB hd f))
      case atStart => exact ⟨_, true, rfl, by have := unseen_le (metAt (fun _ => false) 0) n; simp; omega, fun h => (by cases h), HF1, HG1⟩
      case round =>
        clear HG1 HF1
        obtain ⟨f, a, rfl, hu, HS, HF, HG⟩ := hrel
        have p := cells6 (w := wr) (x := w.heap.size) (by have := HG.out.blk; rw [HHD.out] at this; exact this)
        cases a with
        | false =>
          have HR : Hid (∀ x, x < n → (f x = true ↔ Wy (preL L) (fun y => (y : Int) = out) x)) := fun x _ => HF.out.end (by rw [HLL.out]; exact HS.out rfl) x
          go_wp2_with fail
          go_ret
          exact ⟨_, rfl, f, own_base HG.out.row (by omega), HR.out, HG.out.bel⟩
        | true =>
          cases gk with
          | zero => simp at hu
          | succ gt =>
            have hu1 : unseen n f ≤ gt := by simp at hu; omega
            clear hu
            go_wp2_with fail
            clear p
            go_loopg [6, 7] n (fun g s6 s7 wr => ∃ (i : Nat) (f : Nat → Bool) (a : Bool), s7 = .int .i64 (i : Nat) ∧ i + g = n ∧ s6 = .bool a ∧ unseen n f + a.toNat ≤ gt ∧ Hid (a = false → ∀ x, x < i → f x = true → Shut L out f (L.getD x [])) ∧ Hid (Fill L out f) ∧ Hid (DW w wr n gB hd f))
            case atStart => exact ⟨0, f, false, rfl, by omega, rfl, by simpa using hu1, fun _ x hx => by omega, HF, HG⟩
            case round =>
              clear HG HF HS hu1 f
              obtain ⟨i, f, a, rfl, hi', rfl, hu, HS, HF, HG⟩ := hrel
              have p := cells6 (w := wr) (x := w.heap.size) (by have := HG.out.blk; rw [HHD.out] at this; exact this)
              cases gk with
              | zero =>
                have hlt : ¬ (i : Int) < (n : Int) := by omega
                have HS2 : Hid (a = false → ∀ x, x < n → f x = true → Shut L out f (L.getD x [])) := by
                  have e : i = n := by omega
                  rw [← e]; exact HS.out
                go_wp2_with fail
                go_roundg gt
                case measure => omega
                case rel => exact ⟨f, a, rfl, hu, HS2, HF, HG⟩
              | succ gi =>
                have hltI : (i : Int) < (n : Int) := by omega
                have hin : i < n := by omega
                have hget : bs[i]? = some bs[i] := List.getElem?_eq_getElem (by have := HN.out; omega)
                generalize bs[i] = b at hget
                obtain ⟨q1, q2⟩ := HG.out.get hin
                rcases hfi : f i with _ | _
                · rw [hfi] at q1
                  have HP : Hid (a = false → ∀ x, x < i + 1 → f x = true → Shut L out f (L.getD x [])) := by
                    intro ha x hx hf
                    by_cases e : x = i
                    · subst e; rw [hfi] at hf; cases hf
                    · exact HS.out ha x (by omega) hf
                  clear hget hfi
                  go_wp2_with fail
                  go_roundg gi
                  case measure => omega
                  case rel => exact ⟨i + 1, f, a, by go_num, by omega, rfl, hu, HP, HF, HG⟩
                · rw [hfi] at q1
                  have HFI : Hid (f i = true) := hfi
                  have HLB : Hid (L.getD i [] = leadsL b) := HLD.out i b hget
                  obtain ⟨gb, ob, cs, rfl, _, _, ⟨vk, rfl, hvk⟩, hcl⟩ := Lies.at (HBK.out.below (HG.out.bel.mono hB)) hget
                  obtain ⟨ak, ck, rfl⟩ := Lies.slice hvk
                  have q0 := hcl 0 (by decide)
                  simp at q0
                  have hbl := hvk.len
                  unfold maxLen at hbl
                  have HVK : Hid (_) := hvk
                  clear hcl hget hvk hfi
                  obtain ⟨m, hm⟩ : ∃ m, m = b.length := ⟨_, rfl⟩
                  rw [← hm] at HVK q0 hbl
                  have HM : Hid (m = b.length) := hm
                  clear hm
                  rcases Nat.eq_zero_or_pos m with hm0 | hm0
                  · subst hm0
                    have HP : Hid (a = false → ∀ x, x < i + 1 → f x = true → Shut L out f (L.getD x [])) := by
                      intro ha x hx hf
                      by_cases e : x = i
                      · subst e
                        rw [HLB.out]
                        have : b = [] := List.eq_nil_of_length_eq_zero HM.out.symm
                        subst this
                        intro y hy; cases hy
                      · exact HS.out ha x (by omega) hf
                    go_wp2_with fail
                    go_loopg [6, 10] 0 (fun g s6 s10 wr' => s6 = .bool a ∧ s10 = .int .i64 0 ∧ wr' = wr)
                    case atStart => exact ⟨rfl, rfl, rfl⟩
                    case round =>
                      obtain ⟨rfl, rfl, rfl⟩ := hrel
                      go_wp2_with fail
                      go_roundg gi
                      case measure => omega
                      case rel => exact ⟨i + 1, f, a, by go_num, by omega, rfl, hu, HP, HF, HG⟩
                  · obtain ⟨x, hx⟩ : ∃ x, b[m - 1]? = some x := ⟨_, List.getElem?_eq_getElem (by have := HM.out; omega)⟩
                    obtain ⟨g2, o2, cs2, rfl, hg2B, _, ⟨vd, va, vt, rfl, _, _, hto, _⟩, hcl2⟩ := Lies.at HVK.out hx
                    obtain ⟨at_, ct, rfl⟩ := Lies.slice hto
                    have q5 := hcl2 5 (by decide)
                    have hto2 := hto.len
                    unfold maxLen at hto2
                    have HTO : Hid (Nums B wr (.slice at_ x.to.length ct) x.to) := hto
                    have HLX : Hid (L.getD i [] = x.to) := by
                      unfold Hid
                      rw [HLB.out]
                      have : b.getLast? = some x := by rw [List.getLast?_eq_getElem?, ← HM.out]; exact hx
                      unfold leadsL
                      rw [this]
                    obtain ⟨l, hl⟩ : ∃ l, l = x.to := ⟨_, rfl⟩
                    rw [← hl] at HTO HLX hto2 q5
                    have hm1 : (0 : Int) < (m : Int) := by omega
                    obtain ⟨m1, hm1e⟩ : ∃ m1, m = m1 + 1 := ⟨m - 1, by omega⟩
                    subst hm1e
                    simp at q5
                    clear hcl2 hto hl hx
                    obtain ⟨wo, hwo⟩ : ∃ wo, wo = wr := ⟨_, rfl⟩
                    subst hwo
                    go_wp2_with fail
                    clear p q0 q1 q2 q5
                    go_loopg [6, 10] l.length (fun g s6 s10 wr => ∃ (k : Nat) (f : Nat → Bool) (a : Bool), s10 = .int .i64 (k : Nat) ∧ k + g = l.length ∧ s6 = .bool a ∧ unseen n f + a.toNat ≤ gt ∧ Hid (f i = true) ∧ Hid (a = false → (∀ x, x < i → f x = true → Shut L out f (L.getD x [])) ∧ Shut L out f (l.take k)) ∧ Hid (Fill L out f) ∧ Hid (DW w wr n gB hd f) ∧ Hid (Nums B wr (.slice at_ l.length ct) l))
                    case atStart => exact ⟨0, f, a, rfl, by omega, rfl, hu, HFI, fun ha => ⟨HS.out ha, fun y hy => by simp at hy⟩, HF, HG, HTO⟩
                    case round =>
                      clear HG HF HS HFI hu HTO f a
                      obtain ⟨k, f, a, rfl, hk', rfl, hu, HFI, HS, HF, HG, HTO⟩ := hrel
                      cases gk with
                      | zero =>
                        have hlt : ¬ (k : Int) < (l.length : Int) := by omega
                        have HP : Hid (a = false → ∀ x, x < i + 1 → f x = true → Shut L out f (L.getD x [])) := by
                          intro ha x hx hf
                          by_cases e : x = i
                          · subst e
                            rw [HLX.out]
                            have h := (HS.out ha).2
                            rw [List.take_of_length_le (by omega)] at h
                            exact h
                          · exact (HS.out ha).1 x (by omega) hf
                        go_wp2_with fail
                        go_roundg gi
                        case measure => omega
                        case rel => exact ⟨i + 1, f, a, by go_num, by omega, rfl, hu, HP, HF, HG⟩
                      | succ gk2 =>
                        have hltK : (k : Int) < (l.length : Int) := by omega
                        have hy : l[k]? = some l[k] := List.getElem?_eq_getElem (by omega)
                        generalize l[k] = y at hy
                        obtain ⟨g3, o3, cs3, rfl, _, _, ⟨rfl, hy64⟩, hcl3⟩ := Lies.at HTO.out hy
                        have q6 := hcl3 0 (by decide)
                        simp at q6
                        have HTK : Hid (∀ z, z ∈ l.take (k + 1) ↔ z ∈ l.take k ∨ z = y) := by
                          intro z; rw [List.take_add_one, hy]; simp
                        have HMM : Hid (y ∈ l) := List.mem_of_getElem? hy
                        clear hcl3 hy
                        have HSK : Hid ((∀ z : Nat, (z : Int) = y → z < n → (z : Int) ≠ out → f z = true) → (a = false → (∀ x, x < i → f x = true → Shut L out f (L.getD x [])) ∧ Shut L out f (l.take (k + 1)))) := by
                          intro hz ha
                          refine ⟨(HS.out ha).1, fun z h1 h2 h3 => ?_⟩
                          rcases (HTK.out _).1 h1 with h | h
                          · exact (HS.out ha).2 z h h2 h3
                          · exact hz z h (by rw [← HLL.out]; exact h2) h3
                        by_cases c1 : y = out
                        · have HP : Hid (a = false → (∀ x, x < i → f x = true → Shut L out f (L.getD x [])) ∧ Shut L out f (l.take (k + 1))) := HSK.out fun z h1 _ h3 => absurd (h1.trans c1) h3
                          have c1' : ¬ y ≠ out := fun h => h c1
                          go_wp2_with fail
                          go_roundg gk2
                          case measure => omega
                          case rel => exact ⟨k + 1, f, a, by go_num, by omega, rfl, hu, HFI, HP, HF, HG, HTO⟩
                        · have HC1 : Hid (y ≠ out) := c1
                          have hb3 : (y != out) = true := by simpa using c1
                          by_cases c2 : 0 ≤ y ∧ y ≤ (n : Int) - 1
                          · obtain ⟨z, rfl⟩ : ∃ z : Nat, y = z := ⟨y.toNat, by omega⟩
                            have hzn : z < n := by omega
                            obtain ⟨r1, r2⟩ := HG.out.get hzn
                            have hd1 : decide ((0 : Int) ≤ (z : Int)) = true := by simp
                            have hd2 : decide ((z : Int) ≤ (n : Int) - 1) = true := by simpa using c2.2
                            rcases hfz : f z with _ | _
                            · rw [hfz] at r1
                              have HP : Hid (true = false → (∀ x, x < i → metAt f z x = true → Shut L out (metAt f z) (L.getD x [])) ∧ Shut L out (metAt f z) (l.take (k + 1))) := fun h => by cases h
                              have HG2 : Hid (DW w (wr.setCell ⟨gB, z, none⟩ (.bool true)) n gB hd (metAt f z)) := HG.out.put hzn
                              have HF2 : Hid (Fill L out (metAt f z)) := HF.out.more HFI.out (by rw [HLX.out]; exact HMM.out) (by rw [HLL.out]; exact hzn) HC1.out
                              have HFI2 : Hid (metAt f z i = true) := by
                                unfold Hid metAt; split
                                · rfl
                                · exact HFI.out
                              have hu2 : unseen n (metAt f z) + 1 ≤ gt := by have := unseen_met f hfz n hzn; omega
                              have HTO2 : Hid (Nums B (wr.setCell ⟨gB, z, none⟩ (.bool true)) (.slice (some ⟨g3, o3, none⟩) l.length ct) l) := Nums.below HTO.out (below_setAt (by have := HE.out; omega))
                              clear hfz
                              go_wp2_with fail
                              refine (in_one _ _ _ _).mono ?_
                              rintro e w1 ⟨rfl, hw1⟩
                              have hw1' := hw1.symm
                              subst hw1'
                              rw [hd1, hd2, Bool.and_self]
                              go_wp2_with fail
                              go_roundg gk2
                              case measure => omega
                              case rel => exact ⟨k + 1, _, true, by go_num, by omega, rfl, hu2, HFI2, HP, HF2, HG2, HTO2⟩
                            · rw [hfz] at r1
                              have HP : Hid (a = false → (∀ x, x < i → f x = true → Shut L out f (L.getD x [])) ∧ Shut L out f (l.take (k + 1))) := HSK.out fun z' h1 _ h3 => by
                                have : z' = z := by omega
                                subst this; exact hfz
                              clear hfz
                              go_wp2_with fail
                              refine (in_one _ _ _ _).mono ?_
                              rintro e w1 ⟨rfl, hw1⟩
                              have hw1' := hw1.symm
                              subst hw1'
                              rw [hd1, hd2, Bool.and_self]
                              go_wp2_with fail
                              go_roundg gk2
                              case measure => omega
                              case rel => exact ⟨k + 1, f, a, by go_num, by omega, rfl, hu, HFI, HP, HF, HG, HTO⟩
                          · have HP : Hid (a = false → (∀ x, x < i → f x = true → Shut L out f (L.getD x [])) ∧ Shut L out f (l.take (k + 1))) := HSK.out fun z h1 h2 _ => absurd ⟨by omega, by omega⟩ c2
                            have hd1 : (decide ((0 : Int) ≤ y) && decide (y ≤ (n : Int) - 1)) = false := by
                              rcases hd : (decide ((0 : Int) ≤ y) && decide (y ≤ (n : Int) - 1)) with _ | _
                              · rfl
                              · simp only [Bool.and_eq_true, decide_eq_true_eq] at hd; exact absurd hd c2
                            go_wp2_with fail
                            refine (in_one _ _ _ _).mono ?_
                            rintro e w1 ⟨rfl, hw1⟩
                            have hw1' := hw1.symm
                            subst hw1'
                            rw [hd1]
                            go_wp2_with fail
                            go_roundg gk2
                            case measure => omega
                            case rel => exact ⟨k + 1, f, a, by go_num, by omega, rfl, hu, HFI, HP, HF, HG, HTO⟩

end Go.Proofs.Ytjdedfgdofceeaa
