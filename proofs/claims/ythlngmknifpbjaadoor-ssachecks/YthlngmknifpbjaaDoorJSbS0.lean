/-
  Which block is above which, as a truth; a row of these.
-/
import Derived.Test.YthlngmknifpbjaaDoorJSbC
namespace Go.Proofs.YthlngmknifpbjaaDoor
section
open Go.RowKit
set_option linter.unusedSimpArgs false
set_option linter.unusedVariables false

theorem own_base {w : World} {base base' size n : Nat} {e : TypeId} {v : Value} {xs : List Value} (h : w.ownsRow base e size v n xs) (hb : base' ≤ base) : w.ownsRow base' e size v n xs := by
  refine ⟨h.1, ?_⟩
  rcases h.2 with h2 | ⟨g, cap, cur, h1, h2, h3⟩
  · exact .inl h2
  · exact .inr ⟨g, cap, cur, h1, Nat.le_trans hb h2, h3⟩
theorem below_setAt {B g i : Nat} {w : World} {u : Value} (h : B ≤ g) : Below B w (w.setCell ⟨g, i, none⟩ u) := by
  refine ⟨rfl, rfl, rfl, ?_, fun k hk => Below.heap_setCell _ _ _ _ (by show k ≠ g; omega)⟩
  simp [World.setCell]
theorem wy_none {pre : Nat → List Nat} {x : Nat} (h : Wy pre (fun y => ((y : Nat) : Int) = 0) x) : False := by
  induction h with
  | start h => exact h rfl
  | step _ _ _ ih => exact ih

set_option maxHeartbeats 4000000 in
set_option maxRecDepth 20000 in
theorem doneWithout_any (c : Cod) (vb : Value) (out : Int) (B : Nat) (w : World) (hB : B ≤ w.heap.size) (hb : Blks B w vb c.blocks) (hsz : c.blocks.length * 24 ≤ 140737488351232) :
    Calls Tryd.prog 24 #[.agg #[.string ⟨c.name.toArray⟩, .int .i64 c.params, .int .i64 c.results, .int .i64 c.vars, .int .i64 c.slots, vb], .int .i64 out] w fun e w' =>
      ∃ v f, e = .returned v ∧ w'.ownsRow w.heap.size 4 1 v c.blocks.length (bools c.blocks.length f) ∧ (∀ x, x < c.blocks.length → (f x = true ↔ Wy (preL (c.blocks.map leadsL)) (fun y => (y : Int) = out) x)) ∧ Below w.heap.size w w' := by
  obtain ⟨a3, k3, rfl⟩ := Lies.slice hb
  have HBK : Hid (Blks B w (.slice a3 c.blocks.length k3) c.blocks) := hb
  obtain ⟨bs, hbs⟩ : ∃ bs, bs = c.blocks := ⟨_, rfl⟩
  rw [← hbs] at hsz HBK ⊢
  obtain ⟨n, hn⟩ : ∃ n, n = bs.length := ⟨_, rfl⟩
  rw [← hn] at hsz HBK ⊢
  have HN : Hid (n = bs.length) := hn
  obtain ⟨L, hL⟩ : ∃ L, L = bs.map leadsL := ⟨_, rfl⟩
  rw [← hL]
  have HLL : Hid (L.length = n) := by unfold Hid; rw [hL, List.length_map, hn]
  have HLD : Hid (∀ i b, bs[i]? = some b → L.getD i [] = leadsL b) := by unfold Hid; intro i b h; rw [hL, List.getD_eq_getElem?_getD, List.getElem?_map, h]; rfl
  obtain ⟨W, hW⟩ : ∃ W, W = w.alloc (.cells #[.string ⟨c.name.toArray⟩, .int .i64 c.params, .int .i64 c.results, .int .i64 c.vars, .int .i64 c.slots, .slice a3 n k3] 28) := ⟨_, rfl⟩
  have HW : Hid (Below w.heap.size w W) := by rw [hW]; exact below_alloc _ _
  have hWs : W.heap.size = w.heap.size + 1 := by rw [hW]; simp
  obtain ⟨hd, hhd⟩ : ∃ hd : Array Value, hd = #[.string ⟨c.name.toArray⟩, .int .i64 c.params, .int .i64 c.results, .int .i64 c.vars, .int .i64 c.slots, .slice a3 n k3] := ⟨_, rfl⟩
  have HHD : Hid (hd = _) := hhd
  have HC1 : Hid (W.heap[w.heap.size]? = some (.cells hd 28)) := by rw [hhd, hW]; exact heap_alloc_new w _
  have HWS : Hid (W = _) := hW
  obtain ⟨i0, hi0, hz0, hz1, hzb⟩ := infoParts infoBool
  clear hb hbs hn hW hhd hL
  go_enter Tryd.func24, Tryd.ntmps24
  go_wp2_with (at_make; rw [← HWS.out]; refine wpList_make_full _ rfl _ _ _ rfl W.heap.size 4 i0 _ 1 Tryd.underlying53 hi0 hz0 hz1 .i64 .i64 _ _ n (by rfl) (by rfl) rfl rfl (by rw [hzb]; omega) (by unfold maxLen; omega) (Nat.le_refl _) ?_)
  intro w0 hown hgrow
  have hex : ∃ gB, gB = w.heap.size + 1 ∧ DW w w0 n gB hd (fun _ => false) := by
    have hb0 : Below W.heap.size W w0 := (Below.refl _ _).grown hgrow (Nat.le_refl _) (fun k hk => by cases hk)
    have h1 : (madeCells #[Value.bool false] n).toList = List.replicate n (.bool false) := toList_madeCells_one _ _
    rw [h1, ← bools_none] at hown
    exact ⟨_, rfl, hown, (hb0.block _ (lt_of_block HC1.out)).trans HC1.out, HW.out.trans (hb0.mono HW.out.size)⟩
  obtain ⟨gB, e1, hG0⟩ := hex
  have p0 := cells6 (w := w0) (x := w.heap.size) (by have := hG0.blk; rw [HHD.out] at this; exact this)
  have HG0 : Hid (_) := hG0
  rw [← e1]
  have HE : Hid (gB = w.heap.size + 1) := e1
  clear hown hgrow HW HC1 HWS e1 hG0
  by_cases ho : out = 0
  · subst ho
    go_wp2_with fail
    go_ret
    exact ⟨_, _, rfl, own_base HG0.out.row (by omega), fun x _ => ⟨fun h => (by cases h), fun h => (wy_none h).elim⟩, HG0.out.bel⟩
  · have HO : Hid (out ≠ 0) := ho
    by_cases hn0 : n = 0
    · subst hn0
      have hz : ((0 : Nat) : Int) = 0 := rfl
      go_wp2_with fail
      go_ret
      exact ⟨_, _, rfl, own_base HG0.out.row (by omega), fun x hx => by omega, HG0.out.bel⟩
    · have hn1 : ¬ (n : Int) = 0 := by omega
      have hn2 : (0 : Int) < (n : Int) := by omega
      have hb1 : (out == 0) = false := by simpa using ho
      have hb2 : ((n : Int) == 0) = false := by simpa using hn0
      obtain ⟨q1, q2⟩ := HG0.out.get (i := 0) (by omega)
      have HG1 : Hid (DW w (w0.setCell ⟨gB, 0, none⟩ (.bool true)) n gB hd (metAt (fun _ => false) 0)) := HG0.out.put (by omega)
      have HF1 : Hid (Fill L out (metAt (fun _ => false) 0)) := Fill.start HO.out (by rw [HLL.out]; omega)
      go_wp2_with fail
      clear p0 q1 q2
      go_loopg [6] (n + 1) (fun g s6 wr => ∃ (f : Nat → Bool) (a : Bool), s6 = .bool a ∧ unseen n f + a.toNat ≤ g ∧ Hid (a = false → ∀ x, x < n → f x = true → Shut L out f (L.getD x [])) ∧ Hid (Fill L out f) ∧ Hid (DW w wr n gB hd f))
      case atStart => exact ⟨_, true, rfl, by have := unseen_le (metAt (fun _ => false) 0) n; simp; omega, fun h => (by cases h), HF1, HG1⟩
      case round =>
        clear HG1 HF1
        obtain ⟨f, a, rfl, hu, HS, HF, HG⟩ := hrel
        have p := cells6 (w := wr) (x := w.heap.size) (by have := HG.out.blk; rw [HHD.out] at this; exact this)
        cases a with
        | false =>
          have HR : Hid (∀ x, x < n → (f x = true ↔ Wy (preL L) (fun y => (y : Int) = out) x)) := fun x _ => HF.out.end (by rw [HLL.out]; exact HS.out rfl) x
          go_wp2_with fail
          go_ret
          exact ⟨_, rfl, f, own_base HG.out.row (by omega), HR.out, HG.out.bel⟩
        | true =>
          cases gk with
          | zero => simp at hu
          | succ gt =>
            have hu1 : unseen n f ≤ gt := by simp at hu; omega
            clear hu
            go_wp2_with fail
            clear p
            go_loopg [6, 7] n (fun g s6 s7 wr => ∃ (i : Nat) (f : Nat → Bool) (a : Bool), s7 = .int .i64 (i : Nat) ∧ i + g = n ∧ s6 = .bool a ∧ unseen n f + a.toNat ≤ gt ∧ Hid (a = false → ∀ x, x < i → f x = true → Shut L out f (L.getD x [])) ∧ Hid (Fill L out f) ∧ Hid (DW w wr n gB hd f))
            case atStart => exact ⟨0, f, false, rfl, by omega, rfl, by simpa using hu1, fun _ x hx => by omega, HF, HG⟩
            case round =>
              clear HG HF HS hu1 f
              obtain ⟨i, f, a, rfl, hi', rfl, hu, HS, HF, HG⟩ := hrel
              have p := cells6 (w := wr) (x := w.heap.size) (by have := HG.out.blk; rw [HHD.out] at this; exact this)
              cases gk with
              | zero =>
                have hlt : ¬ (i : Int) < (n : Int) := by omega
                have HS2 : Hid (a = false → ∀ x, x < n → f x = true → Shut L out f (L.getD x [])) := by
                  have e : i = n := by omega
                  rw [← e]; exact HS.out
                go_wp2_with fail
                go_roundg gt
                case measure => omega
                case rel => exact ⟨f, a, rfl, hu, HS2, HF, HG⟩
              | succ gi =>
                have hltI : (i : Int) < (n : Int) := by omega
                have hin : i < n := by omega
                have hget : bs[i]? = some bs[i] := List.getElem?_eq_getElem (by have := HN.out; omega)
                generalize bs[i] = b at hget
                obtain ⟨q1, q2⟩ := HG.out.get hin
                rcases hfi : f i with _ | _
                · rw [hfi] at q1
                  have HP : Hid (a = false → ∀ x, x < i + 1 → f x = true → Shut L out f (L.getD x [])) := by
                    intro ha x hx hf
                    by_cases e : x = i
                    · subst e; rw [hfi] at hf; cases hf
                    · exact HS.out ha x (by omega) hf
                  clear hget hfi
                  go_wp2_with fail
                  go_roundg gi
                  case measure => omega
                  case rel => exact ⟨i + 1, f, a, by go_num, by omega, rfl, hu, HP, HF, HG⟩
                · rw [hfi] at q1
                  have HFI : Hid (f i = true) := hfi
                  have HLB : Hid (L.getD i [] = leadsL b) := HLD.out i b hget
                  obtain ⟨gb, ob, cs, rfl, _, _, ⟨vk, rfl, hvk⟩, hcl⟩ := Lies.at (HBK.out.below (HG.out.bel.mono hB)) hget
                  obtain ⟨ak, ck, rfl⟩ := Lies.slice hvk
                  have q0 := hcl 0 (by decide)
                  simp at q0
                  have hbl := hvk.len
                  unfold maxLen at hbl
                  have HVK : Hid (_) := hvk
                  clear hcl hget hvk hfi
                  obtain ⟨m, hm⟩ : ∃ m, m = b.length := ⟨_, rfl⟩
                  rw [← hm] at HVK q0 hbl
                  have HM : Hid (m = b.length) := hm
                  clear hm
                  rcases Nat.eq_zero_or_pos m with hm0 | hm0
                  · subst hm0
                    have HP : Hid (a = false → ∀ x, x < i + 1 → f x = true → Shut L out f (L.getD x [])) := by
                      intro ha x hx hf
                      by_cases e : x = i
                      · subst e
                        rw [HLB.out]
                        have : b = [] := List.eq_nil_of_length_eq_zero HM.out.symm
                        subst this
                        intro y hy; cases hy
                      · exact HS.out ha x (by omega) hf
                    go_wp2_with fail
                    go_loopg [6, 10] 0 (fun g s6 s10 wr' => s6 = .bool a ∧ s10 = .int .i64 0 ∧ wr' = wr)
                    case atStart => exact ⟨rfl, rfl, rfl⟩
                    case round =>
                      obtain ⟨rfl, rfl, rfl⟩ := hrel
                      go_wp2_with fail
                      go_roundg gi
                      case measure => omega
                      case rel => exact ⟨i + 1, f, a, by go_num, by omega, rfl, hu, HP, HF, HG⟩
                  · obtain ⟨x, hx⟩ : ∃ x, b[m - 1]? = some x := ⟨_, List.getElem?_eq_getElem (by have := HM.out; omega)⟩
                    obtain ⟨g2, o2, cs2, rfl, hg2B, _, ⟨vd, va, vt, rfl, _, _, hto, _⟩, hcl2⟩ := Lies.at HVK.out hx
                    obtain ⟨at_, ct, rfl⟩ := Lies.slice hto
                    have q5 := hcl2 5 (by decide)
                    have hto2 := hto.len
                    unfold maxLen at hto2
                    have HTO : Hid (Nums B wr (.slice at_ x.to.length ct) x.to) := hto
                    have HLX : Hid (L.getD i [] = x.to) := by
                      unfold Hid
                      rw [HLB.out]
                      have : b.getLast? = some x := by rw [List.getLast?_eq_getElem?, ← HM.out]; exact hx
                      unfold leadsL
                      rw [this]
                    obtain ⟨l, hl⟩ : ∃ l, l = x.to := ⟨_, rfl⟩
                    rw [← hl] at HTO HLX hto2 q5
                    have hm1 : (0 : Int) < (m : Int) := by omega
                    obtain ⟨m1, hm1e⟩ : ∃ m1, m = m1 + 1 := ⟨m - 1, by omega⟩
                    subst hm1e
                    simp at q5
                    clear hcl2 hto hl hx
                    obtain ⟨wo, hwo⟩ : ∃ wo, wo = wr := ⟨_, rfl⟩
                    subst hwo
                    go_wp2_with fail
                    clear p q0 q1 q2 q5
                    go_loopg [6, 10] l.length (fun g s6 s10 wr => ∃ (k : Nat) (f : Nat → Bool) (a : Bool), s10 = .int .i64 (k : Nat) ∧ k + g = l.length ∧ s6 = .bool a ∧ unseen n f + a.toNat ≤ gt ∧ Hid (f i = true) ∧ Hid (a = false → (∀ x, x < i → f x = true → Shut L out f (L.getD x [])) ∧ Shut L out f (l.take k)) ∧ Hid (Fill L out f) ∧ Hid (DW w wr n gB hd f) ∧ Hid (Nums B wr (.slice at_ l.length ct) l))
                    case atStart => exact ⟨0, f, a, rfl, by omega, rfl, hu, HFI, fun ha => ⟨HS.out ha, fun y hy => by simp at hy⟩, HF, HG, HTO⟩
                    case round =>
                      clear HG HF HS HFI hu HTO f a
                      obtain ⟨k, f, a, rfl, hk', rfl, hu, HFI, HS, HF, HG, HTO⟩ := hrel
                      cases gk with
                      | zero =>
                        have hlt : ¬ (k : Int) < (l.length : Int) := by omega
                        have HP : Hid (a = false → ∀ x, x < i + 1 → f x = true → Shut L out f (L.getD x [])) := by
                          intro ha x hx hf
                          by_cases e : x = i
                          · subst e
                            rw [HLX.out]
                            have h := (HS.out ha).2
                            rw [List.take_of_length_le (by omega)] at h
                            exact h
                          · exact (HS.out ha).1 x (by omega) hf
                        go_wp2_with fail
                        go_roundg gi
                        case measure => omega
                        case rel => exact ⟨i + 1, f, a, by go_num, by omega, rfl, hu, HP, HF, HG⟩
                      | succ gk2 =>
                        have hltK : (k : Int) < (l.length : Int) := by omega
                        have hy : l[k]? = some l[k] := List.getElem?_eq_getElem (by omega)
                        generalize l[k] = y at hy
                        obtain ⟨g3, o3, cs3, rfl, _, _, ⟨rfl, hy64⟩, hcl3⟩ := Lies.at HTO.out hy
                        have q6 := hcl3 0 (by decide)
                        simp at q6
                        have HTK : Hid (∀ z, z ∈ l.take (k + 1) ↔ z ∈ l.take k ∨ z = y) := by
                          intro z; rw [List.take_add_one, hy]; simp
                        have HMM : Hid (y ∈ l) := List.mem_of_getElem? hy
                        clear hcl3 hy
                        have HSK : Hid ((∀ z : Nat, (z : Int) = y → z < n → (z : Int) ≠ out → f z = true) → (a = false → (∀ x, x < i → f x = true → Shut L out f (L.getD x [])) ∧ Shut L out f (l.take (k + 1)))) := by
                          intro hz ha
                          refine ⟨(HS.out ha).1, fun z h1 h2 h3 => ?_⟩
                          rcases (HTK.out _).1 h1 with h | h
                          · exact (HS.out ha).2 z h h2 h3
                          · exact hz z h (by rw [← HLL.out]; exact h2) h3
                        by_cases c1 : y = out
                        · have HP : Hid (a = false → (∀ x, x < i → f x = true → Shut L out f (L.getD x [])) ∧ Shut L out f (l.take (k + 1))) := HSK.out fun z h1 _ h3 => absurd (h1.trans c1) h3
                          have c1' : ¬ y ≠ out := fun h => h c1
                          go_wp2_with fail
                          go_roundg gk2
                          case measure => omega
                          case rel => exact ⟨k + 1, f, a, by go_num, by omega, rfl, hu, HFI, HP, HF, HG, HTO⟩
                        · have HC1 : Hid (y ≠ out) := c1
                          have hb3 : (y != out) = true := by simpa using c1
                          by_cases c2 : 0 ≤ y ∧ y ≤ (n : Int) - 1
                          · obtain ⟨z, rfl⟩ : ∃ z : Nat, y = z := ⟨y.toNat, by omega⟩
                            have hzn : z < n := by omega
                            obtain ⟨r1, r2⟩ := HG.out.get hzn
                            have hd1 : decide ((0 : Int) ≤ (z : Int)) = true := by simp
                            have hd2 : decide ((z : Int) ≤ (n : Int) - 1) = true := by simpa using c2.2
                            rcases hfz : f z with _ | _
                            · rw [hfz] at r1
                              have HP : Hid (true = false → (∀ x, x < i → metAt f z x = true → Shut L out (metAt f z) (L.getD x [])) ∧ Shut L out (metAt f z) (l.take (k + 1))) := fun h => by cases h
                              have HG2 : Hid (DW w (wr.setCell ⟨gB, z, none⟩ (.bool true)) n gB hd (metAt f z)) := HG.out.put hzn
                              have HF2 : Hid (Fill L out (metAt f z)) := HF.out.more HFI.out (by rw [HLX.out]; exact HMM.out) (by rw [HLL.out]; exact hzn) HC1.out
                              have HFI2 : Hid (metAt f z i = true) := by
                                unfold Hid metAt; split
                                · rfl
                                · exact HFI.out
                              have hu2 : unseen n (metAt f z) + 1 ≤ gt := by have := unseen_met f hfz n hzn; omega
                              have HTO2 : Hid (Nums B (wr.setCell ⟨gB, z, none⟩ (.bool true)) (.slice (some ⟨g3, o3, none⟩) l.length ct) l) := Nums.below HTO.out (below_setAt (by have := HE.out; omega))
                              clear hfz
                              go_wp2_with fail
                              refine (in_one _ _ _ _).mono ?_
                              rintro e w1 ⟨rfl, hw1⟩
                              have hw1' := hw1.symm
                              subst hw1'
                              rw [hd1, hd2, Bool.and_self]
                              go_wp2_with fail
                              go_roundg gk2
                              case measure => omega
                              case rel => exact ⟨k + 1, _, true, by go_num, by omega, rfl, hu2, HFI2, HP, HF2, HG2, HTO2⟩
                            · rw [hfz] at r1
                              have HP : Hid (a = false → (∀ x, x < i → f x = true → Shut L out f (L.getD x [])) ∧ Shut L out f (l.take (k + 1))) := HSK.out fun z' h1 _ h3 => by
                                have : z' = z := by omega
                                subst this; exact hfz
                              clear hfz
                              go_wp2_with fail
                              refine (in_one _ _ _ _).mono ?_
                              rintro e w1 ⟨rfl, hw1⟩
                              have hw1' := hw1.symm
                              subst hw1'
                              rw [hd1, hd2, Bool.and_self]
                              go_wp2_with fail
                              go_roundg gk2
                              case measure => omega
                              case rel => exact ⟨k + 1, f, a, by go_num, by omega, rfl, hu, HFI, HP, HF, HG, HTO⟩
                          · have HP : Hid (a = false → (∀ x, x < i → f x = true → Shut L out f (L.getD x [])) ∧ Shut L out f (l.take (k + 1))) := HSK.out fun z h1 h2 _ => absurd ⟨by omega, by omega⟩ c2
                            have hd1 : (decide ((0 : Int) ≤ y) && decide (y ≤ (n : Int) - 1)) = false := by
                              rcases hd : (decide ((0 : Int) ≤ y) && decide (y ≤ (n : Int) - 1)) with _ | _
                              · rfl
                              · simp only [Bool.and_eq_true, decide_eq_true_eq] at hd; exact absurd hd c2
                            go_wp2_with fail
                            refine (in_one _ _ _ _).mono ?_
                            rintro e w1 ⟨rfl, hw1⟩
                            have hw1' := hw1.symm
                            subst hw1'
                            rw [hd1]
                            go_wp2_with fail
                            go_roundg gk2
                            case measure => omega
                            case rel => exact ⟨k + 1, f, a, by go_num, by omega, rfl, hu, HFI, HP, HF, HG, HTO⟩
end

section
open Go.RowKit
set_option linter.unusedSimpArgs false
set_option linter.unusedVariables false

/-- those of the first m blocks that are above block j -/
def rowD (dm : Nat → Nat → Bool) (j m : Nat) : List Int := ((List.range m).filter (fun k => dm k j)).map fun i => ((i : Nat) : Int)
theorem rowD_succ (dm : Nat → Nat → Bool) (j m : Nat) : rowD dm j (m + 1) = if dm m j then rowD dm j m ++ [(m : Int)] else rowD dm j m := by
  unfold rowD
  rw [List.range_succ, List.filter_append, List.map_append]
  by_cases h : dm m j = true
  · simp [h]
  · simp [h]
theorem rowD_len (dm : Nat → Nat → Bool) (j m : Nat) : (rowD dm j m).length ≤ m := by
  unfold rowD
  rw [List.length_map]
  exact Nat.le_trans (List.length_filter_le _ _) (by simp)
theorem rowD_mem {dm : Nat → Nat → Bool} {j m : Nat} {y : Int} (h : y ∈ rowD dm j m) : 0 ≤ y ∧ y < m := by
  unfold rowD at h
  obtain ⟨i, hi, rfl⟩ := List.mem_map.1 h
  have := List.mem_range.1 (List.mem_filter.1 hi).1
  omega
/-- list j when the look is at block i without block k -/
def stD (dm : Nat → Nat → Bool) (k i : Nat) : Nat → List Int := fun j => if j < i then rowD dm j (k + 1) else rowD dm j k
theorem stD_zero (dm : Nat → Nat → Bool) : stD dm 0 0 = fun _ => [] := by funext j; simp [stD, rowD]
theorem stD_here (dm : Nat → Nat → Bool) (k i : Nat) : stD dm k i i = rowD dm i k := by simp [stD]
theorem stD_next {dm : Nat → Nat → Bool} {k n j : Nat} (h : j < n) : stD dm k n j = stD dm (k + 1) 0 j := by simp [stD, h]
theorem stD_dead {dm : Nat → Nat → Bool} {k j : Nat} (h : dm k j = false) : stD dm k 0 j = stD dm (k + 1) 0 j := by simp [stD, rowD_succ, h]
theorem stD_skip {dm : Nat → Nat → Bool} {k i : Nat} (h : dm k i = false) : stD dm k i = stD dm k (i + 1) := by
  funext j
  unfold stD
  by_cases h1 : j < i
  · rw [if_pos h1, if_pos (by omega)]
  · by_cases h2 : j = i
    · subst h2; rw [if_neg h1, if_pos (by omega), rowD_succ, h]; simp
    · rw [if_neg h1, if_neg (by omega)]
theorem stD_push {dm : Nat → Nat → Bool} {k i : Nat} (h : dm k i = true) : upd (stD dm k i) i (stD dm k i i ++ [(k : Int)]) = stD dm k (i + 1) := by
  funext j
  by_cases e : j = i
  · subst e; rw [upd_same, stD_here]; unfold stD; rw [if_pos (by omega), rowD_succ, if_pos h]
  · rw [upd_other _ _ e]
    unfold stD
    by_cases h1 : j < i
    · rw [if_pos h1, if_pos (by omega)]
    · rw [if_neg h1, if_neg (by omega)]

/-- a row of truths beside the lists that are made -/
structure Kp (wr : World) (gB n : Nat) (vs : List Value) (v : Value) (f : Nat → Bool) : Prop where
  row : wr.ownsRow 0 4 1 v n (bools n f)
  main : ∀ g, v.ownBlock = some g → g ≠ gB
  each : ∀ (g i : Nat) (u : Value), v.ownBlock = some g → vs[i]? = some u → u.ownBlock ≠ some g
theorem Kp.keep {wr w' : World} {gB n : Nat} {vs : List Value} {v : Value} {f : Nat → Bool} (h : Kp wr gB n vs v f) (k : Below wr.heap.size wr w') : Kp w' gB n vs v f :=
  ⟨own_same h.row fun g hg => k.block g (own_lt h.row hg).2, h.main, h.each⟩
theorem Kp.push {wr w1 : World} {gB n i : Nat} {vs : List Value} {v u u' : Value} {f : Nat → Bool} (h : Kp wr gB n vs v f) (hu : vs[i]? = some u)
    (hg : wr.grownBy w1 u.ownBlock) (hat : u'.ownBlock = u.ownBlock ∨ u'.ownBlock = some wr.heap.size) : Kp (w1.setCell ⟨gB, i, none⟩ u') gB n (vs.set i u') v f := by
  refine ⟨own_same h.row fun g hgg => ?_, h.main, fun g j y hgg hy e => ?_⟩
  · rw [Below.heap_setCell _ _ _ _ (h.main g hgg)]
    exact hg.block g (own_lt h.row hgg).2 fun e => h.each g i u hgg hu e.symm
  · by_cases hji : j = i
    · subst hji
      rw [List.getElem?_set_self (List.getElem?_eq_some_iff.1 hu).1] at hy
      cases hy
      rcases hat with e2 | e2
      · exact h.each g j u hgg hu (by rw [← e2]; exact e)
      · have := (own_lt h.row hgg).2
        rw [e2] at e
        have : wr.heap.size = g := by simpa using e
        omega
    · rw [List.getElem?_set_ne (fun e => hji e.symm)] at hy
      exact h.each g j y hgg hy e
theorem Kp.get {wr : World} {gB n i : Nat} {vs : List Value} {v : Value} {f : Nat → Bool} (h : Kp wr gB n vs v f) (hi : i < n) : ∃ g c, v = .slice (some ⟨g, 0, none⟩) n c ∧ wr.cell? ⟨g, i, none⟩ = some (.bool (f i)) := by
  obtain ⟨g, c, he, _, _, _, _, _, hat⟩ := own_at h.row (by omega)
  exact ⟨g, c, he, hat i _ (bools_get f hi)⟩

/-- what the loops keep -/
structure AB (w wr : World) (n gB : Nat) (hd : Array Value) (vs : List Value) (f : Nat → List Int) : Prop where
  grid : Grid wr (w.heap.size + 1) n (.slice (some ⟨gB, 0, none⟩) n n) vs f
  blk : wr.heap[w.heap.size]? = some (.cells hd 28)
  bel : Below w.heap.size w wr
theorem AB.keep {w wr w' : World} {n gB : Nat} {hd : Array Value} {vs : List Value} {f : Nat → List Int} (h : AB w wr n gB hd vs f) (k : Below wr.heap.size wr w') : AB w w' n gB hd vs f :=
  ⟨h.grid.keep k, (k.block _ (lt_of_block h.blk)).trans h.blk, h.bel.trans (k.mono h.bel.size)⟩
theorem AB.push {w wr w1 : World} {n i gB : Nat} {hd : Array Value} {vs : List Value} {f : Nat → List Int} {u u' : Value} {x : Int} (h : AB w wr n gB hd vs f) (hi : i < n) (hu : vs[i]? = some u)
    (hg : wr.grownBy w1 u.ownBlock) (hat : u'.ownBlock = u.ownBlock ∨ u'.ownBlock = some wr.heap.size) (ho : w1.ownsRow (w.heap.size + 1) 3 1 u' ((f i).length + 1) (numsL (f i) ++ [numV x])) :
    AB w (w1.setCell ⟨gB, i, none⟩ u') n gB hd (vs.set i u') (upd f i (f i ++ [x])) := by
  obtain ⟨h1, h2⟩ := h.grid.push hi hu hg hat ho
  have h3 := h2 (w.heap.size + 1) (Nat.le_refl _) (by have := lt_of_block h.blk; omega)
  exact ⟨h1, (h3.block _ (by omega)).trans h.blk, h.bel.trans (h3.mono (by omega))⟩
theorem AB.new {w wr w' : World} {n gB : Nat} {hd : Array Value} {vs : List Value} {f : Nat → List Int} {v : Value} {g : Nat → Bool} (h : AB w wr n gB hd vs f) (ho : w'.ownsRow wr.heap.size 4 1 v n (bools n g)) : Kp w' gB n vs v g := by
  refine ⟨own_base ho (Nat.zero_le _), fun k hk e => ?_, fun k i u hk hu e => ?_⟩
  · subst e
    have := (own_lt ho hk).1
    have := (own_lt h.grid.row (g := k) rfl).2
    omega
  · have hi : i < n := by have := (List.getElem?_eq_some_iff.1 hu).1; rw [h.grid.len] at this; exact this
    have := (own_lt (h.grid.each i u hi hu) e).2
    have := (own_lt ho hk).1
    omega
theorem AB.congr {w wr : World} {n gB : Nat} {hd : Array Value} {vs : List Value} {f f' : Nat → List Int} (h : AB w wr n gB hd vs f) (e : ∀ i, i < n → f i = f' i) : AB w wr n gB hd vs f' := ⟨h.grid.congr e, h.blk, h.bel⟩
end

section
open Go.RowKit
set_option linter.unusedSimpArgs false
set_option linter.unusedVariables false

set_option maxHeartbeats 4000000 in
set_option maxRecDepth 20000 in
theorem aboveOf_any (c : Cod) (vb : Value) (B : Nat) (w : World) (hB : B ≤ w.heap.size) (hb : Blks B w vb c.blocks) (hsz : c.blocks.length * 24 ≤ 140737488351232) (dm : Nat → Nat → Bool)
    (hdm : ∀ k i, dm k i = true ↔ Rch (preL (c.blocks.map leadsL)) k ∧ Rch (preL (c.blocks.map leadsL)) i ∧ Dom (preL (c.blocks.map leadsL)) k i) :
    Calls Tryd.prog 11 #[.agg #[.string ⟨c.name.toArray⟩, .int .i64 c.params, .int .i64 c.results, .int .i64 c.vars, .int .i64 c.slots, vb]] w fun e w' =>
      ∃ v, e = .returned v ∧ Rws w'.heap.size w' v ((List.range c.blocks.length).map fun j => rowD dm j c.blocks.length) ∧ Below w.heap.size w w' := by
  obtain ⟨a3, k3, rfl⟩ := Lies.slice hb
  obtain ⟨n, hn⟩ : ∃ n, n = c.blocks.length := ⟨_, rfl⟩
  obtain ⟨L, hL⟩ : ∃ L, L = c.blocks.map leadsL := ⟨_, rfl⟩
  rw [← hL] at hdm
  have HDM : Hid (_) := hdm
  have HDW : Hid (∀ (out : Int) (W : World), Below w.heap.size w W → Calls Tryd.prog 24 #[.agg #[.string ⟨c.name.toArray⟩, .int .i64 c.params, .int .i64 c.results, .int .i64 c.vars, .int .i64 c.slots, .slice a3 n k3], .int .i64 out] W fun e w' =>
      ∃ v f, e = .returned v ∧ w'.ownsRow W.heap.size 4 1 v n (bools n f) ∧ (∀ x, x < n → (f x = true ↔ Wy (preL L) (fun y => (y : Int) = out) x)) ∧ Below W.heap.size W w') := by
    intro out W hW
    rw [hn, hL]
    exact doneWithout_any c _ out B W (Nat.le_trans hB hW.size) (hb.below (hW.mono hB)) hsz
  rw [← hn] at hsz ⊢
  obtain ⟨W, hW⟩ : ∃ W, W = w.alloc (.cells #[.string ⟨c.name.toArray⟩, .int .i64 c.params, .int .i64 c.results, .int .i64 c.vars, .int .i64 c.slots, .slice a3 n k3] 28) := ⟨_, rfl⟩
  have HW : Hid (Below w.heap.size w W) := by rw [hW]; exact below_alloc _ _
  have hWs : W.heap.size = w.heap.size + 1 := by rw [hW]; simp
  obtain ⟨hd, hhd⟩ : ∃ hd : Array Value, hd = #[.string ⟨c.name.toArray⟩, .int .i64 c.params, .int .i64 c.results, .int .i64 c.vars, .int .i64 c.slots, .slice a3 n k3] := ⟨_, rfl⟩
  have HHD : Hid (hd = _) := hhd
  have HC1 : Hid (W.heap[w.heap.size]? = some (.cells hd 28)) := by rw [hhd, hW]; exact heap_alloc_new w _
  have HWS : Hid (W = _) := hW
  obtain ⟨i0, hi0, hz0, hz1, hzb⟩ := infoParts infoInts
  obtain ⟨i1, hi1, hy0, hy1, hyb⟩ := infoParts infoInt
  clear hb hn hW hhd hL hdm
  go_enter Tryd.func11, Tryd.ntmps11
  go_wp2_with (at_make; rw [← HWS.out]; refine wpList_make_full _ rfl _ _ _ rfl W.heap.size 23 i0 _ 1 Tryd.underlying34 hi0 hz0 hz1 .i64 .i64 _ _ n (by rfl) (by rfl) rfl rfl (by rw [hzb]; omega) (by unfold maxLen; omega) (Nat.le_refl _) ?_)
  intro w0 hown hgrow
  have hex : ∃ gB vs, gB = w.heap.size + 1 ∧ AB w w0 n gB hd vs (stD dm 0 0) := by
    refine ⟨_, List.replicate n (.slice none 0 0), rfl, ?_⟩
    rw [stD_zero]
    have hb0 : Below W.heap.size W w0 := (Below.refl _ _).grown hgrow (Nat.le_refl _) (fun k hk => by cases hk)
    exact ⟨Grid.made (by rw [Nat.mul_one]; exact hown), (hb0.block _ (lt_of_block HC1.out)).trans HC1.out, HW.out.trans (hb0.mono HW.out.size)⟩
  obtain ⟨gB, vs0, e1, hG0⟩ := hex
  have p0 := cells6 (w := w0) (x := w.heap.size) (by have := hG0.blk; rw [HHD.out] at this; exact this)
  have HG0 : Hid (_) := hG0
  rw [← e1]
  have HE : Hid (gB = w.heap.size + 1) := e1
  clear hown hgrow HW HC1 HWS e1 hG0
  go_wp2_with fail
  refine (HDW.out _ _ HG0.out.bel).mono ?_
  rintro e w1 ⟨vl, fl, rfl, hol, hfl, hbl⟩
  have HFL : Hid (∀ x, x < n → (fl x = true ↔ Rch (preL L) x)) := fun x hx => (hfl x hx).trans ⟨fun h => h.rch, fun h => h.mono fun y hy => by have hy : (y : Int) = -1 := hy; omega⟩
  have HG1 : Hid (AB w w1 n gB hd vs0 (stD dm 0 0)) := HG0.out.keep hbl
  have HK1 : Hid (Kp w1 gB n vs0 vl fl) := HG0.out.new hol
  obtain ⟨al, cl, rfl⟩ := own_slice hol
  clear hol hfl hbl HG0 p0
  go_wp2_with fail
  go_loopg [5] n (fun g s5 wr => ∃ (k : Nat) (vs : List Value), s5 = .int .i64 (k : Nat) ∧ k + g = n ∧ Hid (AB w wr n gB hd vs (stD dm k 0)) ∧ Hid (Kp wr gB n vs (.slice al n cl) fl))
  case atStart => exact ⟨0, vs0, rfl, by omega, HG1, HK1⟩
  case round =>
    clear HG1 HK1
    obtain ⟨k, vs, rfl, hk', HG, HK⟩ := hrel
    have p := cells6 (w := wr) (x := w.heap.size) (by have := HG.out.blk; rw [HHD.out] at this; exact this)
    cases gk with
    | zero =>
      have hlt : ¬ (k : Int) < (n : Int) := by omega
      have HF : Hid (Rws wr.heap.size wr (.slice (some ⟨gB, 0, none⟩) n n) ((List.range n).map fun j => rowD dm j n)) := by
        have h1 : (List.range n).map (stD dm k 0) = (List.range n).map fun j => rowD dm j n := by
          refine List.map_congr_left fun j hj => ?_
          have e : k = n := by omega
          subst e
          simp [stD]
        unfold Hid
        rw [← h1]
        refine HG.out.grid.rws fun j hj y hy => ?_
        have : y ∈ rowD dm j k := by simpa [stD] using hy
        have := rowD_mem this
        unfold I64
        omega
      go_wp2_with fail
      go_ret
      exact ⟨_, rfl, HF.out, HG.out.bel⟩
    | succ gt =>
      have hltT : (k : Int) < (n : Int) := by omega
      have hkn : k < n := by omega
      obtain ⟨gl, cl', he, q1⟩ := HK.out.get hkn
      cases he
      rcases hlk : fl k with _ | _
      · rw [hlk] at q1
        have HP : Hid (AB w wr n gB hd vs (stD dm (k + 1) 0)) := HG.out.congr fun j hj => stD_dead (by
          rcases hd2 : dm k j with _ | _
          · rfl
          · have := (HFL.out k hkn).2 ((HDM.out k j).1 hd2).1
            rw [hlk] at this; cases this)
        clear hlk
        go_wp2_with fail
        go_roundg gt
        case measure => omega
        case rel => exact ⟨k + 1, vs, by go_num, by omega, HP, HK⟩
      · rw [hlk] at q1
        have HRK : Hid (Rch (preL L) k) := (HFL.out k hkn).1 hlk
        clear hlk
        go_wp2_with fail
        refine (HDW.out _ _ HG.out.bel).mono ?_
        rintro e w2 ⟨vn, fn, rfl, hon, hfn, hbn⟩
        have HFN : Hid (∀ x, x < n → (fn x = true ↔ Wy (preL L) (· = k) x)) := fun x hx => (hfn x hx).trans ⟨fun h => h.mono fun y hy => by have hy : y = k := hy; subst hy; rfl, fun h => h.mono fun y hy => by have hy : (y : Int) = (k : Int) := hy; show y = k; omega⟩
        have HG2 : Hid (AB w w2 n gB hd vs (stD dm k 0)) := HG.out.keep hbn
        have HK2 : Hid (Kp w2 gB n vs (.slice (some ⟨gl, 0, none⟩) n cl) fl) := HK.out.keep hbn
        have HN2 : Hid (Kp w2 gB n vs vn fn) := HG.out.new hon
        obtain ⟨an, cn, rfl⟩ := own_slice hon
        obtain ⟨gn, cn', he, _⟩ := HN2.out.get hkn
        cases he
        clear hon hfn hbn HG HK p q1
        go_wp2_with fail
        go_loopg [7] n (fun g s7 wr => ∃ (i : Nat) (vs : List Value), s7 = .int .i64 (i : Nat) ∧ i + g = n ∧ Hid (AB w wr n gB hd vs (stD dm k i)) ∧ Hid (Kp wr gB n vs (.slice (some ⟨gl, 0, none⟩) n cl) fl) ∧ Hid (Kp wr gB n vs (.slice (some ⟨gn, 0, none⟩) n cn) fn))
        case atStart => exact ⟨0, vs, rfl, by omega, HG2, HK2, HN2⟩
        case round =>
          clear HG2 HK2 HN2 vs
          obtain ⟨i, vs, rfl, hi', HG, HK, HN⟩ := hrel
          have p := cells6 (w := wr) (x := w.heap.size) (by have := HG.out.blk; rw [HHD.out] at this; exact this)
          cases gk with
          | zero =>
            have hlt : ¬ (i : Int) < (n : Int) := by omega
            have HP : Hid (AB w wr n gB hd vs (stD dm (k + 1) 0)) := HG.out.congr fun j hj => by
              have e : i = n := by omega
              subst e
              exact stD_next hj
            go_wp2_with fail
            go_roundg gt
            case measure => omega
            case rel => exact ⟨k + 1, vs, by go_num, by omega, HP, HK⟩
          | succ gi =>
            have hltI : (i : Int) < (n : Int) := by omega
            have hin : i < n := by omega
            obtain ⟨_, _, he, r1⟩ := HK.out.get hin
            cases he
            obtain ⟨_, _, he, r2⟩ := HN.out.get hin
            cases he
            have hdi : dm k i = (fl i && !fn i) := by
              have h1 := HFL.out i hin
              have h2 := HFN.out i hin
              have h3 := HDM.out k i
              rw [Bool.eq_iff_iff, h3, Bool.and_eq_true, h1, Bool.not_eq_true', ← Bool.not_eq_true, h2]
              exact ⟨fun h => h.2, fun h => ⟨HRK.out, h⟩⟩
            rcases hf1 : fl i with _ | _
            · rw [hf1] at r1 hdi
              have HP : Hid (AB w wr n gB hd vs (stD dm k (i + 1))) := by unfold Hid; rw [← stD_skip (by rw [hdi]; rfl)]; exact HG.out
              clear hf1 hdi
              go_wp2_with fail
              go_roundg gi
              case measure => omega
              case rel => exact ⟨i + 1, vs, by go_num, by omega, HP, HK, HN⟩
            · rw [hf1] at r1 hdi
              rcases hf2 : fn i with _ | _
              · rw [hf2] at r2 hdi
                have HDI : Hid (dm k i = true) := hdi
                clear hf1 hf2 hdi
                obtain ⟨gB', cB', u, av, cv, he, _, _, hvt, hu, hcell, hfz⟩ := HG.out.grid.at hin
                cases he
                subst hu
                have hfl : (stD dm k i i).length ≤ k := by rw [stD_here]; exact rowD_len _ _ _
                obtain ⟨la, hla⟩ : ∃ la, la = (stD dm k i i).length := ⟨_, rfl⟩
                rw [← hla] at hcell hfl
                have HLA : Hid (la = (stD dm k i i).length) := hla
                have HO : Hid (wr.ownsRow (w.heap.size + 1) 3 1 (.slice av la cv) la (numsL (stD dm k i i))) := by unfold Hid; rw [hla]; exact HG.out.grid.each i _ hin hvt
                obtain ⟨W1, hW1⟩ : ∃ W1, W1 = wr.alloc (.cells #[.int .i64 (k : Int)] 3) := ⟨_, rfl⟩
                have HW1S : Hid (W1 = _) := hW1
                have hb1 : Below wr.heap.size wr W1 := by rw [hW1]; exact below_alloc _ _
                have hs1 : W1.heap.size = wr.heap.size + 1 := by rw [hW1]; simp
                have HS1 : Hid (W1.heap.size = wr.heap.size + 1) := hs1
                have HNW : Hid (∀ j u, [Value.int .i64 (k : Int)][j]? = some u → W1.cell? ((⟨wr.heap.size, 0, none⟩ : Addr).add j) = some u) := World.news_of_block (by rw [hW1]; exact heap_alloc_new wr _)
                have HB1 : Hid (Below wr.heap.size wr W1) := hb1
                have HO1 : Hid (W1.ownsRow (w.heap.size + 1) 3 1 (.slice av la cv) la (numsL (stD dm k i i))) := own_same HO.out fun g hg => hb1.block g (own_lt HO.out hg).2
                have HLE : Hid (w.heap.size + 1 ≤ W1.heap.size) := by unfold Hid; have := lt_of_block HG.out.blk; omega
                have HVT : Hid (vs[i]? = some (.slice av (stD dm k i i).length cv)) := hvt
                clear hla hW1 hb1 hs1 hvt
                go_wp2_with (at_builtin; rw [← HW1S.out]; refine wpList_append_lies _ rfl _ _ 23 (by rfl) (w.heap.size + 1) 3 i1 _ 1 8 Tryd.underlying23 hi1 hy0 hy1 hyb rfl (by decide) (.slice av la cv) la _ (by rfl) HO1.out ⟨wr.heap.size, 0, none⟩ 1 1 [.int .i64 (k : Int)] (by rfl) rfl HNW.out (by intro u hu; simp at hu; subst hu; rfl) (by decide) (by unfold maxLen; omega) (by omega) HLE.out (wr.heap.size + 1) HS1.out ?_)
                intro g cp w1 hown hgrow hat hlt1
                have hg2 : W1.grownBy w1 (Value.slice av (stD dm k i i).length cv).ownBlock := by rw [← HLA.out]; exact hgrow
                have hat2 : (Value.slice (some ⟨g, 0, none⟩) (la + 1) cp).ownBlock = (Value.slice av (stD dm k i i).length cv).ownBlock ∨ (Value.slice (some ⟨g, 0, none⟩) (la + 1) cp).ownBlock = some W1.heap.size := by
                  rw [← HLA.out]
                  rcases hat with h1 | h1
                  · exact .inl h1.symm
                  · right; rw [HS1.out]; simp [Value.ownBlock, h1]
                have HP : Hid (AB w (w1.setCell ⟨gB, i, none⟩ (.slice (some ⟨g, 0, none⟩) (la + 1) cp)) n gB hd (vs.set i (.slice (some ⟨g, 0, none⟩) (la + 1) cp)) (stD dm k (i + 1))) := by
                  have hK := HG.out.keep HB1.out
                  have := hK.push hin HVT.out hg2 (u' := .slice (some ⟨g, 0, none⟩) (la + 1) cp) (x := (k : Int)) hat2 (by rw [← HLA.out]; exact hown)
                  rw [stD_push HDI.out] at this
                  exact this
                have HK3 : Hid (Kp (w1.setCell ⟨gB, i, none⟩ (.slice (some ⟨g, 0, none⟩) (la + 1) cp)) gB n (vs.set i (.slice (some ⟨g, 0, none⟩) (la + 1) cp)) (.slice (some ⟨gl, 0, none⟩) n cl) fl) := (HK.out.keep HB1.out).push HVT.out hg2 hat2
                have HN3 : Hid (Kp (w1.setCell ⟨gB, i, none⟩ (.slice (some ⟨g, 0, none⟩) (la + 1) cp)) gB n (vs.set i (.slice (some ⟨g, 0, none⟩) (la + 1) cp)) (.slice (some ⟨gn, 0, none⟩) n cn) fn) := (HN.out.keep HB1.out).push HVT.out hg2 hat2
                have hw1B : w1.heap[gB]? = wr.heap[gB]? := (hgrow.block gB (by have := (own_lt HG.out.grid.row (g := gB) rfl).2; rw [HS1.out]; omega) (fun e => by
                  rw [HLA.out] at e
                  exact HG.out.grid.away i _ gB HVT.out e.symm rfl)).trans (HB1.out.block gB (own_lt HG.out.grid.row (g := gB) rfl).2)
                have q1 : w1.cell? ⟨gB, i, none⟩ = some (.slice av la cv) := (World.cell?_of_block (a := ⟨gB, i, none⟩) hw1B).trans hcell
                have q2 : w1.frozen? ⟨gB, i, none⟩ = false := (World.frozen?_of_block (a := ⟨gB, i, none⟩) hw1B).trans hfz
                clear hown hgrow hat hw1B hcell hfz hg2 hat2
                go_wp2_with fail
                go_roundg gi
                case measure => omega
                case rel => exact ⟨i + 1, _, by go_num, by omega, HP, HK3, HN3⟩
              · rw [hf2] at r2 hdi
                have HP : Hid (AB w wr n gB hd vs (stD dm k (i + 1))) := by unfold Hid; rw [← stD_skip (by rw [hdi]; rfl)]; exact HG.out
                clear hf1 hf2 hdi
                go_wp2_with fail
                go_roundg gi
                case measure => omega
                case rel => exact ⟨i + 1, vs, by go_num, by omega, HP, HK, HN⟩
end

section
open Go.RowKit
set_option linter.unusedSimpArgs false
set_option linter.unusedVariables false

open Classical in
/-- block k is above block i -/
noncomputable def abD (L : List (List Int)) : Nat → Nat → Bool := fun k i => decide (Rch (preL L) k ∧ Rch (preL L) i ∧ Dom (preL L) k i)

theorem rowD_i64 {dm : Nat → Nat → Bool} {j n : Nat} (hn : n ≤ 1048576) : ∀ y ∈ rowD dm j n, I64 y := by
  intro y hy
  have := rowD_mem hy
  unfold I64
  omega
end

end Go.Proofs.YthlngmknifpbjaaDoor
