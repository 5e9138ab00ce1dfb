/-
  Package ssa: may an instruction ask all that it asks?
-/
import Derived.Test.YthlngmknifpbjaaDoorSsI
namespace Go.Proofs.YthlngmknifpbjaaDoor
open Go.RowKit Go.Maps
set_option linter.unusedSimpArgs false
set_option linter.unusedVariables false

/-- the spot ahead of which argument i must have its value -/
def fromM (AH : List (List Int)) (bs : List (List Ins)) (x : Ins) (hb : Nat) (ha : Int) (i : Nat) : Nat × Int :=
  if x.op == 14 then (((AH.getD hb []).getD i 0).toNat, ((bs.getD ((AH.getD hb []).getD i 0).toNat []).length : Int)) else (hb, ha)
def askM (AH : List (List Int)) (bs : List (List Ins)) (S : SetM) (A N : Nat → Int) (x : Ins) (hb : Nat) (ha : Int) (i : Nat) : Bool :=
  match x.ar[i]? with
  | some a => A (fromM AH bs x hb ha i).1 == -1 || hasM S A N a (fromM AH bs x hb ha i).1 (fromM AH bs x hb ha i).2
  | none => true
def asksM (AH : List (List Int)) (bs : List (List Ins)) (S : SetM) (A N : Nat → Int) (x : Ins) (hb : Nat) (ha : Int) : Bool := (List.range x.ar.length).all (askM AH bs S A N x hb ha)

/-- what else asks needs: what stands ahead, the blocks -/
structure KA (B : Nat) (w : World) (c : Cod) (vb v9 : Value) (n : Nat) (AH : List (List Int)) : Prop where
  blks : Blks B w vb c.blocks
  len : n = c.blocks.length
  rws : Rws B w v9 AH
  al : AH.length = n
  inn : ∀ (b : Nat) (l : List Int) (y : Int), AH[b]? = some l → y ∈ l → 0 ≤ y ∧ y < (n : Int)
theorem KA.below {B : Nat} {w w' : World} {c : Cod} {vb v9 : Value} {n : Nat} {AH : List (List Int)} (h : KA B w c vb v9 n AH) (k : Below B w w') : KA B w' c vb v9 n AH :=
  ⟨h.blks.below k, h.len, Rws.below h.rws k, h.al, h.inn⟩

set_option maxHeartbeats 4000000 in
set_option maxRecDepth 20000 in
theorem asks_any (K B : Nat) (c : Cod) (vb f0 f1 f2 f3 f4 vd va vt : Value) (g5 g6 n : Nat) (A N : Nat → Int) (mp : Nat) (S : SetM) (AH : List (List Int)) (x : Ins) (hb : Nat) (ha : Int) (w : World) (h : KS w K c vb f0 f1 f2 f3 f4 g5 g6 n A N mp S) (hBw : B ≤ w.heap.size)
    (hk : KA B w c vb f0 n AH) (hbn : hb < n) (hx : Nums B w va x.ar) (hphi : x.op = 14 → x.ar.length = (AH.getD hb []).length) (hvd : ∃ a n k, vd = .slice a n k) (hvt : ∃ a n k, vt = .slice a n k) :
    Calls Tryd.prog 34 #[.pointer (some ⟨K, 0, none⟩), insV x vd va vt, .agg #[.int .i64 (hb : Nat), .int .i64 ha]] w fun e w' => e = .returned (.bool (asksM AH c.blocks S A N x hb ha)) ∧ Below w.heap.size w w' := by
  obtain ⟨ad, nd, cd, rfl⟩ := hvd
  obtain ⟨at_, nt, ct, rfl⟩ := hvt
  obtain ⟨aa, ca, rfl⟩ := Lies.slice hx
  obtain ⟨a9, k9, e9⟩ := Lies.slice hk.rws
  rw [hk.al] at e9
  subst e9
  obtain ⟨ab, kb, eb⟩ := Lies.slice hk.blks
  rw [← hk.len] at eb
  subst eb
  have HKS : Hid (KS w K c (.slice ab n kb) (.slice a9 n k9) f1 f2 f3 f4 g5 g6 n A N mp S) := h
  have HKA : Hid (KA B w c (.slice ab n kb) (.slice a9 n k9) n AH) := hk
  have HBN : Hid (hb < n) := hbn
  have HPH : Hid (x.op = 14 → x.ar.length = (AH.getD hb []).length) := hphi
  have hl := hx.len
  unfold maxLen at hl
  have HX : Hid (Nums B w (.slice aa x.ar.length ca) x.ar) := hx
  have HBW : Hid (B ≤ w.heap.size) := hBw
  clear h hk hbn hphi hx hBw
  obtain ⟨G, hG⟩ : ∃ G, G = w.heap.size := ⟨_, rfl⟩
  obtain ⟨w2, hw2⟩ : ∃ w2, w2 = (w.alloc (.cells #[.int .i64 x.op, .slice ad nd cd, .slice aa x.ar.length ca, .int .i64 x.n, .string ⟨x.s.toArray⟩, .slice at_ nt ct] 37)).alloc (.cells #[.int .i64 (hb : Nat), .int .i64 ha] 67) := ⟨_, rfl⟩
  obtain ⟨a1, a2⟩ := heap_alloc2 w (.cells #[.int .i64 x.op, .slice ad nd cd, .slice aa x.ar.length ca, .int .i64 x.n, .string ⟨x.s.toArray⟩, .slice at_ nt ct] 37) (.cells #[.int .i64 (hb : Nat), .int .i64 ha] 67)
  rw [← hw2, ← hG] at a1 a2
  have HB2 : Hid (Below w.heap.size w w2) := by rw [hw2]; exact below_after (below_alloc _ _) (below_alloc _ _)
  have HWE : Hid (w2 = _) := hw2
  have HGE : Hid (G = w.heap.size) := hG
  have HXX : Hid (∀ X, Below w2.heap.size w2 X → KS X K c (.slice ab n kb) (.slice a9 n k9) f1 f2 f3 f4 g5 g6 n A N mp S ∧ X.heap[G]? = some (.cells #[.int .i64 x.op, .slice ad nd cd, .slice aa x.ar.length ca, .int .i64 x.n, .string ⟨x.s.toArray⟩, .slice at_ nt ct] 37) ∧ X.heap[G + 1]? = some (.cells #[.int .i64 (hb : Nat), .int .i64 ha] 67) ∧ Below w.heap.size w X) := fun X k =>
    ⟨(HKS.out.keep HB2.out).keep k, (k.block G (lt_of_block a1)).trans a1, (k.block (G + 1) (lt_of_block a2)).trans a2, below_after HB2.out k⟩
  have c0 := cells6 (HXX.out w2 (Below.refl _ _)).2.1
  obtain ⟨R, hR⟩ : ∃ R, R = asksM AH c.blocks S A N x hb ha := ⟨_, rfl⟩
  rw [← hR]
  have HR : Hid (R = asksM AH c.blocks S A N x hb ha) := hR
  clear hG hw2 a1 a2 hR c0
  unfold insV
  go_enter Tryd.func34, Tryd.ntmps34
  go_wp2_with fail
  rw [← HWE.out, ← HGE.out]
  go_loopg [13] x.ar.length (fun g s13 wr => ∃ i : Nat, s13 = .int .i64 (i : Nat) ∧ i + g = x.ar.length ∧ Hid (∀ t, t < i → askM AH c.blocks S A N x hb ha t = true) ∧ Hid (Below w2.heap.size w2 wr))
  case atStart => exact ⟨0, rfl, by omega, fun t h => absurd h (by omega), Below.refl _ _⟩
  case round =>
    obtain ⟨i, rfl, hi', HJ, HBL⟩ := hrel
    cases gk with
    | zero =>
      have hlt : ¬ (i : Int) < (x.ar.length : Int) := by omega
      have HRT : Hid (R = true) := by
        unfold Hid
        rw [HR.out]
        unfold asksM
        rw [List.all_eq_true]
        intro t ht
        exact HJ.out t (by have := List.mem_range.1 ht; omega)
      go_wp2_with fail
      go_ret
      exact ⟨by rw [HRT.out]; rfl, (HXX.out wr HBL.out).2.2.2⟩
    | succ g =>
      have hlt : (i : Int) < (x.ar.length : Int) := by omega
      have hiN : i < x.ar.length := by omega
      have hga : x.ar[i]? = some x.ar[i] := List.getElem?_eq_getElem hiN
      generalize x.ar[i] = a at hga
      have HGA : Hid (x.ar[i]? = some a) := hga
      obtain ⟨ks, hG1, hG2, hBWR⟩ := HXX.out wr HBL.out
      obtain ⟨ga, oa, cs, rfl, _, _, ⟨rfl, ha64⟩, hcl⟩ := Lies.at (Nums.below HX.out (hBWR.mono HBW.out)) hga
      have d0 := hcl 0 (by decide)
      simp at d0
      have HA64 : Hid (I64 a) := ha64
      obtain ⟨j0, _⟩ := cells6 hG1
      obtain ⟨r0, r1⟩ := cells2 hG2
      have HKR : Hid (_) := ks
      clear hcl hga ha64 hG1 hG2 ks hBWR
      go_upto_region 5 with fail
      obtain ⟨gF, hgF⟩ : ∃ gF, gF = wr.heap.size := ⟨_, rfl⟩
      obtain ⟨W, hW⟩ : ∃ W, W = wr.alloc (.cells #[.int .i64 (hb : Nat), .int .i64 ha] 67) := ⟨_, rfl⟩
      have hF : W.heap[gF]? = some (.cells #[.int .i64 (hb : Nat), .int .i64 ha] 67) := by rw [hW, hgF]; exact heap_alloc_new wr _
      have hBW : Below w2.heap.size w2 W := by rw [hW]; exact below_after HBL.out (below_alloc _ _)
      have HGF : Hid (w2.heap.size ≤ gF) := by unfold Hid; rw [hgF]; exact HBL.out.size
      rw [← hgF, ← hW]
      have HFW : Hid (_) := hF
      have HBW2 : Hid (Below w2.heap.size w2 W) := hBW
      obtain ⟨ks, hG1, hG2, hBWR⟩ := HXX.out W hBW
      obtain ⟨p0, _⟩ := cells6 hG1
      obtain ⟨s0, s1⟩ := cells2 hG2
      have HBX0 : Hid (Below B w W) := hBWR.mono HBW.out
      have HKSW : Hid (KS W K c (.slice ab n kb) (.slice a9 n k9) f1 f2 f3 f4 g5 g6 n A N mp S) := ks
      clear hgF hW hF hBW ks hG1 hG2 hBWR j0 r0 r1 d0
      rcases hop : (x.op == 14) with _ | _
      · obtain ⟨X, hX⟩ : ∃ X, X = W := ⟨_, rfl⟩
        obtain ⟨fb, hfb⟩ : ∃ fb, fb = hb := ⟨_, rfl⟩
        obtain ⟨fa, hfa⟩ : ∃ fa, fa = ha := ⟨_, rfl⟩
        have HBX : Hid (Below w2.heap.size w2 X) := by rw [hX]; exact HBW2.out
        have HFX : Hid (X.heap[gF]? = some (.cells #[.int .i64 (fb : Nat), .int .i64 fa] 67)) := by rw [hX, hfb, hfa]; exact HFW.out
        have HFB : Hid (fb < n) := by rw [hfb]; exact HBN.out
        have HAE : Hid (askM AH c.blocks S A N x hb ha i = (A fb == -1 || hasM S A N a fb fa)) := by
          unfold Hid askM fromM
          rw [HGA.out, hfb, hfa]
          simp only [hop, Bool.false_eq_true, if_false]
        go_upto_region 8 with fail
        rw [← hX]
        clear hX hfb hfa p0 s0 s1
        have HX8 : Hid (∀ Y, Below X.heap.size X Y → (fun w' => (w'.cell? ⟨K, 6, none⟩ = some (.slice a9 n k9) ∧ w'.cell? ⟨K, 7, none⟩ = some f1 ∧ w'.cell? ⟨K, 8, none⟩ = some f2 ∧ w'.cell? ⟨K, 9, none⟩ = some f3 ∧ w'.cell? ⟨K, 10, none⟩ = some f4 ∧ w'.cell? ⟨K, 11, none⟩ = some (.slice (some ⟨g5, 0, none⟩) n n) ∧ w'.cell? ⟨K, 12, none⟩ = some (.slice (some ⟨g6, 0, none⟩) n n)) ∧ w'.cell? ⟨gF, 0, none⟩ = some (.int .i64 (fb : Nat)) ∧ w'.cell? ⟨gF, 1, none⟩ = some (.int .i64 fa)) Y ∧ KS Y K c (.slice ab n kb) (.slice a9 n k9) f1 f2 f3 f4 g5 g6 n A N mp S ∧ Below w2.heap.size w2 Y) := fun Y k => by
          have hb2 := below_after HBX.out k
          obtain ⟨h1, _, _, _⟩ := HXX.out Y hb2
          obtain ⟨_, _, _, _, _, _, q6, q7, q8, q9, q10, q11, q12, _⟩ := cells14 h1.obj
          obtain ⟨y0, y1⟩ := cells2 ((k.block gF (lt_of_block HFX.out)).trans HFX.out)
          exact ⟨⟨⟨q6, q7, q8, q9, q10, q11, q12⟩, y0, y1⟩, h1, hb2⟩
        have HCB : Hid (∀ Y, Below X.heap.size X Y → Calls Tryd.prog 50 #[.agg #[.slice a9 n k9, f1, f2, f3, f4, .slice (some ⟨g5, 0, none⟩) n n, .slice (some ⟨g6, 0, none⟩) n n], .int .i64 (fb : Nat)] Y fun e w' => e = .returned (.bool (A fb != -1)) ∧ Below Y.heap.size Y w') := fun Y k => canBe_any _ f1 f2 f3 f4 _ g5 n fb A Y HFB.out (HX8.out Y k).2.1.r5
        have HHS : Hid (∀ Y, Below X.heap.size X Y → Calls Tryd.prog 51 #[.pointer (some ⟨K, 0, none⟩), .int .i64 a, .agg #[.int .i64 (fb : Nat), .int .i64 fa]] Y fun e w' => e = .returned (.bool (hasM S A N a fb fa)) ∧ Below Y.heap.size Y w') := fun Y k => hasV_any K c _ _ f1 f2 f3 f4 g5 g6 n A N mp S a fa fb Y (HX8.out Y k).2.1 HFB.out HA64.out
        have HDD : Hid (Below X.heap.size X X.drew) := (Below.refl _ _).drew
        have hcw := (HX8.out X (Below.refl _ _)).1
        rcases hA : (A fb != -1) with _ | _
        · rw [hA] at HCB
          have HJ2 : Hid (∀ t, t < i + 1 → askM AH c.blocks S A N x hb ha t = true) := fun t ht => by
            rcases Nat.lt_or_ge t i with h | h
            · exact HJ.out t h
            · have : t = i := by omega
              subst this
              rw [HAE.out]
              have : (A fb == -1) = true := by simpa using hA
              rw [this]; rfl
          refine wp_region_noPanic ?_
          refine wp_region_held_drew (S := (fun w' => (w'.cell? ⟨K, 6, none⟩ = some (.slice a9 n k9) ∧ w'.cell? ⟨K, 7, none⟩ = some f1 ∧ w'.cell? ⟨K, 8, none⟩ = some f2 ∧ w'.cell? ⟨K, 9, none⟩ = some f3 ∧ w'.cell? ⟨K, 10, none⟩ = some f4 ∧ w'.cell? ⟨K, 11, none⟩ = some (.slice (some ⟨g5, 0, none⟩) n n) ∧ w'.cell? ⟨K, 12, none⟩ = some (.slice (some ⟨g6, 0, none⟩) n n)) ∧ w'.cell? ⟨gF, 0, none⟩ = some (.int .i64 (fb : Nat)) ∧ w'.cell? ⟨gF, 1, none⟩ = some (.int .i64 fa))) (by kernel_rfl) hcw ?_
          intro HS
          refine wpAnyH_take (i := 0) (v := ?_) (by simp only [List.getElem?_toArray, List.getElem?_cons_succ, List.getElem?_cons_zero]; rfl) (by kernel_rfl) (by kernel_rfl) (by kernel_rfl) (fun _ _ _ h => h) (Or.inl ⟨by rfl, ?_⟩) HS ?_
          rotate_left
          · intro wz hSw
            try dsimp only at hSw
            obtain ⟨⟨e6, e7, e8, e9, e10, e11, e12⟩, e0, e1⟩ := hSw
            go_simp
            try with_reducible rfl
          try simp only [Act.put, List.setIfInBounds_toArray, List.set_cons_zero, List.set_cons_succ]
          refine wpAnyH_take (i := 1) (v := ?_) (by simp only [List.getElem?_toArray, List.getElem?_cons_succ, List.getElem?_cons_zero]; rfl) (by kernel_rfl) (by kernel_rfl) (by kernel_rfl) (fun _ _ _ h => h) (Or.inl ⟨by rfl, ?_⟩) HS ?_
          rotate_left
          · intro wz hSw
            try dsimp only at hSw
            obtain ⟨⟨e6, e7, e8, e9, e10, e11, e12⟩, e0, e1⟩ := hSw
            go_simp
            try with_reducible rfl
          try simp only [Act.put, List.setIfInBounds_toArray, List.set_cons_zero, List.set_cons_succ]
          refine wpAnyH_take (i := 2) (v := ?_) (by simp only [List.getElem?_toArray, List.getElem?_cons_succ, List.getElem?_cons_zero]; rfl) (by kernel_rfl) (by kernel_rfl) (by kernel_rfl) (fun _ _ _ h => h) (Or.inl ⟨by rfl, ?_⟩) HS ?_
          rotate_left
          · intro wz hSw
            try dsimp only at hSw
            obtain ⟨⟨e6, e7, e8, e9, e10, e11, e12⟩, e0, e1⟩ := hSw
            go_simp
            try with_reducible rfl
          try simp only [Act.put, List.setIfInBounds_toArray, List.set_cons_zero, List.set_cons_succ]
          refine wpAnyH_take (i := 3) (v := ?_) (by simp only [List.getElem?_toArray, List.getElem?_cons_succ, List.getElem?_cons_zero]; rfl) (by kernel_rfl) (by kernel_rfl) (by kernel_rfl) (fun _ _ _ h => h) (Or.inl ⟨by rfl, ?_⟩) HS ?_
          rotate_left
          · intro wz hSw
            try dsimp only at hSw
            obtain ⟨⟨e6, e7, e8, e9, e10, e11, e12⟩, e0, e1⟩ := hSw
            go_simp
            try with_reducible rfl
          try simp only [Act.put, List.setIfInBounds_toArray, List.set_cons_zero, List.set_cons_succ]
          refine wpAnyH_take (i := 4) (v := ?_) (by simp only [List.getElem?_toArray, List.getElem?_cons_succ, List.getElem?_cons_zero]; rfl) (by kernel_rfl) (by kernel_rfl) (by kernel_rfl) (fun _ _ _ h => h) (Or.inl ⟨by rfl, ?_⟩) HS ?_
          rotate_left
          · intro wz hSw
            try dsimp only at hSw
            obtain ⟨⟨e6, e7, e8, e9, e10, e11, e12⟩, e0, e1⟩ := hSw
            go_simp
            try with_reducible rfl
          try simp only [Act.put, List.setIfInBounds_toArray, List.set_cons_zero, List.set_cons_succ]
          refine wpAnyH_take (i := 5) (v := ?_) (by simp only [List.getElem?_toArray, List.getElem?_cons_succ, List.getElem?_cons_zero]; rfl) (by kernel_rfl) (by kernel_rfl) (by kernel_rfl) (fun _ _ _ h => h) (Or.inl ⟨by rfl, ?_⟩) HS ?_
          rotate_left
          · intro wz hSw
            try dsimp only at hSw
            obtain ⟨⟨e6, e7, e8, e9, e10, e11, e12⟩, e0, e1⟩ := hSw
            go_simp
            try with_reducible rfl
          try simp only [Act.put, List.setIfInBounds_toArray, List.set_cons_zero, List.set_cons_succ]
          refine wpAnyH_ready (rs := [6]) (by kernel_rfl) (by simp) (AllReadyH.cons (by simp only [List.getElem?_toArray, List.getElem?_cons_succ, List.getElem?_cons_zero]; rfl) ?_ AllReadyH.nil)
          intro K' HK
          rw [if_pos (by rfl)]
          clear HS
          go_simp
          go_wp2_with (go_at_call 50; refine Calls.mono (HCB.out X.drew HDD.out) ?_; rintro e w5 ⟨rfl, hb1⟩)
          have HB1 : Hid (Below X.heap.size X w5) := below_after HDD.out hb1
          clear hb1
          have HS2 : (fun w' => (w'.cell? ⟨K, 6, none⟩ = some (.slice a9 n k9) ∧ w'.cell? ⟨K, 7, none⟩ = some f1 ∧ w'.cell? ⟨K, 8, none⟩ = some f2 ∧ w'.cell? ⟨K, 9, none⟩ = some f3 ∧ w'.cell? ⟨K, 10, none⟩ = some f4 ∧ w'.cell? ⟨K, 11, none⟩ = some (.slice (some ⟨g5, 0, none⟩) n n) ∧ w'.cell? ⟨K, 12, none⟩ = some (.slice (some ⟨g6, 0, none⟩) n n)) ∧ w'.cell? ⟨gF, 0, none⟩ = some (.int .i64 (fb : Nat)) ∧ w'.cell? ⟨gF, 1, none⟩ = some (.int .i64 fa)) w5 := (HX8.out w5 HB1.out).1
          refine HK.out _ _ HS2 ?_
          intro HS
          try simp only [Act.put, List.setIfInBounds_toArray, List.set_cons_zero, List.set_cons_succ]
          refine wpAnyH_take (i := 7) (v := ?_) (by simp only [List.getElem?_toArray, List.getElem?_cons_succ, List.getElem?_cons_zero]; rfl) (by kernel_rfl) (by kernel_rfl) (by kernel_rfl) (fun _ _ _ h => h) (Or.inl ⟨by rfl, ?_⟩) HS ?_
          rotate_left
          · intro wz hSw
            try dsimp only at hSw
            obtain ⟨⟨e6, e7, e8, e9, e10, e11, e12⟩, e0, e1⟩ := hSw
            go_simp
            try with_reducible rfl
          try simp only [Act.put, List.setIfInBounds_toArray, List.set_cons_zero, List.set_cons_succ]
          refine wpAnyH_take (i := 8) (v := undef) (by simp only [List.getElem?_toArray, List.getElem?_cons_succ, List.getElem?_cons_zero]; rfl) (by kernel_rfl) (by kernel_rfl) (by kernel_rfl) (fun _ _ _ h => h) (Or.inr ⟨by rfl, rfl⟩) HS ?_
          try simp only [Act.put, List.setIfInBounds_toArray, List.set_cons_zero, List.set_cons_succ]
          refine wpAnyH_take (i := 9) (v := undef) (by simp only [List.getElem?_toArray, List.getElem?_cons_succ, List.getElem?_cons_zero]; rfl) (by kernel_rfl) (by kernel_rfl) (by kernel_rfl) (fun _ _ _ h => h) (Or.inr ⟨by rfl, rfl⟩) HS ?_
          try simp only [Act.put, List.setIfInBounds_toArray, List.set_cons_zero, List.set_cons_succ]
          refine wpAnyH_take (i := 10) (v := undef) (by simp only [List.getElem?_toArray, List.getElem?_cons_succ, List.getElem?_cons_zero]; rfl) (by kernel_rfl) (by kernel_rfl) (by kernel_rfl) (fun _ _ _ h => h) (Or.inr ⟨by rfl, rfl⟩) HS ?_
          try simp only [Act.put, List.setIfInBounds_toArray, List.set_cons_zero, List.set_cons_succ]
          refine wpAnyH_take (i := 11) (v := undef) (by simp only [List.getElem?_toArray, List.getElem?_cons_succ, List.getElem?_cons_zero]; rfl) (by kernel_rfl) (by kernel_rfl) (by kernel_rfl) (fun _ _ _ h => h) (Or.inr ⟨by rfl, rfl⟩) HS ?_
          try simp only [Act.put, List.setIfInBounds_toArray, List.set_cons_zero, List.set_cons_succ]
          refine wpAnyH_take (i := 12) (v := undef) (by simp only [List.getElem?_toArray, List.getElem?_cons_succ, List.getElem?_cons_zero]; rfl) (by kernel_rfl) (by kernel_rfl) (by kernel_rfl) (fun _ _ _ h => h) (Or.inr ⟨by rfl, rfl⟩) HS ?_
          try simp only [Act.put, List.setIfInBounds_toArray, List.set_cons_zero, List.set_cons_succ]
          refine wpAnyH_take (i := 13) (v := ?_) (by simp only [List.getElem?_toArray, List.getElem?_cons_succ, List.getElem?_cons_zero]; rfl) (by kernel_rfl) (by kernel_rfl) (by kernel_rfl) (fun _ _ _ h => h) (Or.inl ⟨by rfl, ?_⟩) HS ?_
          rotate_left
          · intro wz hSw
            try dsimp only at hSw
            obtain ⟨⟨e6, e7, e8, e9, e10, e11, e12⟩, e0, e1⟩ := hSw
            go_simp
            try with_reducible rfl
          try simp only [Act.put, List.setIfInBounds_toArray, List.set_cons_zero, List.set_cons_succ]
          refine wpAnyH_done (by kernel_rfl) ?_ _
          refine NoPanic.normal ?_
          have HBN2 : Hid (Below w2.heap.size w2 w5) := (HX8.out w5 HB1.out).2.2
          clear hcw
          go_wp2_with fail
          go_roundg g
          case measure => omega
          case rel => exact ⟨i + 1, by go_num, by omega, HJ2, HBN2⟩
        · rw [hA] at HCB
          have hA2 : (A fb == -1) = false := by simpa using hA
          refine wp_region_noPanic ?_
          refine wp_region_held_drew (S := (fun w' => (w'.cell? ⟨K, 6, none⟩ = some (.slice a9 n k9) ∧ w'.cell? ⟨K, 7, none⟩ = some f1 ∧ w'.cell? ⟨K, 8, none⟩ = some f2 ∧ w'.cell? ⟨K, 9, none⟩ = some f3 ∧ w'.cell? ⟨K, 10, none⟩ = some f4 ∧ w'.cell? ⟨K, 11, none⟩ = some (.slice (some ⟨g5, 0, none⟩) n n) ∧ w'.cell? ⟨K, 12, none⟩ = some (.slice (some ⟨g6, 0, none⟩) n n)) ∧ w'.cell? ⟨gF, 0, none⟩ = some (.int .i64 (fb : Nat)) ∧ w'.cell? ⟨gF, 1, none⟩ = some (.int .i64 fa))) (by kernel_rfl) hcw ?_
          intro HS
          refine wpAnyH_take (i := 0) (v := ?_) (by simp only [List.getElem?_toArray, List.getElem?_cons_succ, List.getElem?_cons_zero]; rfl) (by kernel_rfl) (by kernel_rfl) (by kernel_rfl) (fun _ _ _ h => h) (Or.inl ⟨by rfl, ?_⟩) HS ?_
          rotate_left
          · intro wz hSw
            try dsimp only at hSw
            obtain ⟨⟨e6, e7, e8, e9, e10, e11, e12⟩, e0, e1⟩ := hSw
            go_simp
            try with_reducible rfl
          try simp only [Act.put, List.setIfInBounds_toArray, List.set_cons_zero, List.set_cons_succ]
          refine wpAnyH_take (i := 1) (v := ?_) (by simp only [List.getElem?_toArray, List.getElem?_cons_succ, List.getElem?_cons_zero]; rfl) (by kernel_rfl) (by kernel_rfl) (by kernel_rfl) (fun _ _ _ h => h) (Or.inl ⟨by rfl, ?_⟩) HS ?_
          rotate_left
          · intro wz hSw
            try dsimp only at hSw
            obtain ⟨⟨e6, e7, e8, e9, e10, e11, e12⟩, e0, e1⟩ := hSw
            go_simp
            try with_reducible rfl
          try simp only [Act.put, List.setIfInBounds_toArray, List.set_cons_zero, List.set_cons_succ]
          refine wpAnyH_take (i := 2) (v := ?_) (by simp only [List.getElem?_toArray, List.getElem?_cons_succ, List.getElem?_cons_zero]; rfl) (by kernel_rfl) (by kernel_rfl) (by kernel_rfl) (fun _ _ _ h => h) (Or.inl ⟨by rfl, ?_⟩) HS ?_
          rotate_left
          · intro wz hSw
            try dsimp only at hSw
            obtain ⟨⟨e6, e7, e8, e9, e10, e11, e12⟩, e0, e1⟩ := hSw
            go_simp
            try with_reducible rfl
          try simp only [Act.put, List.setIfInBounds_toArray, List.set_cons_zero, List.set_cons_succ]
          refine wpAnyH_take (i := 3) (v := ?_) (by simp only [List.getElem?_toArray, List.getElem?_cons_succ, List.getElem?_cons_zero]; rfl) (by kernel_rfl) (by kernel_rfl) (by kernel_rfl) (fun _ _ _ h => h) (Or.inl ⟨by rfl, ?_⟩) HS ?_
          rotate_left
          · intro wz hSw
            try dsimp only at hSw
            obtain ⟨⟨e6, e7, e8, e9, e10, e11, e12⟩, e0, e1⟩ := hSw
            go_simp
            try with_reducible rfl
          try simp only [Act.put, List.setIfInBounds_toArray, List.set_cons_zero, List.set_cons_succ]
          refine wpAnyH_take (i := 4) (v := ?_) (by simp only [List.getElem?_toArray, List.getElem?_cons_succ, List.getElem?_cons_zero]; rfl) (by kernel_rfl) (by kernel_rfl) (by kernel_rfl) (fun _ _ _ h => h) (Or.inl ⟨by rfl, ?_⟩) HS ?_
          rotate_left
          · intro wz hSw
            try dsimp only at hSw
            obtain ⟨⟨e6, e7, e8, e9, e10, e11, e12⟩, e0, e1⟩ := hSw
            go_simp
            try with_reducible rfl
          try simp only [Act.put, List.setIfInBounds_toArray, List.set_cons_zero, List.set_cons_succ]
          refine wpAnyH_take (i := 5) (v := ?_) (by simp only [List.getElem?_toArray, List.getElem?_cons_succ, List.getElem?_cons_zero]; rfl) (by kernel_rfl) (by kernel_rfl) (by kernel_rfl) (fun _ _ _ h => h) (Or.inl ⟨by rfl, ?_⟩) HS ?_
          rotate_left
          · intro wz hSw
            try dsimp only at hSw
            obtain ⟨⟨e6, e7, e8, e9, e10, e11, e12⟩, e0, e1⟩ := hSw
            go_simp
            try with_reducible rfl
          try simp only [Act.put, List.setIfInBounds_toArray, List.set_cons_zero, List.set_cons_succ]
          refine wpAnyH_ready (rs := [6]) (by kernel_rfl) (by simp) (AllReadyH.cons (by simp only [List.getElem?_toArray, List.getElem?_cons_succ, List.getElem?_cons_zero]; rfl) ?_ AllReadyH.nil)
          intro K' HK
          rw [if_pos (by rfl)]
          clear HS
          go_simp
          go_wp2_with (go_at_call 50; refine Calls.mono (HCB.out X.drew HDD.out) ?_; rintro e w5 ⟨rfl, hb1⟩)
          have HB1 : Hid (Below X.heap.size X w5) := below_after HDD.out hb1
          clear hb1
          have HS2 : (fun w' => (w'.cell? ⟨K, 6, none⟩ = some (.slice a9 n k9) ∧ w'.cell? ⟨K, 7, none⟩ = some f1 ∧ w'.cell? ⟨K, 8, none⟩ = some f2 ∧ w'.cell? ⟨K, 9, none⟩ = some f3 ∧ w'.cell? ⟨K, 10, none⟩ = some f4 ∧ w'.cell? ⟨K, 11, none⟩ = some (.slice (some ⟨g5, 0, none⟩) n n) ∧ w'.cell? ⟨K, 12, none⟩ = some (.slice (some ⟨g6, 0, none⟩) n n)) ∧ w'.cell? ⟨gF, 0, none⟩ = some (.int .i64 (fb : Nat)) ∧ w'.cell? ⟨gF, 1, none⟩ = some (.int .i64 fa)) w5 := (HX8.out w5 HB1.out).1
          refine HK.out _ _ HS2 ?_
          intro HS
          try simp only [Act.put, List.setIfInBounds_toArray, List.set_cons_zero, List.set_cons_succ]
          refine wpAnyH_take (i := 7) (v := ?_) (by simp only [List.getElem?_toArray, List.getElem?_cons_succ, List.getElem?_cons_zero]; rfl) (by kernel_rfl) (by kernel_rfl) (by kernel_rfl) (fun _ _ _ h => h) (Or.inl ⟨by rfl, ?_⟩) HS ?_
          rotate_left
          · intro wz hSw
            try dsimp only at hSw
            obtain ⟨⟨e6, e7, e8, e9, e10, e11, e12⟩, e0, e1⟩ := hSw
            go_simp
            try with_reducible rfl
          try simp only [Act.put, List.setIfInBounds_toArray, List.set_cons_zero, List.set_cons_succ]
          refine wpAnyH_take (i := 8) (v := ?_) (by simp only [List.getElem?_toArray, List.getElem?_cons_succ, List.getElem?_cons_zero]; rfl) (by kernel_rfl) (by kernel_rfl) (by kernel_rfl) (fun _ _ _ h => h) (Or.inl ⟨by rfl, ?_⟩) HS ?_
          rotate_left
          · intro wz hSw
            try dsimp only at hSw
            obtain ⟨⟨e6, e7, e8, e9, e10, e11, e12⟩, e0, e1⟩ := hSw
            go_simp
            try with_reducible rfl
          try simp only [Act.put, List.setIfInBounds_toArray, List.set_cons_zero, List.set_cons_succ]
          refine wpAnyH_take (i := 9) (v := ?_) (by simp only [List.getElem?_toArray, List.getElem?_cons_succ, List.getElem?_cons_zero]; rfl) (by kernel_rfl) (by kernel_rfl) (by kernel_rfl) (fun _ _ _ h => h) (Or.inl ⟨by rfl, ?_⟩) HS ?_
          rotate_left
          · intro wz hSw
            try dsimp only at hSw
            obtain ⟨⟨e6, e7, e8, e9, e10, e11, e12⟩, e0, e1⟩ := hSw
            go_simp
            try with_reducible rfl
          try simp only [Act.put, List.setIfInBounds_toArray, List.set_cons_zero, List.set_cons_succ]
          refine wpAnyH_take (i := 10) (v := ?_) (by simp only [List.getElem?_toArray, List.getElem?_cons_succ, List.getElem?_cons_zero]; rfl) (by kernel_rfl) (by kernel_rfl) (by kernel_rfl) (fun _ _ _ h => h) (Or.inl ⟨by rfl, ?_⟩) HS ?_
          rotate_left
          · intro wz hSw
            try dsimp only at hSw
            obtain ⟨⟨e6, e7, e8, e9, e10, e11, e12⟩, e0, e1⟩ := hSw
            go_simp
            try with_reducible rfl
          try simp only [Act.put, List.setIfInBounds_toArray, List.set_cons_zero, List.set_cons_succ]
          refine wpAnyH_ready (rs := [11]) (by kernel_rfl) (by simp) (AllReadyH.cons (by simp only [List.getElem?_toArray, List.getElem?_cons_succ, List.getElem?_cons_zero]; rfl) ?_ AllReadyH.nil)
          intro K' HK
          rw [if_pos (by rfl)]
          clear HS
          go_simp
          go_wp2_with (go_at_call 51; refine Calls.mono (HHS.out w5 HB1.out) ?_; rintro e w6 ⟨rfl, hb1⟩)
          have HB6 : Hid (Below X.heap.size X w6) := below_after HB1.out hb1
          clear hb1
          have HS2 : (fun w' => (w'.cell? ⟨K, 6, none⟩ = some (.slice a9 n k9) ∧ w'.cell? ⟨K, 7, none⟩ = some f1 ∧ w'.cell? ⟨K, 8, none⟩ = some f2 ∧ w'.cell? ⟨K, 9, none⟩ = some f3 ∧ w'.cell? ⟨K, 10, none⟩ = some f4 ∧ w'.cell? ⟨K, 11, none⟩ = some (.slice (some ⟨g5, 0, none⟩) n n) ∧ w'.cell? ⟨K, 12, none⟩ = some (.slice (some ⟨g6, 0, none⟩) n n)) ∧ w'.cell? ⟨gF, 0, none⟩ = some (.int .i64 (fb : Nat)) ∧ w'.cell? ⟨gF, 1, none⟩ = some (.int .i64 fa)) w6 := (HX8.out w6 HB6.out).1
          refine HK.out _ _ HS2 ?_
          intro HS
          try simp only [Act.put, List.setIfInBounds_toArray, List.set_cons_zero, List.set_cons_succ]
          refine wpAnyH_take (i := 12) (v := ?_) (by simp only [List.getElem?_toArray, List.getElem?_cons_succ, List.getElem?_cons_zero]; rfl) (by kernel_rfl) (by kernel_rfl) (by kernel_rfl) (fun _ _ _ h => h) (Or.inl ⟨by rfl, ?_⟩) HS ?_
          rotate_left
          · intro wz hSw
            try dsimp only at hSw
            obtain ⟨⟨e6, e7, e8, e9, e10, e11, e12⟩, e0, e1⟩ := hSw
            go_simp
            try with_reducible rfl
          try simp only [Act.put, List.setIfInBounds_toArray, List.set_cons_zero, List.set_cons_succ]
          refine wpAnyH_take (i := 13) (v := ?_) (by simp only [List.getElem?_toArray, List.getElem?_cons_succ, List.getElem?_cons_zero]; rfl) (by kernel_rfl) (by kernel_rfl) (by kernel_rfl) (fun _ _ _ h => h) (Or.inl ⟨by rfl, ?_⟩) HS ?_
          rotate_left
          · intro wz hSw
            try dsimp only at hSw
            obtain ⟨⟨e6, e7, e8, e9, e10, e11, e12⟩, e0, e1⟩ := hSw
            go_simp
            try with_reducible rfl
          try simp only [Act.put, List.setIfInBounds_toArray, List.set_cons_zero, List.set_cons_succ]
          refine wpAnyH_done (by kernel_rfl) ?_ _
          refine NoPanic.normal ?_
          have HBN2 : Hid (Below w2.heap.size w2 w6) := (HX8.out w6 HB6.out).2.2
          clear hcw
          rcases hH : hasM S A N a fb fa with _ | _
          · have HRF : Hid (R = false) := by
              unfold Hid
              rw [HR.out]
              unfold asksM
              rw [List.all_eq_false]
              exact ⟨i, List.mem_range.2 (by omega), by rw [HAE.out, hA2, hH]; simp⟩
            go_wp2_with fail
            go_ret
            exact ⟨by rw [HRF.out]; rfl, (HXX.out w6 HBN2.out).2.2.2⟩
          · have HJ2 : Hid (∀ t, t < i + 1 → askM AH c.blocks S A N x hb ha t = true) := fun t ht => by
              rcases Nat.lt_or_ge t i with h | h
              · exact HJ.out t h
              · have : t = i := by omega
                subst this
                rw [HAE.out, hA2, hH]; rfl
            go_wp2_with fail
            go_roundg g
            case measure => omega
            case rel => exact ⟨i + 1, by go_num, by omega, HJ2, HBN2⟩
      · have hop14 : x.op = 14 := by simpa using hop
        obtain ⟨l, hl2⟩ : ∃ l, AH[hb]? = some l := ⟨_, List.getElem?_eq_getElem (by have := HKA.out.al; have := HBN.out; omega)⟩
        have hll : x.ar.length = l.length := by rw [HPH.out hop14, List.getD_eq_getElem?_getD, hl2]; rfl
        obtain ⟨y, hy⟩ : ∃ y, l[i]? = some y := ⟨_, List.getElem?_eq_getElem (by omega)⟩
        obtain ⟨hy0, hyn⟩ := HKA.out.inn hb l y hl2 (List.mem_of_getElem? hy)
        obtain ⟨fb, rfl⟩ : ∃ fb : Nat, y = (fb : Int) := ⟨y.toNat, by omega⟩
        have HFB : Hid (fb < n) := by unfold Hid; omega
        have hfe1 : AH.getD hb [] = l := by rw [List.getD_eq_getElem?_getD, hl2]; rfl
        have hfe2 : l.getD i 0 = (fb : Int) := by rw [List.getD_eq_getElem?_getD, hy]; rfl
        have HFE : Hid (((AH.getD hb []).getD i 0).toNat = fb) := by unfold Hid; rw [hfe1, hfe2]; rfl
        clear hfe1 hfe2
        obtain ⟨g9, o9, cs, e9, hg9, _, ⟨vu, rfl, hvu⟩, hcl⟩ := Lies.at (Rws.below HKA.out.rws HBX0.out) hl2
        subst e9
        obtain ⟨au, ku, rfl⟩ := Lies.slice hvu
        have u0 := hcl 0 (by decide)
        simp at u0
        rw [← hll] at u0
        obtain ⟨gu, ou, cs, rfl, hgu, _, ⟨rfl, _⟩, hcl2⟩ := Lies.at hvu hy
        have u1 := hcl2 0 (by decide)
        simp at u1
        obtain ⟨bl, hbl⟩ : ∃ bl, c.blocks[fb]? = some bl := ⟨_, List.getElem?_eq_getElem (by have := HKA.out.len; have := HFB.out; omega)⟩
        obtain ⟨L, hL⟩ : ∃ L, L = bl.length := ⟨_, rfl⟩
        have HLE : Hid (((c.blocks.getD fb []).length : Int) = (L : Int)) := by unfold Hid; rw [List.getD_eq_getElem?_getD, hbl, hL]; rfl
        obtain ⟨gb, ob, cs, eb, hgbB, _, ⟨vk, rfl, hvk⟩, hcl3⟩ := Lies.at (HKA.out.blks.below HBX0.out) hbl
        subst eb
        obtain ⟨ak, ck, rfl⟩ := Lies.slice hvk
        have v0 := hcl3 0 (by decide)
        simp at v0
        rw [← hL] at v0
        have HV0 : Hid (_) := v0
        have HNE : Hid (gb ≠ gF ∧ g9 ≠ gF ∧ gu ≠ gF ∧ G + 1 ≠ gF ∧ K ≠ gF) := by
          have h1 := HB2.out.size
          have h2 := HBW.out
          have h3 := HGF.out
          have h4 := lt_of_block (HXX.out w2 (Below.refl _ _)).2.2.1
          have h5 := lt_of_block (HXX.out w2 (Below.refl _ _)).1.obj
          unfold Hid; omega
        have hbI : (hb : Int) < (n : Int) := by have := HBN.out; omega
        have hfI : (fb : Int) < (n : Int) := by have := HFB.out; omega
        obtain ⟨_, _, _, _, _, k5, k6, _⟩ := cells14 HKSW.out.obj
        have hcw : (fun w' => w'.cell? ⟨K, 6, none⟩ = some (.slice (some ⟨g9, o9, none⟩) n k9) ∧ w'.cell? ⟨G + 1, 0, none⟩ = some (.int .i64 (hb : Nat)) ∧ w'.cell? ⟨g9, o9 + hb, none⟩ = some (.slice (some ⟨gu, ou, none⟩) x.ar.length ku) ∧ w'.cell? ⟨gu, ou + i, none⟩ = some (.int .i64 (fb : Nat))) W := ⟨k6, s0, u0, u1⟩
        have zF : W.frozen? ⟨gF, 0, none⟩ = false := thawA HFW.out 0
        have cF := (cells2 HFW.out).1
        clear hll hl2 hy hy0 hyn hcl hcl2 hcl3 hvu hvk hbl hL hgbB hg9 hgu hop14 k5 k6 v0 u0 u1 s0 s1
        go_upto_region 6 with fail
        refine wp_region_noPanic ?_
        refine wp_region_held_drew (S := (fun w' => w'.cell? ⟨K, 6, none⟩ = some (.slice (some ⟨g9, o9, none⟩) n k9) ∧ w'.cell? ⟨G + 1, 0, none⟩ = some (.int .i64 (hb : Nat)) ∧ w'.cell? ⟨g9, o9 + hb, none⟩ = some (.slice (some ⟨gu, ou, none⟩) x.ar.length ku) ∧ w'.cell? ⟨gu, ou + i, none⟩ = some (.int .i64 (fb : Nat)))) (by kernel_rfl) hcw ?_
        intro HS
        refine wpAnyH_take (i := 0) (v := ?_) (by simp only [List.getElem?_toArray, List.getElem?_cons_succ, List.getElem?_cons_zero]; rfl) (by kernel_rfl) (by kernel_rfl) (by kernel_rfl) (fun _ _ _ h => h) (Or.inl ⟨by rfl, ?_⟩) HS ?_
        rotate_left
        · intro wz hSw
          try dsimp only at hSw
          obtain ⟨e0, e1, e2, e3⟩ := hSw
          go_simp
          try with_reducible rfl
        try simp only [Act.put, List.setIfInBounds_toArray, List.set_cons_zero, List.set_cons_succ]
        refine wpAnyH_take (i := 1) (v := ?_) (by simp only [List.getElem?_toArray, List.getElem?_cons_succ, List.getElem?_cons_zero]; rfl) (by kernel_rfl) (by kernel_rfl) (by kernel_rfl) (fun _ _ _ h => h) (Or.inl ⟨by rfl, ?_⟩) HS ?_
        rotate_left
        · intro wz hSw
          try dsimp only at hSw
          obtain ⟨e0, e1, e2, e3⟩ := hSw
          go_simp
          try with_reducible rfl
        try simp only [Act.put, List.setIfInBounds_toArray, List.set_cons_zero, List.set_cons_succ]
        refine wpAnyH_take (i := 2) (v := ?_) (by simp only [List.getElem?_toArray, List.getElem?_cons_succ, List.getElem?_cons_zero]; rfl) (by kernel_rfl) (by kernel_rfl) (by kernel_rfl) (fun _ _ _ h => h) (Or.inl ⟨by rfl, ?_⟩) HS ?_
        rotate_left
        · intro wz hSw
          try dsimp only at hSw
          obtain ⟨e0, e1, e2, e3⟩ := hSw
          go_simp
          try with_reducible rfl
        try simp only [Act.put, List.setIfInBounds_toArray, List.set_cons_zero, List.set_cons_succ]
        refine wpAnyH_take (i := 3) (v := ?_) (by simp only [List.getElem?_toArray, List.getElem?_cons_succ, List.getElem?_cons_zero]; rfl) (by kernel_rfl) (by kernel_rfl) (by kernel_rfl) (fun _ _ _ h => h) (Or.inl ⟨by rfl, ?_⟩) HS ?_
        rotate_left
        · intro wz hSw
          try dsimp only at hSw
          obtain ⟨e0, e1, e2, e3⟩ := hSw
          go_simp
          try with_reducible rfl
        try simp only [Act.put, List.setIfInBounds_toArray, List.set_cons_zero, List.set_cons_succ]
        refine wpAnyH_take (i := 4) (v := ?_) (by simp only [List.getElem?_toArray, List.getElem?_cons_succ, List.getElem?_cons_zero]; rfl) (by kernel_rfl) (by kernel_rfl) (by kernel_rfl) (fun _ _ _ h => h) (Or.inl ⟨by rfl, ?_⟩) HS ?_
        rotate_left
        · intro wz hSw
          try dsimp only at hSw
          obtain ⟨e0, e1, e2, e3⟩ := hSw
          go_simp
          try with_reducible rfl
        try simp only [Act.put, List.setIfInBounds_toArray, List.set_cons_zero, List.set_cons_succ]
        refine wpAnyH_take (i := 5) (v := ?_) (by simp only [List.getElem?_toArray, List.getElem?_cons_succ, List.getElem?_cons_zero]; rfl) (by kernel_rfl) (by kernel_rfl) (by kernel_rfl) (fun _ _ _ h => h) (Or.inl ⟨by rfl, ?_⟩) HS ?_
        rotate_left
        · intro wz hSw
          try dsimp only at hSw
          obtain ⟨e0, e1, e2, e3⟩ := hSw
          go_simp
          try with_reducible rfl
        try simp only [Act.put, List.setIfInBounds_toArray, List.set_cons_zero, List.set_cons_succ]
        refine wpAnyH_take (i := 6) (v := ?_) (by simp only [List.getElem?_toArray, List.getElem?_cons_succ, List.getElem?_cons_zero]; rfl) (by kernel_rfl) (by kernel_rfl) (by kernel_rfl) (fun _ _ _ h => h) (Or.inl ⟨by rfl, ?_⟩) HS ?_
        rotate_left
        · intro wz hSw
          try dsimp only at hSw
          obtain ⟨e0, e1, e2, e3⟩ := hSw
          go_simp
          try with_reducible rfl
        try simp only [Act.put, List.setIfInBounds_toArray, List.set_cons_zero, List.set_cons_succ]
        refine wpAnyH_take (i := 7) (v := ?_) (by simp only [List.getElem?_toArray, List.getElem?_cons_succ, List.getElem?_cons_zero]; rfl) (by kernel_rfl) (by kernel_rfl) (by kernel_rfl) (fun _ _ _ h => h) (Or.inl ⟨by rfl, ?_⟩) HS ?_
        rotate_left
        · intro wz hSw
          try dsimp only at hSw
          obtain ⟨e0, e1, e2, e3⟩ := hSw
          go_simp
          try with_reducible rfl
        try simp only [Act.put, List.setIfInBounds_toArray, List.set_cons_zero, List.set_cons_succ]
        refine wpAnyH_take (i := 8) (v := ?_) (by simp only [List.getElem?_toArray, List.getElem?_cons_succ, List.getElem?_cons_zero]; rfl) (by kernel_rfl) (by kernel_rfl) (by kernel_rfl) (fun _ _ _ h => h) (Or.inl ⟨by rfl, ?_⟩) HS ?_
        rotate_left
        · intro wz hSw
          try dsimp only at hSw
          obtain ⟨e0, e1, e2, e3⟩ := hSw
          go_simp
          try with_reducible rfl
        try simp only [Act.put, List.setIfInBounds_toArray, List.set_cons_zero, List.set_cons_succ]
        refine wpAnyH_take (i := 9) (v := ?_) (by simp only [List.getElem?_toArray, List.getElem?_cons_succ, List.getElem?_cons_zero]; rfl) (by kernel_rfl) (by kernel_rfl) (by kernel_rfl) (fun _ _ _ h => h) (Or.inl ⟨by rfl, ?_⟩) HS ?_
        rotate_left
        · intro wz hSw
          try dsimp only at hSw
          obtain ⟨e0, e1, e2, e3⟩ := hSw
          go_simp
          try with_reducible rfl
        try simp only [Act.put, List.setIfInBounds_toArray, List.set_cons_zero, List.set_cons_succ]
        refine wpAnyH_take (i := 10) (v := ?_) (by simp only [List.getElem?_toArray, List.getElem?_cons_succ, List.getElem?_cons_zero]; rfl) (by kernel_rfl) (by kernel_rfl) (by kernel_rfl) (fun _ _ _ h => h) (Or.inl ⟨by rfl, ?_⟩) HS ?_
        rotate_left
        · intro wz hSw
          try dsimp only at hSw
          obtain ⟨e0, e1, e2, e3⟩ := hSw
          go_simp
          try with_reducible rfl
        try simp only [Act.put, List.setIfInBounds_toArray, List.set_cons_zero, List.set_cons_succ]
        refine wpAnyH_take (i := 11) (v := ?_) (by simp only [List.getElem?_toArray, List.getElem?_cons_succ, List.getElem?_cons_zero]; rfl) (by kernel_rfl) (by kernel_rfl) (by kernel_rfl) (fun _ _ _ h => h) (Or.inl ⟨by rfl, ?_⟩) HS ?_
        rotate_left
        · intro wz hSw
          try dsimp only at hSw
          obtain ⟨e0, e1, e2, e3⟩ := hSw
          go_simp
          try with_reducible rfl
        try simp only [Act.put, List.setIfInBounds_toArray, List.set_cons_zero, List.set_cons_succ]
        refine wpAnyH_take (i := 12) (v := ?_) (by simp only [List.getElem?_toArray, List.getElem?_cons_succ, List.getElem?_cons_zero]; rfl) (by kernel_rfl) (by kernel_rfl) (by kernel_rfl) (fun _ _ _ h => h) (Or.inl ⟨by rfl, ?_⟩) HS ?_
        rotate_left
        · intro wz hSw
          try dsimp only at hSw
          obtain ⟨e0, e1, e2, e3⟩ := hSw
          go_simp
          try with_reducible rfl
        try simp only [Act.put, List.setIfInBounds_toArray, List.set_cons_zero, List.set_cons_succ]
        refine wpAnyH_ready (rs := [13]) (by kernel_rfl) (by simp) (AllReadyH.cons (by simp only [List.getElem?_toArray, List.getElem?_cons_succ, List.getElem?_cons_zero]; rfl) ?_ AllReadyH.nil)
        intro K' HK
        rw [if_pos (by rfl)]
        clear HS
        go_simp
        obtain ⟨W1, hW1⟩ : ∃ W1, W1 = (W.setCell ⟨gF, 0, none⟩ (.int .i64 (fb : Nat))).drew := ⟨_, rfl⟩
        rw [← hW1]
        have hF1 : W1.heap[gF]? = some (.cells #[.int .i64 (fb : Nat), .int .i64 ha] 67) := by
          have h := heap_setCell_same (w := W) (o := 0) HFW.out (.int .i64 (fb : Nat))
          rw [hW1]
          exact h.trans (by simp)
        have hO1 : ∀ k, k ≠ gF → W1.heap[k]? = W.heap[k]? := fun k hk => by rw [hW1]; exact Below.heap_setCell _ _ _ _ hk
        have hB1 : Below w2.heap.size w2 W1 := by rw [hW1]; exact (HBW2.out.setCell HGF.out _).drew
        have HF1 : Hid (_) := hF1
        have HO1 : Hid (_) := hO1
        have HBL1 : Hid (Below w2.heap.size w2 W1) := hB1
        have f1 : ∀ (b o : Nat), b ≠ gF → W1.cell? ⟨b, o, none⟩ = W.cell? ⟨b, o, none⟩ := fun b o h => by unfold World.cell?; rw [show W1.heap[(⟨b, o, none⟩ : Addr).block]? = _ from hO1 b h]
        have HS2 : (fun w' => w'.cell? ⟨K, 6, none⟩ = some (.slice (some ⟨g9, o9, none⟩) n k9) ∧ w'.cell? ⟨G + 1, 0, none⟩ = some (.int .i64 (hb : Nat)) ∧ w'.cell? ⟨g9, o9 + hb, none⟩ = some (.slice (some ⟨gu, ou, none⟩) x.ar.length ku) ∧ w'.cell? ⟨gu, ou + i, none⟩ = some (.int .i64 (fb : Nat))) W1 := by
          obtain ⟨e0, e1, e2, e3⟩ := hcw
          obtain ⟨_, n9, nu, nG, nK⟩ := HNE.out
          exact ⟨(f1 _ _ nK).trans e0, (f1 _ _ nG).trans e1, (f1 _ _ n9).trans e2, (f1 _ _ nu).trans e3⟩
        have v1 : W1.cell? ⟨gb, ob + fb, none⟩ = some (.slice ak L ck) := (f1 _ _ HNE.out.1).trans HV0.out
        refine HK.out _ _ HS2 ?_
        intro HS
        try simp only [Act.put, List.setIfInBounds_toArray, List.set_cons_zero, List.set_cons_succ]
        refine wpAnyH_done (by kernel_rfl) ?_ _
        refine NoPanic.normal ?_
        clear hcw HS HS2 zF cF hW1 hO1 hB1 hF1 f1
        obtain ⟨_, _, _, _, _, k5, k6, _⟩ := cells14 (HXX.out W1 HBL1.out).1.obj
        have hcw : (fun w' => w'.cell? ⟨K, 5, none⟩ = some (.slice (some ⟨gb, ob, none⟩) n kb) ∧ w'.cell? ⟨gF, 0, none⟩ = some (.int .i64 (fb : Nat)) ∧ w'.cell? ⟨gb, ob + fb, none⟩ = some (.slice ak L ck)) W1 := ⟨k5, (cells2 HF1.out).1, v1⟩
        have zF : W1.frozen? ⟨gF, 1, none⟩ = false := thawA HF1.out 1
        have cF := (cells2 HF1.out).2
        clear v1 k5 k6
        go_upto_region 7 with fail
        refine wp_region_noPanic ?_
        refine wp_region_held_drew (S := (fun w' => w'.cell? ⟨K, 5, none⟩ = some (.slice (some ⟨gb, ob, none⟩) n kb) ∧ w'.cell? ⟨gF, 0, none⟩ = some (.int .i64 (fb : Nat)) ∧ w'.cell? ⟨gb, ob + fb, none⟩ = some (.slice ak L ck))) (by kernel_rfl) hcw ?_
        intro HS
        refine wpAnyH_take (i := 0) (v := ?_) (by simp only [List.getElem?_toArray, List.getElem?_cons_succ, List.getElem?_cons_zero]; rfl) (by kernel_rfl) (by kernel_rfl) (by kernel_rfl) (fun _ _ _ h => h) (Or.inl ⟨by rfl, ?_⟩) HS ?_
        rotate_left
        · intro wz hSw
          try dsimp only at hSw
          obtain ⟨e0, e1, e2⟩ := hSw
          go_simp
          try with_reducible rfl
        try simp only [Act.put, List.setIfInBounds_toArray, List.set_cons_zero, List.set_cons_succ]
        refine wpAnyH_take (i := 1) (v := ?_) (by simp only [List.getElem?_toArray, List.getElem?_cons_succ, List.getElem?_cons_zero]; rfl) (by kernel_rfl) (by kernel_rfl) (by kernel_rfl) (fun _ _ _ h => h) (Or.inl ⟨by rfl, ?_⟩) HS ?_
        rotate_left
        · intro wz hSw
          try dsimp only at hSw
          obtain ⟨e0, e1, e2⟩ := hSw
          go_simp
          try with_reducible rfl
        try simp only [Act.put, List.setIfInBounds_toArray, List.set_cons_zero, List.set_cons_succ]
        refine wpAnyH_take (i := 2) (v := ?_) (by simp only [List.getElem?_toArray, List.getElem?_cons_succ, List.getElem?_cons_zero]; rfl) (by kernel_rfl) (by kernel_rfl) (by kernel_rfl) (fun _ _ _ h => h) (Or.inl ⟨by rfl, ?_⟩) HS ?_
        rotate_left
        · intro wz hSw
          try dsimp only at hSw
          obtain ⟨e0, e1, e2⟩ := hSw
          go_simp
          try with_reducible rfl
        try simp only [Act.put, List.setIfInBounds_toArray, List.set_cons_zero, List.set_cons_succ]
        refine wpAnyH_take (i := 3) (v := ?_) (by simp only [List.getElem?_toArray, List.getElem?_cons_succ, List.getElem?_cons_zero]; rfl) (by kernel_rfl) (by kernel_rfl) (by kernel_rfl) (fun _ _ _ h => h) (Or.inl ⟨by rfl, ?_⟩) HS ?_
        rotate_left
        · intro wz hSw
          try dsimp only at hSw
          obtain ⟨e0, e1, e2⟩ := hSw
          go_simp
          try with_reducible rfl
        try simp only [Act.put, List.setIfInBounds_toArray, List.set_cons_zero, List.set_cons_succ]
        refine wpAnyH_take (i := 4) (v := ?_) (by simp only [List.getElem?_toArray, List.getElem?_cons_succ, List.getElem?_cons_zero]; rfl) (by kernel_rfl) (by kernel_rfl) (by kernel_rfl) (fun _ _ _ h => h) (Or.inl ⟨by rfl, ?_⟩) HS ?_
        rotate_left
        · intro wz hSw
          try dsimp only at hSw
          obtain ⟨e0, e1, e2⟩ := hSw
          go_simp
          try with_reducible rfl
        try simp only [Act.put, List.setIfInBounds_toArray, List.set_cons_zero, List.set_cons_succ]
        refine wpAnyH_take (i := 5) (v := ?_) (by simp only [List.getElem?_toArray, List.getElem?_cons_succ, List.getElem?_cons_zero]; rfl) (by kernel_rfl) (by kernel_rfl) (by kernel_rfl) (fun _ _ _ h => h) (Or.inl ⟨by rfl, ?_⟩) HS ?_
        rotate_left
        · intro wz hSw
          try dsimp only at hSw
          obtain ⟨e0, e1, e2⟩ := hSw
          go_simp
          try with_reducible rfl
        try simp only [Act.put, List.setIfInBounds_toArray, List.set_cons_zero, List.set_cons_succ]
        refine wpAnyH_take (i := 6) (v := ?_) (by simp only [List.getElem?_toArray, List.getElem?_cons_succ, List.getElem?_cons_zero]; rfl) (by kernel_rfl) (by kernel_rfl) (by kernel_rfl) (fun _ _ _ h => h) (Or.inl ⟨by rfl, ?_⟩) HS ?_
        rotate_left
        · intro wz hSw
          try dsimp only at hSw
          obtain ⟨e0, e1, e2⟩ := hSw
          go_simp
          try with_reducible rfl
        try simp only [Act.put, List.setIfInBounds_toArray, List.set_cons_zero, List.set_cons_succ]
        refine wpAnyH_take (i := 7) (v := ?_) (by simp only [List.getElem?_toArray, List.getElem?_cons_succ, List.getElem?_cons_zero]; rfl) (by kernel_rfl) (by kernel_rfl) (by kernel_rfl) (fun _ _ _ h => h) (Or.inl ⟨by rfl, ?_⟩) HS ?_
        rotate_left
        · intro wz hSw
          try dsimp only at hSw
          obtain ⟨e0, e1, e2⟩ := hSw
          go_simp
          try with_reducible rfl
        try simp only [Act.put, List.setIfInBounds_toArray, List.set_cons_zero, List.set_cons_succ]
        refine wpAnyH_take (i := 8) (v := ?_) (by simp only [List.getElem?_toArray, List.getElem?_cons_succ, List.getElem?_cons_zero]; rfl) (by kernel_rfl) (by kernel_rfl) (by kernel_rfl) (fun _ _ _ h => h) (Or.inl ⟨by rfl, ?_⟩) HS ?_
        rotate_left
        · intro wz hSw
          try dsimp only at hSw
          obtain ⟨e0, e1, e2⟩ := hSw
          go_simp
          try with_reducible rfl
        try simp only [Act.put, List.setIfInBounds_toArray, List.set_cons_zero, List.set_cons_succ]
        refine wpAnyH_take (i := 9) (v := ?_) (by simp only [List.getElem?_toArray, List.getElem?_cons_succ, List.getElem?_cons_zero]; rfl) (by kernel_rfl) (by kernel_rfl) (by kernel_rfl) (fun _ _ _ h => h) (Or.inl ⟨by rfl, ?_⟩) HS ?_
        rotate_left
        · intro wz hSw
          try dsimp only at hSw
          obtain ⟨e0, e1, e2⟩ := hSw
          go_simp
          try with_reducible rfl
        try simp only [Act.put, List.setIfInBounds_toArray, List.set_cons_zero, List.set_cons_succ]
        refine wpAnyH_take (i := 10) (v := ?_) (by simp only [List.getElem?_toArray, List.getElem?_cons_succ, List.getElem?_cons_zero]; rfl) (by kernel_rfl) (by kernel_rfl) (by kernel_rfl) (fun _ _ _ h => h) (Or.inl ⟨by rfl, ?_⟩) HS ?_
        rotate_left
        · intro wz hSw
          try dsimp only at hSw
          obtain ⟨e0, e1, e2⟩ := hSw
          go_simp
          try with_reducible rfl
        try simp only [Act.put, List.setIfInBounds_toArray, List.set_cons_zero, List.set_cons_succ]
        refine wpAnyH_ready (rs := [11]) (by kernel_rfl) (by simp) (AllReadyH.cons (by simp only [List.getElem?_toArray, List.getElem?_cons_succ, List.getElem?_cons_zero]; rfl) ?_ AllReadyH.nil)
        intro K' HK
        rw [if_pos (by rfl)]
        clear HS
        go_simp
        obtain ⟨X, hX⟩ : ∃ X, X = (W1.setCell ⟨gF, 1, none⟩ (.int .i64 (L : Nat))).drew := ⟨_, rfl⟩
        rw [← hX]
        have hF2 : X.heap[gF]? = some (.cells #[.int .i64 (fb : Nat), .int .i64 (L : Nat)] 67) := by
          have h := heap_setCell_same (w := W1) (o := 1) HF1.out (.int .i64 (L : Nat))
          rw [hX]
          exact h.trans (by simp)
        have hO2 : ∀ k, k ≠ gF → X.heap[k]? = W1.heap[k]? := fun k hk => by rw [hX]; exact Below.heap_setCell _ _ _ _ hk
        have HBX : Hid (Below w2.heap.size w2 X) := by rw [hX]; exact (HBL1.out.setCell HGF.out _).drew
        have f1 : ∀ (b o : Nat), b ≠ gF → X.cell? ⟨b, o, none⟩ = W1.cell? ⟨b, o, none⟩ := fun b o h => by unfold World.cell?; rw [show X.heap[(⟨b, o, none⟩ : Addr).block]? = _ from hO2 b h]
        have HS2 : (fun w' => w'.cell? ⟨K, 5, none⟩ = some (.slice (some ⟨gb, ob, none⟩) n kb) ∧ w'.cell? ⟨gF, 0, none⟩ = some (.int .i64 (fb : Nat)) ∧ w'.cell? ⟨gb, ob + fb, none⟩ = some (.slice ak L ck)) X := by
          obtain ⟨e0, e1, e2⟩ := hcw
          obtain ⟨nb, n9, nu, nG, nK⟩ := HNE.out
          exact ⟨(f1 _ _ nK).trans e0, (cells2 hF2).1, (f1 _ _ nb).trans e2⟩
        obtain ⟨fa, hfa⟩ : ∃ fa : Int, fa = (L : Int) := ⟨_, rfl⟩
        have HFX : Hid (X.heap[gF]? = some (.cells #[.int .i64 (fb : Nat), .int .i64 fa] 67)) := by rw [hfa]; exact hF2
        have HAE : Hid (askM AH c.blocks S A N x hb ha i = (A fb == -1 || hasM S A N a fb fa)) := by
          unfold Hid askM fromM
          rw [HGA.out]
          simp only [hop, if_true]
          rw [HFE.out, HLE.out, hfa]
        refine HK.out _ _ HS2 ?_
        intro HS
        try simp only [Act.put, List.setIfInBounds_toArray, List.set_cons_zero, List.set_cons_succ]
        refine wpAnyH_done (by kernel_rfl) ?_ _
        refine NoPanic.normal ?_
        clear hcw HS HS2 zF cF hX hO2 hF2 f1 hfa
        go_upto_region 8 with fail
        have HX8 : Hid (∀ Y, Below X.heap.size X Y → (fun w' => (w'.cell? ⟨K, 6, none⟩ = some (.slice (some ⟨g9, o9, none⟩) n k9) ∧ w'.cell? ⟨K, 7, none⟩ = some f1 ∧ w'.cell? ⟨K, 8, none⟩ = some f2 ∧ w'.cell? ⟨K, 9, none⟩ = some f3 ∧ w'.cell? ⟨K, 10, none⟩ = some f4 ∧ w'.cell? ⟨K, 11, none⟩ = some (.slice (some ⟨g5, 0, none⟩) n n) ∧ w'.cell? ⟨K, 12, none⟩ = some (.slice (some ⟨g6, 0, none⟩) n n)) ∧ w'.cell? ⟨gF, 0, none⟩ = some (.int .i64 (fb : Nat)) ∧ w'.cell? ⟨gF, 1, none⟩ = some (.int .i64 fa)) Y ∧ KS Y K c (.slice (some ⟨gb, ob, none⟩) n kb) (.slice (some ⟨g9, o9, none⟩) n k9) f1 f2 f3 f4 g5 g6 n A N mp S ∧ Below w2.heap.size w2 Y) := fun Y k => by
          have hb2 := below_after HBX.out k
          obtain ⟨h1, _, _, _⟩ := HXX.out Y hb2
          obtain ⟨_, _, _, _, _, _, q6, q7, q8, q9, q10, q11, q12, _⟩ := cells14 h1.obj
          obtain ⟨y0, y1⟩ := cells2 ((k.block gF (lt_of_block HFX.out)).trans HFX.out)
          exact ⟨⟨⟨q6, q7, q8, q9, q10, q11, q12⟩, y0, y1⟩, h1, hb2⟩
        have HCB : Hid (∀ Y, Below X.heap.size X Y → Calls Tryd.prog 50 #[.agg #[.slice (some ⟨g9, o9, none⟩) n k9, f1, f2, f3, f4, .slice (some ⟨g5, 0, none⟩) n n, .slice (some ⟨g6, 0, none⟩) n n], .int .i64 (fb : Nat)] Y fun e w' => e = .returned (.bool (A fb != -1)) ∧ Below Y.heap.size Y w') := fun Y k => canBe_any _ f1 f2 f3 f4 _ g5 n fb A Y HFB.out (HX8.out Y k).2.1.r5
        have HHS : Hid (∀ Y, Below X.heap.size X Y → Calls Tryd.prog 51 #[.pointer (some ⟨K, 0, none⟩), .int .i64 a, .agg #[.int .i64 (fb : Nat), .int .i64 fa]] Y fun e w' => e = .returned (.bool (hasM S A N a fb fa)) ∧ Below Y.heap.size Y w') := fun Y k => hasV_any K c _ _ f1 f2 f3 f4 g5 g6 n A N mp S a fa fb Y (HX8.out Y k).2.1 HFB.out HA64.out
        have HDD : Hid (Below X.heap.size X X.drew) := (Below.refl _ _).drew
        have hcw := (HX8.out X (Below.refl _ _)).1
        rcases hA : (A fb != -1) with _ | _
        · rw [hA] at HCB
          have HJ2 : Hid (∀ t, t < i + 1 → askM AH c.blocks S A N x hb ha t = true) := fun t ht => by
            rcases Nat.lt_or_ge t i with h | h
            · exact HJ.out t h
            · have : t = i := by omega
              subst this
              rw [HAE.out]
              have : (A fb == -1) = true := by simpa using hA
              rw [this]; rfl
          refine wp_region_noPanic ?_
          refine wp_region_held_drew (S := (fun w' => (w'.cell? ⟨K, 6, none⟩ = some (.slice (some ⟨g9, o9, none⟩) n k9) ∧ w'.cell? ⟨K, 7, none⟩ = some f1 ∧ w'.cell? ⟨K, 8, none⟩ = some f2 ∧ w'.cell? ⟨K, 9, none⟩ = some f3 ∧ w'.cell? ⟨K, 10, none⟩ = some f4 ∧ w'.cell? ⟨K, 11, none⟩ = some (.slice (some ⟨g5, 0, none⟩) n n) ∧ w'.cell? ⟨K, 12, none⟩ = some (.slice (some ⟨g6, 0, none⟩) n n)) ∧ w'.cell? ⟨gF, 0, none⟩ = some (.int .i64 (fb : Nat)) ∧ w'.cell? ⟨gF, 1, none⟩ = some (.int .i64 fa))) (by kernel_rfl) hcw ?_
          intro HS
          refine wpAnyH_take (i := 0) (v := ?_) (by simp only [List.getElem?_toArray, List.getElem?_cons_succ, List.getElem?_cons_zero]; rfl) (by kernel_rfl) (by kernel_rfl) (by kernel_rfl) (fun _ _ _ h => h) (Or.inl ⟨by rfl, ?_⟩) HS ?_
          rotate_left
          · intro wz hSw
            try dsimp only at hSw
            obtain ⟨⟨e6, e7, e8, e9, e10, e11, e12⟩, e0, e1⟩ := hSw
            go_simp
            try with_reducible rfl
          try simp only [Act.put, List.setIfInBounds_toArray, List.set_cons_zero, List.set_cons_succ]
          refine wpAnyH_take (i := 1) (v := ?_) (by simp only [List.getElem?_toArray, List.getElem?_cons_succ, List.getElem?_cons_zero]; rfl) (by kernel_rfl) (by kernel_rfl) (by kernel_rfl) (fun _ _ _ h => h) (Or.inl ⟨by rfl, ?_⟩) HS ?_
          rotate_left
          · intro wz hSw
            try dsimp only at hSw
            obtain ⟨⟨e6, e7, e8, e9, e10, e11, e12⟩, e0, e1⟩ := hSw
            go_simp
            try with_reducible rfl
          try simp only [Act.put, List.setIfInBounds_toArray, List.set_cons_zero, List.set_cons_succ]
          refine wpAnyH_take (i := 2) (v := ?_) (by simp only [List.getElem?_toArray, List.getElem?_cons_succ, List.getElem?_cons_zero]; rfl) (by kernel_rfl) (by kernel_rfl) (by kernel_rfl) (fun _ _ _ h => h) (Or.inl ⟨by rfl, ?_⟩) HS ?_
          rotate_left
          · intro wz hSw
            try dsimp only at hSw
            obtain ⟨⟨e6, e7, e8, e9, e10, e11, e12⟩, e0, e1⟩ := hSw
            go_simp
            try with_reducible rfl
          try simp only [Act.put, List.setIfInBounds_toArray, List.set_cons_zero, List.set_cons_succ]
          refine wpAnyH_take (i := 3) (v := ?_) (by simp only [List.getElem?_toArray, List.getElem?_cons_succ, List.getElem?_cons_zero]; rfl) (by kernel_rfl) (by kernel_rfl) (by kernel_rfl) (fun _ _ _ h => h) (Or.inl ⟨by rfl, ?_⟩) HS ?_
          rotate_left
          · intro wz hSw
            try dsimp only at hSw
            obtain ⟨⟨e6, e7, e8, e9, e10, e11, e12⟩, e0, e1⟩ := hSw
            go_simp
            try with_reducible rfl
          try simp only [Act.put, List.setIfInBounds_toArray, List.set_cons_zero, List.set_cons_succ]
          refine wpAnyH_take (i := 4) (v := ?_) (by simp only [List.getElem?_toArray, List.getElem?_cons_succ, List.getElem?_cons_zero]; rfl) (by kernel_rfl) (by kernel_rfl) (by kernel_rfl) (fun _ _ _ h => h) (Or.inl ⟨by rfl, ?_⟩) HS ?_
          rotate_left
          · intro wz hSw
            try dsimp only at hSw
            obtain ⟨⟨e6, e7, e8, e9, e10, e11, e12⟩, e0, e1⟩ := hSw
            go_simp
            try with_reducible rfl
          try simp only [Act.put, List.setIfInBounds_toArray, List.set_cons_zero, List.set_cons_succ]
          refine wpAnyH_take (i := 5) (v := ?_) (by simp only [List.getElem?_toArray, List.getElem?_cons_succ, List.getElem?_cons_zero]; rfl) (by kernel_rfl) (by kernel_rfl) (by kernel_rfl) (fun _ _ _ h => h) (Or.inl ⟨by rfl, ?_⟩) HS ?_
          rotate_left
          · intro wz hSw
            try dsimp only at hSw
            obtain ⟨⟨e6, e7, e8, e9, e10, e11, e12⟩, e0, e1⟩ := hSw
            go_simp
            try with_reducible rfl
          try simp only [Act.put, List.setIfInBounds_toArray, List.set_cons_zero, List.set_cons_succ]
          refine wpAnyH_ready (rs := [6]) (by kernel_rfl) (by simp) (AllReadyH.cons (by simp only [List.getElem?_toArray, List.getElem?_cons_succ, List.getElem?_cons_zero]; rfl) ?_ AllReadyH.nil)
          intro K' HK
          rw [if_pos (by rfl)]
          clear HS
          go_simp
          go_wp2_with (go_at_call 50; refine Calls.mono (HCB.out X.drew HDD.out) ?_; rintro e w5 ⟨rfl, hb1⟩)
          have HB1 : Hid (Below X.heap.size X w5) := below_after HDD.out hb1
          clear hb1
          have HS2 : (fun w' => (w'.cell? ⟨K, 6, none⟩ = some (.slice (some ⟨g9, o9, none⟩) n k9) ∧ w'.cell? ⟨K, 7, none⟩ = some f1 ∧ w'.cell? ⟨K, 8, none⟩ = some f2 ∧ w'.cell? ⟨K, 9, none⟩ = some f3 ∧ w'.cell? ⟨K, 10, none⟩ = some f4 ∧ w'.cell? ⟨K, 11, none⟩ = some (.slice (some ⟨g5, 0, none⟩) n n) ∧ w'.cell? ⟨K, 12, none⟩ = some (.slice (some ⟨g6, 0, none⟩) n n)) ∧ w'.cell? ⟨gF, 0, none⟩ = some (.int .i64 (fb : Nat)) ∧ w'.cell? ⟨gF, 1, none⟩ = some (.int .i64 fa)) w5 := (HX8.out w5 HB1.out).1
          refine HK.out _ _ HS2 ?_
          intro HS
          try simp only [Act.put, List.setIfInBounds_toArray, List.set_cons_zero, List.set_cons_succ]
          refine wpAnyH_take (i := 7) (v := ?_) (by simp only [List.getElem?_toArray, List.getElem?_cons_succ, List.getElem?_cons_zero]; rfl) (by kernel_rfl) (by kernel_rfl) (by kernel_rfl) (fun _ _ _ h => h) (Or.inl ⟨by rfl, ?_⟩) HS ?_
          rotate_left
          · intro wz hSw
            try dsimp only at hSw
            obtain ⟨⟨e6, e7, e8, e9, e10, e11, e12⟩, e0, e1⟩ := hSw
            go_simp
            try with_reducible rfl
          try simp only [Act.put, List.setIfInBounds_toArray, List.set_cons_zero, List.set_cons_succ]
          refine wpAnyH_take (i := 8) (v := undef) (by simp only [List.getElem?_toArray, List.getElem?_cons_succ, List.getElem?_cons_zero]; rfl) (by kernel_rfl) (by kernel_rfl) (by kernel_rfl) (fun _ _ _ h => h) (Or.inr ⟨by rfl, rfl⟩) HS ?_
          try simp only [Act.put, List.setIfInBounds_toArray, List.set_cons_zero, List.set_cons_succ]
          refine wpAnyH_take (i := 9) (v := undef) (by simp only [List.getElem?_toArray, List.getElem?_cons_succ, List.getElem?_cons_zero]; rfl) (by kernel_rfl) (by kernel_rfl) (by kernel_rfl) (fun _ _ _ h => h) (Or.inr ⟨by rfl, rfl⟩) HS ?_
          try simp only [Act.put, List.setIfInBounds_toArray, List.set_cons_zero, List.set_cons_succ]
          refine wpAnyH_take (i := 10) (v := undef) (by simp only [List.getElem?_toArray, List.getElem?_cons_succ, List.getElem?_cons_zero]; rfl) (by kernel_rfl) (by kernel_rfl) (by kernel_rfl) (fun _ _ _ h => h) (Or.inr ⟨by rfl, rfl⟩) HS ?_
          try simp only [Act.put, List.setIfInBounds_toArray, List.set_cons_zero, List.set_cons_succ]
          refine wpAnyH_take (i := 11) (v := undef) (by simp only [List.getElem?_toArray, List.getElem?_cons_succ, List.getElem?_cons_zero]; rfl) (by kernel_rfl) (by kernel_rfl) (by kernel_rfl) (fun _ _ _ h => h) (Or.inr ⟨by rfl, rfl⟩) HS ?_
          try simp only [Act.put, List.setIfInBounds_toArray, List.set_cons_zero, List.set_cons_succ]
          refine wpAnyH_take (i := 12) (v := undef) (by simp only [List.getElem?_toArray, List.getElem?_cons_succ, List.getElem?_cons_zero]; rfl) (by kernel_rfl) (by kernel_rfl) (by kernel_rfl) (fun _ _ _ h => h) (Or.inr ⟨by rfl, rfl⟩) HS ?_
          try simp only [Act.put, List.setIfInBounds_toArray, List.set_cons_zero, List.set_cons_succ]
          refine wpAnyH_take (i := 13) (v := ?_) (by simp only [List.getElem?_toArray, List.getElem?_cons_succ, List.getElem?_cons_zero]; rfl) (by kernel_rfl) (by kernel_rfl) (by kernel_rfl) (fun _ _ _ h => h) (Or.inl ⟨by rfl, ?_⟩) HS ?_
          rotate_left
          · intro wz hSw
            try dsimp only at hSw
            obtain ⟨⟨e6, e7, e8, e9, e10, e11, e12⟩, e0, e1⟩ := hSw
            go_simp
            try with_reducible rfl
          try simp only [Act.put, List.setIfInBounds_toArray, List.set_cons_zero, List.set_cons_succ]
          refine wpAnyH_done (by kernel_rfl) ?_ _
          refine NoPanic.normal ?_
          have HBN2 : Hid (Below w2.heap.size w2 w5) := (HX8.out w5 HB1.out).2.2
          clear hcw
          go_wp2_with fail
          go_roundg g
          case measure => omega
          case rel => exact ⟨i + 1, by go_num, by omega, HJ2, HBN2⟩
        · rw [hA] at HCB
          have hA2 : (A fb == -1) = false := by simpa using hA
          refine wp_region_noPanic ?_
          refine wp_region_held_drew (S := (fun w' => (w'.cell? ⟨K, 6, none⟩ = some (.slice (some ⟨g9, o9, none⟩) n k9) ∧ w'.cell? ⟨K, 7, none⟩ = some f1 ∧ w'.cell? ⟨K, 8, none⟩ = some f2 ∧ w'.cell? ⟨K, 9, none⟩ = some f3 ∧ w'.cell? ⟨K, 10, none⟩ = some f4 ∧ w'.cell? ⟨K, 11, none⟩ = some (.slice (some ⟨g5, 0, none⟩) n n) ∧ w'.cell? ⟨K, 12, none⟩ = some (.slice (some ⟨g6, 0, none⟩) n n)) ∧ w'.cell? ⟨gF, 0, none⟩ = some (.int .i64 (fb : Nat)) ∧ w'.cell? ⟨gF, 1, none⟩ = some (.int .i64 fa))) (by kernel_rfl) hcw ?_
          intro HS
          refine wpAnyH_take (i := 0) (v := ?_) (by simp only [List.getElem?_toArray, List.getElem?_cons_succ, List.getElem?_cons_zero]; rfl) (by kernel_rfl) (by kernel_rfl) (by kernel_rfl) (fun _ _ _ h => h) (Or.inl ⟨by rfl, ?_⟩) HS ?_
          rotate_left
          · intro wz hSw
            try dsimp only at hSw
            obtain ⟨⟨e6, e7, e8, e9, e10, e11, e12⟩, e0, e1⟩ := hSw
            go_simp
            try with_reducible rfl
          try simp only [Act.put, List.setIfInBounds_toArray, List.set_cons_zero, List.set_cons_succ]
          refine wpAnyH_take (i := 1) (v := ?_) (by simp only [List.getElem?_toArray, List.getElem?_cons_succ, List.getElem?_cons_zero]; rfl) (by kernel_rfl) (by kernel_rfl) (by kernel_rfl) (fun _ _ _ h => h) (Or.inl ⟨by rfl, ?_⟩) HS ?_
          rotate_left
          · intro wz hSw
            try dsimp only at hSw
            obtain ⟨⟨e6, e7, e8, e9, e10, e11, e12⟩, e0, e1⟩ := hSw
            go_simp
            try with_reducible rfl
          try simp only [Act.put, List.setIfInBounds_toArray, List.set_cons_zero, List.set_cons_succ]
          refine wpAnyH_take (i := 2) (v := ?_) (by simp only [List.getElem?_toArray, List.getElem?_cons_succ, List.getElem?_cons_zero]; rfl) (by kernel_rfl) (by kernel_rfl) (by kernel_rfl) (fun _ _ _ h => h) (Or.inl ⟨by rfl, ?_⟩) HS ?_
          rotate_left
          · intro wz hSw
            try dsimp only at hSw
            obtain ⟨⟨e6, e7, e8, e9, e10, e11, e12⟩, e0, e1⟩ := hSw
            go_simp
            try with_reducible rfl
          try simp only [Act.put, List.setIfInBounds_toArray, List.set_cons_zero, List.set_cons_succ]
          refine wpAnyH_take (i := 3) (v := ?_) (by simp only [List.getElem?_toArray, List.getElem?_cons_succ, List.getElem?_cons_zero]; rfl) (by kernel_rfl) (by kernel_rfl) (by kernel_rfl) (fun _ _ _ h => h) (Or.inl ⟨by rfl, ?_⟩) HS ?_
          rotate_left
          · intro wz hSw
            try dsimp only at hSw
            obtain ⟨⟨e6, e7, e8, e9, e10, e11, e12⟩, e0, e1⟩ := hSw
            go_simp
            try with_reducible rfl
          try simp only [Act.put, List.setIfInBounds_toArray, List.set_cons_zero, List.set_cons_succ]
          refine wpAnyH_take (i := 4) (v := ?_) (by simp only [List.getElem?_toArray, List.getElem?_cons_succ, List.getElem?_cons_zero]; rfl) (by kernel_rfl) (by kernel_rfl) (by kernel_rfl) (fun _ _ _ h => h) (Or.inl ⟨by rfl, ?_⟩) HS ?_
          rotate_left
          · intro wz hSw
            try dsimp only at hSw
            obtain ⟨⟨e6, e7, e8, e9, e10, e11, e12⟩, e0, e1⟩ := hSw
            go_simp
            try with_reducible rfl
          try simp only [Act.put, List.setIfInBounds_toArray, List.set_cons_zero, List.set_cons_succ]
          refine wpAnyH_take (i := 5) (v := ?_) (by simp only [List.getElem?_toArray, List.getElem?_cons_succ, List.getElem?_cons_zero]; rfl) (by kernel_rfl) (by kernel_rfl) (by kernel_rfl) (fun _ _ _ h => h) (Or.inl ⟨by rfl, ?_⟩) HS ?_
          rotate_left
          · intro wz hSw
            try dsimp only at hSw
            obtain ⟨⟨e6, e7, e8, e9, e10, e11, e12⟩, e0, e1⟩ := hSw
            go_simp
            try with_reducible rfl
          try simp only [Act.put, List.setIfInBounds_toArray, List.set_cons_zero, List.set_cons_succ]
          refine wpAnyH_ready (rs := [6]) (by kernel_rfl) (by simp) (AllReadyH.cons (by simp only [List.getElem?_toArray, List.getElem?_cons_succ, List.getElem?_cons_zero]; rfl) ?_ AllReadyH.nil)
          intro K' HK
          rw [if_pos (by rfl)]
          clear HS
          go_simp
          go_wp2_with (go_at_call 50; refine Calls.mono (HCB.out X.drew HDD.out) ?_; rintro e w5 ⟨rfl, hb1⟩)
          have HB1 : Hid (Below X.heap.size X w5) := below_after HDD.out hb1
          clear hb1
          have HS2 : (fun w' => (w'.cell? ⟨K, 6, none⟩ = some (.slice (some ⟨g9, o9, none⟩) n k9) ∧ w'.cell? ⟨K, 7, none⟩ = some f1 ∧ w'.cell? ⟨K, 8, none⟩ = some f2 ∧ w'.cell? ⟨K, 9, none⟩ = some f3 ∧ w'.cell? ⟨K, 10, none⟩ = some f4 ∧ w'.cell? ⟨K, 11, none⟩ = some (.slice (some ⟨g5, 0, none⟩) n n) ∧ w'.cell? ⟨K, 12, none⟩ = some (.slice (some ⟨g6, 0, none⟩) n n)) ∧ w'.cell? ⟨gF, 0, none⟩ = some (.int .i64 (fb : Nat)) ∧ w'.cell? ⟨gF, 1, none⟩ = some (.int .i64 fa)) w5 := (HX8.out w5 HB1.out).1
          refine HK.out _ _ HS2 ?_
          intro HS
          try simp only [Act.put, List.setIfInBounds_toArray, List.set_cons_zero, List.set_cons_succ]
          refine wpAnyH_take (i := 7) (v := ?_) (by simp only [List.getElem?_toArray, List.getElem?_cons_succ, List.getElem?_cons_zero]; rfl) (by kernel_rfl) (by kernel_rfl) (by kernel_rfl) (fun _ _ _ h => h) (Or.inl ⟨by rfl, ?_⟩) HS ?_
          rotate_left
          · intro wz hSw
            try dsimp only at hSw
            obtain ⟨⟨e6, e7, e8, e9, e10, e11, e12⟩, e0, e1⟩ := hSw
            go_simp
            try with_reducible rfl
          try simp only [Act.put, List.setIfInBounds_toArray, List.set_cons_zero, List.set_cons_succ]
          refine wpAnyH_take (i := 8) (v := ?_) (by simp only [List.getElem?_toArray, List.getElem?_cons_succ, List.getElem?_cons_zero]; rfl) (by kernel_rfl) (by kernel_rfl) (by kernel_rfl) (fun _ _ _ h => h) (Or.inl ⟨by rfl, ?_⟩) HS ?_
          rotate_left
          · intro wz hSw
            try dsimp only at hSw
            obtain ⟨⟨e6, e7, e8, e9, e10, e11, e12⟩, e0, e1⟩ := hSw
            go_simp
            try with_reducible rfl
          try simp only [Act.put, List.setIfInBounds_toArray, List.set_cons_zero, List.set_cons_succ]
          refine wpAnyH_take (i := 9) (v := ?_) (by simp only [List.getElem?_toArray, List.getElem?_cons_succ, List.getElem?_cons_zero]; rfl) (by kernel_rfl) (by kernel_rfl) (by kernel_rfl) (fun _ _ _ h => h) (Or.inl ⟨by rfl, ?_⟩) HS ?_
          rotate_left
          · intro wz hSw
            try dsimp only at hSw
            obtain ⟨⟨e6, e7, e8, e9, e10, e11, e12⟩, e0, e1⟩ := hSw
            go_simp
            try with_reducible rfl
          try simp only [Act.put, List.setIfInBounds_toArray, List.set_cons_zero, List.set_cons_succ]
          refine wpAnyH_take (i := 10) (v := ?_) (by simp only [List.getElem?_toArray, List.getElem?_cons_succ, List.getElem?_cons_zero]; rfl) (by kernel_rfl) (by kernel_rfl) (by kernel_rfl) (fun _ _ _ h => h) (Or.inl ⟨by rfl, ?_⟩) HS ?_
          rotate_left
          · intro wz hSw
            try dsimp only at hSw
            obtain ⟨⟨e6, e7, e8, e9, e10, e11, e12⟩, e0, e1⟩ := hSw
            go_simp
            try with_reducible rfl
          try simp only [Act.put, List.setIfInBounds_toArray, List.set_cons_zero, List.set_cons_succ]
          refine wpAnyH_ready (rs := [11]) (by kernel_rfl) (by simp) (AllReadyH.cons (by simp only [List.getElem?_toArray, List.getElem?_cons_succ, List.getElem?_cons_zero]; rfl) ?_ AllReadyH.nil)
          intro K' HK
          rw [if_pos (by rfl)]
          clear HS
          go_simp
          go_wp2_with (go_at_call 51; refine Calls.mono (HHS.out w5 HB1.out) ?_; rintro e w6 ⟨rfl, hb1⟩)
          have HB6 : Hid (Below X.heap.size X w6) := below_after HB1.out hb1
          clear hb1
          have HS2 : (fun w' => (w'.cell? ⟨K, 6, none⟩ = some (.slice (some ⟨g9, o9, none⟩) n k9) ∧ w'.cell? ⟨K, 7, none⟩ = some f1 ∧ w'.cell? ⟨K, 8, none⟩ = some f2 ∧ w'.cell? ⟨K, 9, none⟩ = some f3 ∧ w'.cell? ⟨K, 10, none⟩ = some f4 ∧ w'.cell? ⟨K, 11, none⟩ = some (.slice (some ⟨g5, 0, none⟩) n n) ∧ w'.cell? ⟨K, 12, none⟩ = some (.slice (some ⟨g6, 0, none⟩) n n)) ∧ w'.cell? ⟨gF, 0, none⟩ = some (.int .i64 (fb : Nat)) ∧ w'.cell? ⟨gF, 1, none⟩ = some (.int .i64 fa)) w6 := (HX8.out w6 HB6.out).1
          refine HK.out _ _ HS2 ?_
          intro HS
          try simp only [Act.put, List.setIfInBounds_toArray, List.set_cons_zero, List.set_cons_succ]
          refine wpAnyH_take (i := 12) (v := ?_) (by simp only [List.getElem?_toArray, List.getElem?_cons_succ, List.getElem?_cons_zero]; rfl) (by kernel_rfl) (by kernel_rfl) (by kernel_rfl) (fun _ _ _ h => h) (Or.inl ⟨by rfl, ?_⟩) HS ?_
          rotate_left
          · intro wz hSw
            try dsimp only at hSw
            obtain ⟨⟨e6, e7, e8, e9, e10, e11, e12⟩, e0, e1⟩ := hSw
            go_simp
            try with_reducible rfl
          try simp only [Act.put, List.setIfInBounds_toArray, List.set_cons_zero, List.set_cons_succ]
          refine wpAnyH_take (i := 13) (v := ?_) (by simp only [List.getElem?_toArray, List.getElem?_cons_succ, List.getElem?_cons_zero]; rfl) (by kernel_rfl) (by kernel_rfl) (by kernel_rfl) (fun _ _ _ h => h) (Or.inl ⟨by rfl, ?_⟩) HS ?_
          rotate_left
          · intro wz hSw
            try dsimp only at hSw
            obtain ⟨⟨e6, e7, e8, e9, e10, e11, e12⟩, e0, e1⟩ := hSw
            go_simp
            try with_reducible rfl
          try simp only [Act.put, List.setIfInBounds_toArray, List.set_cons_zero, List.set_cons_succ]
          refine wpAnyH_done (by kernel_rfl) ?_ _
          refine NoPanic.normal ?_
          have HBN2 : Hid (Below w2.heap.size w2 w6) := (HX8.out w6 HB6.out).2.2
          clear hcw
          rcases hH : hasM S A N a fb fa with _ | _
          · have HRF : Hid (R = false) := by
              unfold Hid
              rw [HR.out]
              unfold asksM
              rw [List.all_eq_false]
              exact ⟨i, List.mem_range.2 (by omega), by rw [HAE.out, hA2, hH]; simp⟩
            go_wp2_with fail
            go_ret
            exact ⟨by rw [HRF.out]; rfl, (HXX.out w6 HBN2.out).2.2.2⟩
          · have HJ2 : Hid (∀ t, t < i + 1 → askM AH c.blocks S A N x hb ha t = true) := fun t ht => by
              rcases Nat.lt_or_ge t i with h | h
              · exact HJ.out t h
              · have : t = i := by omega
                subst this
                rw [HAE.out, hA2, hH]; rfl
            go_wp2_with fail
            go_roundg g
            case measure => omega
            case rel => exact ⟨i + 1, by go_num, by omega, HJ2, HBN2⟩

end Go.Proofs.YthlngmknifpbjaaDoor
