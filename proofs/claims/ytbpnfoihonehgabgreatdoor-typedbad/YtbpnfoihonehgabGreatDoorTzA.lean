/-
  Statements of all kinds.
-/
import Derived.Test.YtbpnfoihonehgabGreatDoorTyW
import Derived.Test.YtbpnfoihonehgabGreatDoorTyX
import Derived.Test.YtbpnfoihonehgabGreatDoorTyY
import Derived.Test.YtbpnfoihonehgabGreatDoorTyZ
namespace Go.Proofs.YtbpnfoihonehgabGreatDoor
open Go.RowKit Go.Maps
set_option linter.unusedSimpArgs false
set_option linter.unusedVariables false

def keepD (D : DataW Unit) (x : Option Int) : Option (Int × DataW Unit) := x.map fun k => (k, D)

theorem keepD_some {D : DataW Unit} {x : Option Int} {r : Int × DataW Unit} (h : keepD D x = some r) : x = some r.1 ∧ r.2 = D := by
  cases x with
  | none => cases h
  | some k => simp [keepD] at h; subst h; exact ⟨rfl, rfl⟩

def printT (E : Nat → Ex → Option (Int × Int)) (d : Nat) (s : St) : Option Int := match s.exprs[0]? with
  | none => none
  | some x => (valT (E d x)).map fun p => if p.2 == 0 && !(plainB p.1) then 9 else p.2

def doFirstT (E : Nat → Ex → Option (Int × Int)) (d : Nat) (s : St) : Option Int := match s.exprs[0]? with
  | none => none
  | some x => doT E d x

set_option maxHeartbeats 2000000 in
set_option maxRecDepth 20000 in
theorem branching_range {B cb : Nat} {fv : Value} {fs : List Fn'} {pl : DataW Unit} {res : Int} {sc : List (DataW Unit)} {l : Nat} {E : Nat → Ex → Option (Int × Int)} {Bm : List (DataW Unit) → Nat → Nat → List St → Option Int} (hE : SaidX B cb fv fs pl res sc l E) (hB : SaidBk B cb fv fs pl res Bm)
    (w : World) (X : List Nat) (d : Nat) (v : Value) (s : St) (r : Int) (h : Ctx w B cb X fv fs pl res sc d l) (hs : AnS (fun g => g < B) w v s) (hk : s.kind = 6) (hr : rangeT E Bm sc d l s = some r) :
    Calls Tryz.prog 68 #[.pointer (some ⟨cb, 0, none⟩), v] w (PostT w B cb X fv pl res sc d l r) := by
  obtain ⟨ae, ce, ab, cq, al, cl, ac, cc, rfl, hre, hrb, hrl, hrc⟩ := anS_parts hs
  have hkb : Below w.heap.size w (w.alloc (.cells #[.int .i64 s.kind, .string ⟨s.s.toArray⟩, .string ⟨s.t.toArray⟩, .slice ae s.exprs.length ce, .slice ab s.body.length cq, .slice al s.els.length cl, .slice ac s.cases.length cc] 63)) := (Below.refl _ _).alloc (Nat.le_refl _) _
  have HC : Hid (_) := h.add hkb
  have HK : Hid (KX X X w (w.alloc (.cells #[.int .i64 s.kind, .string ⟨s.s.toArray⟩, .string ⟨s.t.toArray⟩, .slice ae s.exprs.length ce, .slice ab s.body.length cq, .slice al s.els.length cl, .slice ac s.cases.length cc] 63))) := KX.of_below hkb
  have HS : Hid (_) := hs.bel (h.bel (KX.of_below (X := X) hkb))
  have HR : Hid (_) := hr
  rw [hk] at HC HK HS ⊢
  clear hr hre hrb hrl hrc hs hkb h
  go_enter Tryz.func68, Tryz.ntmps68
  go_wp2_with fail
  refine (ranging_any hE hB _ _ _ _ _ _ HC.out HS.out HR.out).mono ?_
  rintro e w1 ⟨rfl, X1, hc1, hk1⟩
  have HC1 : Hid (_) := hc1
  have HK1 : Hid (_) := hk1
  clear hc1 hk1
  go_wp2_with fail
  go_ret
  exact ⟨rfl, X1, HC1.out, HK.out.trans HK1.out⟩

set_option maxHeartbeats 2000000 in
set_option maxRecDepth 20000 in
theorem stmt_none {B cb : Nat} {fv : Value} {fs : List Fn'} {pl : DataW Unit} {res : Int} (w : World) (X : List Nat) (scs : List (DataW Unit)) (d l : Nat) (v : Value) (s : St) (h : Ctx w B cb X fv fs pl res scs d l) (hs : AnS (fun g => g < B) w v s) (hk : s.kind < 1 ∨ 13 < s.kind) :
    Calls Tryz.prog 50 #[.pointer (some ⟨cb, 0, none⟩), v] w (PostT w B cb X fv pl res scs d l 3) := by
  obtain ⟨ae, ce, ab, cq, al, cl, ac, cc, rfl, hre, hrb, hrl, hrc⟩ := anS_parts hs
  have hkb : Below w.heap.size w ((w.alloc (.cells #[.pointer (some ⟨cb, 0, none⟩)] 55)).alloc (.cells #[.int .i64 s.kind, .string ⟨s.s.toArray⟩, .string ⟨s.t.toArray⟩, .slice ae s.exprs.length ce, .slice ab s.body.length cq, .slice al s.els.length cl, .slice ac s.cases.length cc] 63)) := ((Below.refl _ _).alloc (Nat.le_refl _) _).alloc (by simp) _
  have HC3 : Hid (_) := h.add hkb
  have HK3 : Hid (KX X X w ((w.alloc (.cells #[.pointer (some ⟨cb, 0, none⟩)] 55)).alloc (.cells #[.int .i64 s.kind, .string ⟨s.s.toArray⟩, .string ⟨s.t.toArray⟩, .slice ae s.exprs.length ce, .slice ab s.body.length cq, .slice al s.els.length cl, .slice ac s.cases.length cc] 63))) := KX.of_below hkb
  clear hre hrb hrl hrc hs hkb h
  generalize s.kind = k at *
  rcases hk with hk | hk
  · go_enter_defers Tryz.func50, Tryz.ntmps50
    go_wp2_with fail
    exact ⟨_, results_tmp1 Tryz.results50, rfl, X, HC3.out.chk, HK3.out⟩
  · have hk1 : ¬ k < 1 := by omega
    go_enter_defers Tryz.func50, Tryz.ntmps50
    go_wp2_with fail
    exact ⟨_, results_tmp1 Tryz.results50, rfl, X, HC3.out.chk, HK3.out⟩

def stepM (E : List (DataW Unit) → Nat → Ex → Option (Int × Int)) (Bm : List (DataW Unit) → Nat → Nat → List St → Option Int) (res : Int) (sc : List (DataW Unit)) (D : DataW Unit) (d l : Nat) (s : St) : Option (Int × DataW Unit) :=
  if s.kind < 1 ∨ 13 < s.kind then some (3, D)
  else if s.kind = 1 then stmtK 1 1 s d D (letT (E (sc ++ [D])) D (d + 1) s)
  else if s.kind = 2 then stmtK 1 1 s d D (keepD D (setT (E (sc ++ [D])) (sc ++ [D]) (d + 1) s))
  else if s.kind = 3 then stmtK 2 2 s d D (keepD D (putT (E (sc ++ [D])) (sc ++ [D]) (d + 1) s [4, 5]))
  else if s.kind = 4 then stmtK 1 1 s d D (keepD D (ifT (E (sc ++ [D])) Bm (sc ++ [D]) (d + 1) l s))
  else if s.kind = 5 then stmtK 1 1 s d D (keepD D (forT (E (sc ++ [D])) Bm (sc ++ [D]) (d + 1) l s))
  else if s.kind = 6 then stmtK 1 1 s d D (keepD D (rangeT (E (sc ++ [D])) Bm (sc ++ [D]) (d + 1) l s))
  else if s.kind = 7 then stmtK 1 1 s d D (keepD D (chooseT (E (sc ++ [D])) Bm (sc ++ [D]) (d + 1) l s))
  else if s.kind = 8 then stmtK 0 2 s d D (keepD D (leaveT (E (sc ++ [D])) res (d + 1) s))
  else if s.kind = 9 then stmtK 1 1 s d D (keepD D (printT (E (sc ++ [D])) (d + 1) s))
  else if s.kind = 10 then stmtK 0 0 s d D (some (if (l : Int) == 0 then (12, D) else (0, D)))
  else if s.kind = 11 then stmtK 0 0 s d D (some (if (l : Int) == 0 then (12, D) else (0, D)))
  else if s.kind = 12 then stmtK 1 1 s d D (keepD D (putT (E (sc ++ [D])) (sc ++ [D]) (d + 1) s [5]))
  else if s.kind = 13 then stmtK 1 1 s d D (keepD D (doFirstT (E (sc ++ [D])) (d + 1) s))
  else none

theorem stmt_step {B cb : Nat} {fv : Value} {fs : List Fn'} {pl : DataW Unit} {res : Int} {E : List (DataW Unit) → Nat → Ex → Option (Int × Int)} {Bm : List (DataW Unit) → Nat → Nat → List St → Option Int} (hE : ∀ sc l, SaidX B cb fv fs pl res sc l (E sc)) (hB : SaidBk B cb fv fs pl res Bm) : SaidSm B cb fv fs pl res (stepM E Bm res) := by
  intro w X sc D d l v s r h hs hr
  have keep : ∀ {F : FuncId} {x : Option Int}, (∀ r, x = some r → ∀ w3, Ctx w3 B cb X fv fs pl res (sc ++ [D]) (d + 1) l → AnS (fun g => g < B) w3 v s → Calls Tryz.prog F #[.pointer (some ⟨cb, 0, none⟩), v] w3 (PostT w3 B cb X fv pl res (sc ++ [D]) (d + 1) l r)) →
      ∀ r, keepD D x = some r → ∀ w3, Ctx w3 B cb X fv fs pl res (sc ++ [D]) (d + 1) l → AnS (fun g => g < B) w3 v s → Calls Tryz.prog F #[.pointer (some ⟨cb, 0, none⟩), v] w3 (PostT w3 B cb X fv pl res (sc ++ [r.2]) (d + 1) l r.1) := by
    intro F x hx r hr w3 h3 hs3
    obtain ⟨h1, h2⟩ := keepD_some hr
    rw [h2]
    exact hx _ h1 w3 h3 hs3
  unfold stepM at hr
  by_cases hn : s.kind < 1 ∨ 13 < s.kind
  · rw [if_pos hn] at hr
    cases hr
    exact stmt_none w X (sc ++ [D]) d l v s h hs hn
  rw [if_neg hn] at hr
  by_cases hk : s.kind = 1
  · rw [if_pos hk] at hr
    exact stmt_1 w X sc D d l v s _ r h hs hk hr (fun r hr w3 h3 hs3 => changing_let (hE _ _) w3 X _ _ _ _ h3 hs3 hk hr)
  rw [if_neg hk] at hr
  clear hk
  by_cases hk : s.kind = 2
  · rw [if_pos hk] at hr
    exact stmt_2 w X sc D d l v s _ r h hs hk hr (keep fun r hr w3 h3 hs3 => changing_set (hE _ _) w3 X _ _ _ _ h3 hs3 hk hr)
  rw [if_neg hk] at hr
  clear hk
  by_cases hk : s.kind = 3
  · rw [if_pos hk] at hr
    exact stmt_3 w X sc D d l v s _ r h hs hk hr (keep fun r hr w3 h3 hs3 => changing_put (hE _ _) w3 X _ _ _ _ h3 hs3 hk hr)
  rw [if_neg hk] at hr
  clear hk
  by_cases hk : s.kind = 4
  · rw [if_pos hk] at hr
    exact stmt_4 w X sc D d l v s _ r h hs hk hr (keep fun r hr w3 h3 hs3 => branching_if (hE _ _) hB w3 X _ _ _ _ h3 hs3 hk hr)
  rw [if_neg hk] at hr
  clear hk
  by_cases hk : s.kind = 5
  · rw [if_pos hk] at hr
    exact stmt_5 w X sc D d l v s _ r h hs hk hr (keep fun r hr w3 h3 hs3 => branching_for (hE _ _) hB w3 X _ _ _ _ h3 hs3 hk hr)
  rw [if_neg hk] at hr
  clear hk
  by_cases hk : s.kind = 6
  · rw [if_pos hk] at hr
    exact stmt_6 w X sc D d l v s _ r h hs hk hr (keep fun r hr w3 h3 hs3 => branching_range (hE _ _) hB w3 X _ _ _ _ h3 hs3 hk hr)
  rw [if_neg hk] at hr
  clear hk
  by_cases hk : s.kind = 7
  · rw [if_pos hk] at hr
    exact stmt_7 w X sc D d l v s _ r h hs hk hr (keep fun r hr w3 h3 hs3 => branching_switch (hE _ _) hB w3 X _ _ _ _ h3 hs3 hk hr)
  rw [if_neg hk] at hr
  clear hk
  by_cases hk : s.kind = 8
  · rw [if_pos hk] at hr
    exact stmt_8 w X sc D d l v s _ r h hs hk hr (keep fun r hr w3 h3 hs3 => leaving_any (hE _ _) w3 X _ _ _ _ h3 hs3 hr)
  rw [if_neg hk] at hr
  clear hk
  by_cases hk : s.kind = 9
  · rw [if_pos hk] at hr
    exact stmt_9 w X sc D d l v s _ r h hs hk hr fun r hr => by
      obtain ⟨h1, h2⟩ := keepD_some hr
      unfold printT at h1
      rcases hx : s.exprs[0]? with _ | x
      · rw [hx] at h1; cases h1
      · rw [hx] at h1
        simp only at h1
        rcases hq : valT (E (sc ++ [D]) (d + 1) x) with _ | p
        · rw [hq] at h1; cases h1
        · rw [hq] at h1
          simp only [Option.map_some, Option.some.injEq] at h1
          exact ⟨x, p, by rw [h1, ← h2], rfl, fun w3 v h3 hv => value_any (hE _ _) w3 X _ _ _ _ h3 hv hq⟩
  rw [if_neg hk] at hr
  clear hk
  by_cases hk : s.kind = 10
  · rw [if_pos hk] at hr
    exact stmt_10 w X sc D d l v s _ r h hs hk hr (rfl)
  rw [if_neg hk] at hr
  clear hk
  by_cases hk : s.kind = 11
  · rw [if_pos hk] at hr
    exact stmt_11 w X sc D d l v s _ r h hs hk hr (rfl)
  rw [if_neg hk] at hr
  clear hk
  by_cases hk : s.kind = 12
  · rw [if_pos hk] at hr
    exact stmt_12 w X sc D d l v s _ r h hs hk hr (keep fun r hr w3 h3 hs3 => changing_delete (hE _ _) w3 X _ _ _ _ h3 hs3 hk hr)
  rw [if_neg hk] at hr
  clear hk
  by_cases hk : s.kind = 13
  · rw [if_pos hk] at hr
    exact stmt_13 w X sc D d l v s _ r h hs hk hr fun r hr => by
      obtain ⟨h1, h2⟩ := keepD_some hr
      unfold doFirstT at h1
      rcases hx : s.exprs[0]? with _ | x
      · rw [hx] at h1; cases h1
      · rw [hx] at h1
        exact ⟨x, rfl, fun w3 v h3 hv => by rw [h2]; exact doing_any (hE _ _) w3 X _ _ _ _ h3 hv h1⟩
  rw [if_neg hk] at hr
  clear hk
  cases hr

/-- a statement, with so much fuel -/
def stmtM (pl : DataW Unit) (fs : List Fn') (res : Int) (fe : Nat) : Nat → List (DataW Unit) → DataW Unit → Nat → Nat → St → Option (Int × DataW Unit)
  | 0 => fun _ _ _ _ _ => none
  | f + 1 => stepM (fun sc => exprT pl fs sc fe) (blockT (stmtM pl fs res fe f)) res

theorem stmt_said_t {B cb : Nat} {fv : Value} {fs : List Fn'} {pl : DataW Unit} {res : Int} (fe : Nat) : ∀ f, SaidSm B cb fv fs pl res (stmtM pl fs res fe f)
  | 0 => fun _ _ _ _ _ _ _ _ _ _ _ h => by cases h
  | f + 1 => stmt_step (fun sc l => expr_said_t sc l fe) (block_any_t (stmt_said_t fe f))

end Go.Proofs.YtbpnfoihonehgabGreatDoor
