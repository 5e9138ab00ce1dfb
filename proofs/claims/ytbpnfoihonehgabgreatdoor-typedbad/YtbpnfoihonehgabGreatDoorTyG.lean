/-
  Lists of types; the types of calls and lists.
-/
import Derived.Test.YtbpnfoihonehgabGreatDoorTyF
import Derived.Test.YtbpnfoihonehgabGreatDoorTyB
namespace Go.Proofs.YtbpnfoihonehgabGreatDoor
open Go.RowKit Go.Maps
set_option linter.unusedSimpArgs false
set_option linter.unusedVariables false

/-- a slice of numbers -/
def IntsAt (w : World) (v : Value) (ts : List Int) : Prop := ∃ av cv, v = .slice av ts.length cv ∧ ∀ i, i < ts.length → ∃ g, av = some ⟨g, 0, none⟩ ∧ w.cell? ⟨g, i, none⟩ = some (.int .i64 (ts.getD i 0))

theorem IntsAt.below {w w' : World} {v : Value} {ts : List Int} (h : IntsAt w v ts) (k : Below w.heap.size w w') : IntsAt w' v ts := by
  obtain ⟨av, cv, hv, hc⟩ := h
  refine ⟨av, cv, hv, fun i hi => ?_⟩
  obtain ⟨g, hg, hcell⟩ := hc i hi
  exact ⟨g, hg, (k.cell (p := ⟨g, i, none⟩) (World.block_lt_of_cell? w ⟨g, i, none⟩ hcell)).trans hcell⟩

theorem flat_get {m : Nat} : ∀ (vs : List Value), (∀ u ∈ vs, u.cells.toList.length = m) → ∀ i u, vs[i]? = some u → ∀ j, j < m → (flat vs)[i * m + j]? = u.cells.toList[j]?
  | [], _, i, u, h, _, _ => by simp at h
  | v :: vs, hm, 0, u, h, j, hj => by
    have hv : v = u := by simpa using h
    subst hv
    have hl := hm v (by simp)
    simp only [flat, List.flatMap_cons, Nat.zero_mul, Nat.zero_add]
    rw [List.getElem?_append_left (by omega)]
  | v :: vs, hm, i + 1, u, h, j, hj => by
    have ih := flat_get (m := m) vs (fun u hu => hm u (by simp [hu])) i u (by simpa using h) j hj
    have hl := hm v (by simp)
    simp only [flat, List.flatMap_cons] at ih ⊢
    rw [List.getElem?_append_right (by rw [hl]; have : (i + 1) * m = i * m + m := by rw [Nat.succ_mul]
                                       omega), ← ih, hl]
    congr 1
    have : (i + 1) * m = i * m + m := by rw [Nat.succ_mul]
    omega

theorem flat_len {m : Nat} : ∀ (vs : List Value), (∀ u ∈ vs, u.cells.toList.length = m) → (flat vs).length = vs.length * m
  | [], _ => by simp [flat]
  | v :: vs, hm => by
    have ih := flat_len (m := m) vs (fun u hu => hm u (by simp [hu]))
    simp only [flat, List.flatMap_cons, List.length_append] at ih ⊢
    rw [ih, hm v (by simp), List.length_cons, Nat.succ_mul]
    omega

theorem AllP.get {A B : Type} {P : A → B → Prop} : ∀ {us : List A} {vs : List B}, AllP P us vs → ∀ (i : Nat) (b : B), vs[i]? = some b → ∃ a, us[i]? = some a ∧ P a b
  | [], [], _, i, b, h => by simp at h
  | a :: us, b' :: vs, ⟨x, y⟩, 0, b, h => by
    have : b' = b := by simpa using h
    subst this
    exact ⟨a, rfl, x⟩
  | a :: us, b' :: vs, ⟨x, y⟩, i + 1, b, h => by
    obtain ⟨a', h1, h2⟩ := AllP.get y i b (by simpa using h)
    exact ⟨a', by simpa using h1, h2⟩
  | [], _ :: _, x, _, _, _ => x.elim
  | _ :: _, [], x, _, _, _ => x.elim

/-- a row, looked into at a place -/
theorem Row.at {A : Type} {S : Nat → Prop} {w : World} {P : Value → A → Prop} {v : Value} {xs : List A} (h : Row S w P v xs) (m : Nat) (hm : ∀ u x, P u x → u.cells.toList.length = m) (i : Nat) (x : A) (hx : xs[i]? = some x) :
    ∃ g cap u, v = .slice (some ⟨g, 0, none⟩) xs.length cap ∧ S g ∧ P u x ∧ ∀ j, j < m → w.cell? ⟨g, i * m + j, none⟩ = u.cells.toList[j]? := by
  obtain ⟨vs, h1, h2⟩ := h
  obtain ⟨u, hu, hP⟩ := h2.get i x hx
  have hlen := AllP.length h2
  have hall : ∀ u ∈ vs, u.cells.toList.length = m := fun u hu => by
    obtain ⟨y, hy⟩ := h2.mem u hu
    exact hm u y hy
  have hi : i < xs.length := (List.getElem?_eq_some_iff.1 hx).1
  rcases h1 with ⟨_, h0, _⟩ | ⟨g, cap, cc, T, fz, hv, hS, hg, ht⟩
  · omega
  · refine ⟨g, cap, u, hv, hS, hP, fun j hj => ?_⟩
    have hfl := flat_len vs hall
    have hlt : i * m + j < (flat vs).length := by
      rw [hfl, hlen]
      have : (i + 1) * m ≤ xs.length * m := Nat.mul_le_mul_right _ hi
      rw [Nat.succ_mul] at this
      omega
    rw [← flat_get vs hall i u hu j hj, ← ht, List.getElem?_take_of_lt hlt]
    simp only [World.cell?, hg]
    simp

def listT (ts : List Int) : Int × Int := if (4000 : Int) < (ts.length : Nat) then (0, 1) else if ts.all (fun t => t == 1) then (4, 0) else (0, 9)

theorem all_snoc_false {ts : List Int} {i : Nat} (hi : i < ts.length) (h : (ts.getD i 0 == 1) = false) : ts.all (fun t => t == 1) = false := by
  rw [List.all_eq_false]
  refine ⟨ts[i], List.getElem_mem hi, ?_⟩
  rw [List.getD_eq_getElem?_getD, List.getElem?_eq_getElem hi] at h
  simpa using h

theorem all_true {ts : List Int} (h : ∀ j, j < ts.length → (ts.getD j 0 == 1) = true) : ts.all (fun t => t == 1) = true := by
  rw [List.all_eq_true]
  intro x hx
  obtain ⟨j, hj, rfl⟩ := List.getElem_of_mem hx
  have := h j hj
  rw [List.getD_eq_getElem?_getD, List.getElem?_eq_getElem hj] at this
  simpa using this

set_option maxHeartbeats 2000000 in
theorem typeOfList_any (w : World) (v : Value) (ts : List Int) (h : IntsAt w v ts) (hl : ts.length ≤ 1000000) :
    Calls Tryz.prog 123 #[v] w fun e w' => e = tyE (listT ts) ∧ w' = w := by
  obtain ⟨av, cv, rfl, hc⟩ := h
  by_cases hbig : (4000 : Int) < (ts.length : Nat)
  · have hbb : decide ((4000 : Int) < ((ts.length : Nat) : Int)) = true := by simpa using hbig
    have HE : Hid (listT ts = (0, 1)) := by unfold Hid; rw [listT, if_pos hbig]
    clear hc
    go_enter Tryz.func123, Tryz.ntmps123
    go_wp2_with fail
    go_ret2
    exact ⟨by rw [HE.out]; rfl, rfl⟩
  · have hbb : decide ((4000 : Int) < ((ts.length : Nat) : Int)) = false := by simpa using hbig
    have hle : (ts.length : Int) ≤ 4000 := by omega
    obtain ⟨r, hr⟩ : ∃ r, r = listT ts := ⟨_, rfl⟩
    have HE : Hid (r = if ts.all (fun t => t == 1) then (4, 0) else (0, 9)) := by unfold Hid; rw [hr, listT, if_neg hbig]
    rw [← hr]
    have HC : Hid (_) := hc
    clear hc hr
    go_enter Tryz.func123, Tryz.ntmps123
    go_wp2_with fail
    go_loopg [11] ts.length (fun g s11 wr => ∃ i : Nat, s11 = .int .i64 (i : Nat) ∧ wr = w ∧ i + g = ts.length ∧ Hid (∀ j, j < i → (ts.getD j 0 == 1) = true))
    case atStart => exact ⟨0, rfl, rfl, by omega, fun j hj => absurd hj (by omega)⟩
    case round =>
      obtain ⟨i, rfl, rfl, hi, HJ⟩ := hrel
      cases gk with
      | zero =>
        have hlt : ¬ (i : Int) < (ts.length : Int) := by omega
        have hltb : decide ((i : Int) < (ts.length : Int)) = false := by simpa using hlt
        have HE2 : Hid (r = (4, 0)) := by
          unfold Hid; rw [HE.out, all_true (fun j hj => HJ.out j (by omega))]; rfl
        go_wp2_with fail
        go_ret2
        exact ⟨by rw [HE2.out]; rfl, rfl⟩
      | succ g =>
        have hlt : (i : Int) < (ts.length : Int) := by omega
        have hltb : decide ((i : Int) < (ts.length : Int)) = true := by simpa using hlt
        obtain ⟨gb, rfl, hcell⟩ := HC.out i (by omega)
        obtain ⟨t, ht⟩ : ∃ t, t = ts.getD i 0 := ⟨_, rfl⟩
        rw [← ht] at hcell
        have HTT : Hid (t = ts.getD i 0) := ht
        clear ht
        rcases h1 : (t == 1) with _ | _
        · have h1n : (t != 1) = true := by simp [bne, h1]
          have HE2 : Hid (r = (0, 9)) := by
            unfold Hid; rw [HE.out, all_snoc_false (i := i) (by omega) (by rw [← HTT.out]; exact h1)]; rfl
          go_wp2_with fail
          go_ret2
          exact ⟨by rw [HE2.out]; rfl, rfl⟩
        · have h1n : (t != 1) = false := by simp [bne, h1]
          go_wp2_with fail
          go_roundg g
          case measure => omega
          case rel =>
            refine ⟨i + 1, by go_num, rfl, by omega, fun j hj => ?_⟩
            rcases Nat.lt_or_ge j i with h | h
            · exact HJ.out j h
            · have : j = i := by omega
              subst this; rw [← HTT.out]; exact h1

end Go.Proofs.YtbpnfoihonehgabGreatDoor
