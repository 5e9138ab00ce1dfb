/-
  The type of a call; a variable of some types.
-/
import Derived.Test.YtbpnfoihonehgabGreatDoorTyG
namespace Go.Proofs.YtbpnfoihonehgabGreatDoor
open Go.RowKit Go.Maps
set_option linter.unusedSimpArgs false
set_option linter.unusedVariables false

/-- the functions lie below B -/
def FsAt (w : World) (B : Nat) (fv : Value) (fs : List Fn') : Prop := Row (fun g => g < B) w (IsFn (fun g => g < B) w) fv fs

theorem FsAt.below {w w' : World} {B : Nat} {fv : Value} {fs : List Fn'} (h : FsAt w B fv fs) (k : Below B w w') : FsAt w' B fv fs :=
  h.move (fun g hg _ => ⟨hg, k.block g hg⟩) fun u x hx => moves_IsFn _ _ _ _ _ _ hx fun g hg _ => ⟨hg, k.block g hg⟩

theorem isFn_len {S : Nat → Prop} {w : World} (u : Value) (x : Fn') (h : IsFn S w u x) : u.cells.toList.length = 4 := by
  obtain ⟨ap, ab, rfl, _⟩ := h
  simp [Value.cells]

theorem isP_len {S : Nat → Prop} {w : World} (u : Value) (x : List UInt8 × Int) (h : IsP S w u x) : u.cells.toList.length = 2 := by
  rw [h]; simp [Value.cells]

/-- do the types of params fit, from place k on -/
def fitT (ps : List (List UInt8 × Int)) (ts : List Int) : Bool := (List.range ps.length).all fun k => ts.getD k 0 == (ps.getD k ([], 0)).2

def callF (fs : List Fn') (ts : List Int) (c : Int) : Option (Int × Int) :=
  match fs[c.toNat]? with
  | none => none
  | some f => if c < 0 then none else if ((ts.length : Nat) : Int) != ((f.params.length : Nat) : Int) then some (0, 10) else if fitT f.params ts then some (f.result, 0) else some (0, 9)

def callT (pl : DataW Unit) (fs : List Fn') (nm : List UInt8) (ts : List Int) : Option (Int × Int) :=
  if Maps.has pl (.string nm) then callF fs ts (valOf (pl.atKey (.string nm) (.lit (.int .i64 0)))) else some (0, 6)

theorem fit_true {ps : List (List UInt8 × Int)} {ts : List Int} (h : ∀ j, j < ps.length → (ts.getD j 0 == (ps.getD j ([], 0)).2) = true) : fitT ps ts = true := by
  unfold fitT; rw [List.all_eq_true]; intro x hx; exact h x (by simpa using hx)

theorem fit_false {ps : List (List UInt8 × Int)} {ts : List Int} {i : Nat} (hi : i < ps.length) (h : (ts.getD i 0 == (ps.getD i ([], 0)).2) = false) : fitT ps ts = false := by
  unfold fitT; rw [List.all_eq_false]; exact ⟨i, by simpa using hi, by simpa using h⟩

theorem Chk.places {w : World} {B cb : Nat} {X : List Nat} {fv : Value} {pl : DataW Unit} {res : Int} {sc : List (DataW Unit)} {d l : Nat} (h : Chk w B cb X fv pl res sc d l) : ∃ mb, w.cell? ⟨cb, 1, none⟩ = some (.map (some mb)) ∧ MapAt w mb pl := by
  obtain ⟨mb, sv, ms, h1, h2, h3, _⟩ := h.ex
  exact ⟨mb, by simp [World.cell?, h1], h3⟩

set_option maxHeartbeats 4000000 in
theorem typeOfCall_any (w : World) (B cb : Nat) (X : List Nat) (fv : Value) (pl : DataW Unit) (res : Int) (sc : List (DataW Unit)) (d l : Nat) (fs : List Fn') (nm : List UInt8) (v : Value) (ts : List Int) (r : Int × Int) (h : Chk w B cb X fv pl res sc d l) (hfs : FsAt w B fv fs) (hnm : nm.length ≤ 1000000) (hv : IntsAt w v ts) (htl : ts.length ≤ 1000000) (hfl : fs.length ≤ 1000) (hr : callT pl fs nm ts = some r) :
    Calls Tryz.prog 121 #[.pointer (some ⟨cb, 0, none⟩), .string ⟨nm.toArray⟩, v] w fun e w' => e = tyE r ∧ Below w.heap.size w w' := by
  obtain ⟨mb, cm, hmap⟩ := h.places
  obtain ⟨c0, c2, c4, c5, cz⟩ := h.cells
  have HM : Hid (_) := hmap
  have HKEY : Hid (_) := key_of nm hnm
  obtain ⟨av, cv, rfl, hc⟩ := hv
  have HC : Hid (_) := hc
  have HFS : Hid (FsAt w B fv fs) := hfs
  unfold callT at hr
  have HR : Hid (_) := hr
  clear hmap hc hfs hr h c2 c4 c5 cz
  go_enter Tryz.func121, Tryz.ntmps121
  go_wp2_with (at_lookup; refine wpList_lookup_own_ok_int _ rfl _ _ 52 rfl 9 3 .i64 lawS Tryz.underlying52 Tryz.underlying3 (zeroI _) mb _ pl rfl HM.out _ _ rfl HKEY.out ?_)
  intro c hat hwc
  rcases hh : Maps.has pl (.string nm) with _ | _
  · have hr := HR.out
    rw [hh] at hr
    cases hr
    clear hat hwc
    go_wp2_with fail
    go_ret2
    exact ⟨rfl, Below.refl _ _⟩
  · have hr := HR.out
    rw [hh, hat] at hr
    simp only [if_true] at hr
    have hvc : valOf (.lit (.int .i64 c)) = c := rfl
    rw [hvc] at hr
    unfold callF at hr
    clear hvc
    clear hat hwc
    rcases hf : fs[c.toNat]? with _ | f
    · rw [hf] at hr; cases hr
    · rw [hf] at hr
      simp only at hr
      by_cases hc0 : c < 0
      · rw [if_pos hc0] at hr; cases hr
      · rw [if_neg hc0] at hr
        obtain ⟨g, cap, u, rfl, hgB, ⟨ap, ab, rfl, hpar, hbody⟩, hcell⟩ := HFS.out.at 4 isFn_len c.toNat f hf
        obtain ⟨aq, cq, rfl⟩ := hpar.slice
        obtain ⟨abb, cbb, rfl⟩ := hbody.slice
        have hclt : c.toNat < fs.length := (List.getElem?_eq_some_iff.1 hf).1
        obtain ⟨ci, rfl⟩ : ∃ ci : Nat, c = (ci : Int) := ⟨c.toNat, by omega⟩
        simp only [Int.toNat_natCast] at hcell hclt
        have f0 := hcell 0 (by decide)
        have f1 := hcell 1 (by decide)
        have f2 := hcell 2 (by decide)
        have f3 := hcell 3 (by decide)
        simp only [Value.cells, Nat.add_zero] at f0 f1 f2 f3
        simp at f0 f1 f2 f3
        have hcI : (ci : Int) < (fs.length : Int) := by omega
        have HPAR : Hid (Row (fun g => g < B) w (IsP (fun g => g < B) w) (.slice aq f.params.length cq) f.params) := hpar
        have HR2 : Hid (_) := hr
        clear hcell hbody hpar hr hf hc0
        rcases hlen : (((ts.length : Nat) : Int) != ((f.params.length : Nat) : Int)) with _ | _
        · have hr := HR2.out
          rw [hlen] at hr
          simp only [Bool.false_eq_true, if_false] at hr
          have HR3 : Hid (_) := hr
          have hle : ts.length = f.params.length := by simp at hlen; omega
          clear hr
          go_wp2_with fail
          go_loopg [40] f.params.length (fun g' s40 wr => ∃ i : Nat, s40 = .int .i64 (i : Nat) ∧ i + g' = f.params.length ∧ Hid (Below w.heap.size w wr) ∧ Hid (wr.heap[w.heap.size]? = some (.cells #[.string ⟨f.name.toArray⟩, .slice aq f.params.length cq, .int .i64 f.result, .slice abb f.body.length cbb] 33 (0, 0))) ∧ Hid (w.heap.size < wr.heap.size) ∧ Hid (∀ j, j < i → (ts.getD j 0 == (f.params.getD j ([], 0)).2) = true))
          case atStart => exact ⟨0, rfl, by omega, (Below.refl _ _).alloc (Nat.le_refl _) _, heap_alloc_new w _, by unfold Hid; simp, fun j hj => absurd hj (by omega)⟩
          case round =>
            obtain ⟨i, rfl, hi, HB, HK, HZ, HJ⟩ := hrel
            obtain ⟨k0, k1, k2, k3⟩ := cells4 HK.out
            cases gk with
            | zero =>
              have hlt : ¬ (i : Int) < (f.params.length : Int) := by omega
              have hltb : decide ((i : Int) < (f.params.length : Int)) = false := by simpa using hlt
              have HR4 : Hid (r = (f.result, 0)) := by
                have hr := HR3.out
                rw [fit_true (fun j hj => HJ.out j (by omega))] at hr
                cases hr; rfl
              go_wp2_with fail
              go_ret2
              exact ⟨by rw [HR4.out]; rfl, HB.out⟩
            | succ g' =>
              have hlt : (i : Int) < (f.params.length : Int) := by omega
              have hltb : decide ((i : Int) < (f.params.length : Int)) = true := by simpa using hlt
              have hlt2 : (i : Int) < (ts.length : Int) := by omega
              obtain ⟨ga, rfl, hca⟩ := HC.out i (by omega)
              have hpi : f.params[i]? = some (f.params.getD i ([], 0)) := by
                rw [List.getD_eq_getElem?_getD, List.getElem?_eq_getElem (by omega)]; rfl
              obtain ⟨gp, cp, up, hvp, hgp, hP, hcp⟩ := HPAR.out.at 2 isP_len i _ hpi
              cases hvp
              rw [hP] at hcp
              have p0 := hcp 0 (by decide)
              have p1 := hcp 1 (by decide)
              simp only [Value.cells, Nat.add_zero] at p0 p1
              simp at p0 p1
              rw [← HB.out.cell (p := ⟨gp, i * 2, none⟩) (World.block_lt_of_cell? w ⟨gp, i * 2, none⟩ p0)] at p0
              rw [← HB.out.cell (p := ⟨gp, i * 2 + 1, none⟩) (World.block_lt_of_cell? w ⟨gp, i * 2 + 1, none⟩ p1)] at p1
              rw [← HB.out.cell (p := ⟨ga, i, none⟩) (World.block_lt_of_cell? w ⟨ga, i, none⟩ hca)] at hca
              have hgal : ga < wr.heap.size := World.block_lt_of_cell? wr ⟨ga, i, none⟩ hca
              obtain ⟨t, ht⟩ : ∃ t, t = ts.getD i 0 := ⟨_, rfl⟩
              obtain ⟨pp, hpp⟩ : ∃ pp, pp = f.params.getD i ([], 0) := ⟨_, rfl⟩
              have hgd : ts[i]?.getD 0 = t := by rw [ht, List.getD_eq_getElem?_getD]
              have hpd : f.params[i]?.getD ([], 0) = pp := by rw [hpp, List.getD_eq_getElem?_getD]
              try rw [← ht] at hca
              try rw [hgd] at hca
              try rw [hpd] at p0 p1
              try rw [← hpp] at p0 p1
              have HTT : Hid (t = ts.getD i 0 ∧ pp = f.params.getD i ([], 0)) := ⟨ht, hpp⟩
              clear ht hpp hgd hpd hcp hP hpi
              rcases h1 : (t == pp.2) with _ | _
              · have h1n : (t != pp.2) = true := by simp [bne, h1]
                have HR4 : Hid (r = (0, 9)) := by
                  have hr := HR3.out
                  rw [fit_false (i := i) (by omega) (by rw [← HTT.out.1, ← HTT.out.2]; exact h1)] at hr
                  cases hr; rfl
                go_wp2_with fail
                go_region
                go_wp2_with fail
                go_ret2
                exact ⟨by rw [HR4.out]; rfl, (below_after HB.out ((Below.refl _ _).alloc (Nat.le_refl _) _)).drew⟩
              · have h1n : (t != pp.2) = false := by simp [bne, h1]
                go_wp2_with fail
                go_region
                go_wp2_with fail
                go_roundg g'
                case measure => omega
                case rel =>
                  refine ⟨i + 1, by go_num, by omega, (below_after HB.out ((Below.refl _ _).alloc (Nat.le_refl _) _)).drew, blk_drew (blk_alloc HK.out _), by have := HZ.out; unfold Hid; simp; omega, fun j hj => ?_⟩
                  rcases Nat.lt_or_ge j i with h | h
                  · exact HJ.out j h
                  · have : j = i := by omega
                    subst this; rw [← HTT.out.1, ← HTT.out.2]; exact h1
        · have hr := HR2.out
          rw [hlen] at hr
          cases hr
          go_wp2_with fail
          go_ret2
          exact ⟨rfl, (Below.refl _ _).alloc (Nat.le_refl _) _⟩

end Go.Proofs.YtbpnfoihonehgabGreatDoor
