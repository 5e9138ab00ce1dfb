/-
  The statement's own answer: a function by its name; a number that is there twice.
-/
import Derived.Test.YtbpbpihboenbeaaDoorIaP
namespace Go.Proofs.YtbpbpihboenbeaaDoor
open Go.RowKit Go.Maps
set_option linter.unusedSimpArgs false
set_option linter.unusedVariables false

def plI (fs : List Cod) (s : List UInt8) : Int := match placeOf fs s with
  | none => -1
  | some k => (k : Int)

theorem find_at {fs : List Cod} {s : List UInt8} {i : Nat} {f : Cod} (h : ∀ (j : Nat) (x : Cod), j < i → fs[j]? = some x → (x.name == s) = false) (hi : fs[i]? = some f) (hf : (f.name == s) = true) : placeOf fs s = some i := by
  unfold placeOf
  rw [List.findIdx?_eq_some_iff_getElem]
  obtain ⟨hlt, he⟩ := List.getElem?_eq_some_iff.1 hi
  refine ⟨hlt, by rw [he]; exact hf, fun j hj => ?_⟩
  have := h j fs[j] hj (List.getElem?_eq_getElem (by omega))
  simpa using this

theorem find_none {fs : List Cod} {s : List UInt8} (h : ∀ (j : Nat) (x : Cod), fs[j]? = some x → (x.name == s) = false) : placeOf fs s = none := by
  unfold placeOf
  rw [List.findIdx?_eq_none_iff]
  intro x hx
  obtain ⟨j, hj⟩ := List.getElem?_of_mem hx
  exact h j x hj

set_option maxHeartbeats 2000000 in
set_option maxRecDepth 20000 in
theorem funcNamed_any (fs : List Cod) (s : List UInt8) (vf vd : Value) (B : Nat) (w : World) (hB : B ≤ w.heap.size) (hfs : Cods B w vf fs) (hvd : ∃ a n k, vd = .slice a n k) :
    Calls Tryd.prog 17 #[prgV vf vd, .string ⟨s.toArray⟩] w fun e w' => e = .returned (.int .i64 (plI fs s)) ∧ Below w.heap.size w w' := by
  obtain ⟨a, c, rfl⟩ := Lies.slice hfs
  obtain ⟨a2, n2, k2, rfl⟩ := hvd
  have hlm := hfs.len
  unfold maxLen at hlm
  have HFS : Hid (Cods B w (.slice a fs.length c) fs) := hfs
  obtain ⟨r, hr⟩ : ∃ r, r = plI fs s := ⟨_, rfl⟩
  rw [← hr]
  have HR : Hid (r = plI fs s) := hr
  obtain ⟨W, hW⟩ : ∃ W, W = w.alloc (.cells #[.slice a fs.length c, .slice a2 n2 k2] 25) := ⟨_, rfl⟩
  have HW : Hid (Below w.heap.size w W) := by rw [hW]; exact below_alloc _ _
  have HC : Hid (W.heap[w.heap.size]? = some (.cells #[.slice a fs.length c, .slice a2 n2 k2] 25)) := by rw [hW]; exact heap_alloc_new w _
  have HWS : Hid (W = _) := hW
  clear hfs hr hW
  unfold prgV
  go_enter Tryd.func17, Tryd.ntmps17
  go_wp2_with fail
  rw [← HWS.out]
  have p1 := cells2 HC.out
  clear HWS HC
  go_loopg [5] fs.length (fun g s5 wr => ∃ i : Nat, s5 = .int .i64 (i : Nat) ∧ i + g = fs.length ∧ wr = W ∧ Hid (∀ (j : Nat) (x : Cod), j < i → fs[j]? = some x → (x.name == s) = false))
  case atStart => exact ⟨0, rfl, by omega, rfl, fun j x hj => absurd hj (by omega)⟩
  case round =>
    obtain ⟨i, rfl, hi', rfl, HJ⟩ := hrel
    cases gk with
    | zero =>
      have hlt : ¬ (i : Int) < (fs.length : Int) := by omega
      have HA : Hid (r = -1) := by
        unfold Hid
        rw [HR.out, plI, find_none fun j x hx => HJ.out j x (by have := (List.getElem?_eq_some_iff.1 hx).1; omega) hx]
      go_wp2_with fail
      go_ret
      exact ⟨by rw [HA.out]; rfl, HW.out⟩
    | succ g =>
      have hlt : (i : Int) < (fs.length : Int) := by omega
      have hilt : i < fs.length := by omega
      have hget : fs[i]? = some fs[i] := List.getElem?_eq_getElem hilt
      generalize fs[i] = x at hget
      obtain ⟨ga, o, cs, rfl, hgB, hcs, hu, hcell⟩ := Lies.at HFS.out hget
      obtain ⟨vb, rfl, hvb, hnl, _⟩ := hu
      have hga : ga < w.heap.size := by omega
      have q0 := hcell 0 (by decide)
      simp at q0
      rw [← HW.out.cell (p := ⟨ga, o + i * 6, none⟩) hga] at q0
      have HG : Hid (_) := hget
      clear hcell hget hcs hvb hnl
      rcases hb : (x.name == s) with _ | _
      · go_wp2_with fail
        go_roundg g
        case measure => omega
        case rel =>
          refine ⟨i + 1, by go_num, by omega, rfl, fun j y hj hy => ?_⟩
          rcases Nat.lt_or_ge j i with h | h
          · exact HJ.out j y h hy
          · have : j = i := by omega
            subst this
            rw [HG.out] at hy
            cases hy
            exact hb
      · have HA : Hid (r = (i : Int)) := by
          unfold Hid
          rw [HR.out, plI, find_at HJ.out HG.out hb]
        go_wp2_with fail
        go_ret
        exact ⟨by rw [HA.out]; rfl, HW.out⟩

theorem twice_of : ∀ (ds : List Int) (m n : Nat) (x : Int), m < n → ds[m]? = some x → ds[n]? = some x → twiceB ds = true
  | [], m, n, x, _, h, _ => by simp at h
  | d :: ds, 0, n + 1, x, _, h, h' => by
    simp at h h'
    subst h
    have : d ∈ ds := List.mem_of_getElem? h'
    simp [twiceB, this]
  | d :: ds, m + 1, n + 1, x, hmn, h, h' => by
    simp at h h'
    have := twice_of ds m n x (by omega) h h'
    simp [twiceB, this]

theorem twice_not : ∀ (ds : List Int), (∀ (m n : Nat) (x : Int), m < n → ds[m]? = some x → ds[n]? = some x → False) → twiceB ds = false
  | [], _ => rfl
  | d :: ds, h => by
    have h1 := twice_not ds fun m n x hmn a b => h (m + 1) (n + 1) x (by omega) (by simpa using a) (by simpa using b)
    have h2 : ds.contains d = false := by
      rw [Bool.eq_false_iff]
      intro hc
      rw [List.contains_iff_mem] at hc
      obtain ⟨n, hn⟩ := List.getElem?_of_mem hc
      exact h 0 (n + 1) d (by omega) (by simp) (by simpa using hn)
    simp [twiceB, h1]
    simpa using h2

end Go.Proofs.YtbpbpihboenbeaaDoor
