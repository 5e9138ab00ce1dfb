/-
  The type of an expression whose Args have these types.
-/
import Derived.Test.YtbpnfoihonehgabGreatDoorTyH
import Derived.Deep.RegionWith
namespace Go.Proofs.YtbpnfoihonehgabGreatDoor
open Go.RowKit Go.Maps
set_option linter.unusedSimpArgs false
set_option linter.unusedVariables false

def typeOfT (pl : DataW Unit) (fs : List Fn') (sc : List (DataW Unit)) (k n : Int) (s : List UInt8) (ts : List Int) : Option (Int × Int) :=
  if k = 1 then some (givT 1 (inB n) 2)
  else if k = 2 then some (givT 3 (decide ((s.length : Int) ≤ 4000)) 1)
  else if k = 3 then some (givT 2 (n == 0 || n == 1) 2)
  else if k = 4 then (if s.length ≤ 1000000 then some (lookT sc s sc.length) else none)
  else if k = 5 then some (twoT s (ts.getD 0 0) (ts.getD 1 0))
  else if k = 6 then some (oneT s (ts.getD 0 0))
  else if k = 7 then (if s.length ≤ 1000000 then callT pl fs s ts else none)
  else if k = 8 then some (givT 1 (partsB (ts.getD 0 0)) 9)
  else if k = 9 then some (givT 1 (partsB (ts.getD 0 0) && ts.getD 1 0 == 1) 9)
  else if k = 10 then some (givT 4 (ts.getD 0 0 == 4 && ts.getD 1 0 == 1) 9)
  else if k = 11 then some (listT ts)
  else some (5, 0)

theorem two_ret (s : List UInt8) (l r : Int) (w : World) : Calls Tryz.prog 119 #[.string ⟨s.toArray⟩, .int .i64 l, .int .i64 r] w fun e w' => e = .returned (.tuple #[.int .i64 (twoT s l r).1, .int .i64 (twoT s l r).2]) ∧ w' = w := typeOfTwo_any s l r w

theorem one_ret (s : List UInt8) (l : Int) (w : World) : Calls Tryz.prog 120 #[.string ⟨s.toArray⟩, .int .i64 l] w fun e w' => e = .returned (.tuple #[.int .i64 (oneT s l).1, .int .i64 (oneT s l).2]) ∧ w' = w := typeOfOne_any s l w

/-- so many Args has a kind; -1: any number -/
def argC (k : Int) : Int := acL.getD k.toNat 0

theorem IntsAt.two {w : World} {v : Value} {ts : List Int} (h : IntsAt w v ts) (hl : ts.length = 2) : ∃ g c t0 t1, v = .slice (some ⟨g, 0, none⟩) 2 c ∧ w.cell? ⟨g, 0, none⟩ = some (.int .i64 t0) ∧ w.cell? ⟨g, 1, none⟩ = some (.int .i64 t1) ∧ ts.getD 0 0 = t0 ∧ ts.getD 1 0 = t1 ∧ g < w.heap.size := by
  obtain ⟨av, cv, rfl, hc⟩ := h
  obtain ⟨g, rfl, h0⟩ := hc 0 (by omega)
  obtain ⟨g', e, h1⟩ := hc 1 (by omega)
  cases e
  exact ⟨g, cv, _, _, by rw [hl], h0, h1, rfl, rfl, World.block_lt_of_cell? w ⟨g, 0, none⟩ h0⟩

theorem IntsAt.one {w : World} {v : Value} {ts : List Int} (h : IntsAt w v ts) (hl : ts.length = 1) : ∃ g c t0, v = .slice (some ⟨g, 0, none⟩) 1 c ∧ w.cell? ⟨g, 0, none⟩ = some (.int .i64 t0) ∧ ts.getD 0 0 = t0 ∧ g < w.heap.size := by
  obtain ⟨av, cv, rfl, hc⟩ := h
  obtain ⟨g, rfl, h0⟩ := hc 0 (by omega)
  exact ⟨g, cv, _, by rw [hl], h0, rfl, World.block_lt_of_cell? w ⟨g, 0, none⟩ h0⟩

set_option maxHeartbeats 2000000 in
theorem typeOf_1 (w : World) (B cb : Nat) (X : List Nat) (fv : Value) (pl : DataW Unit) (res : Int) (sc : List (DataW Unit)) (d l : Nat) (fs : List Fn') (n : Int) (s : List UInt8) (ae : Option Addr) (le ce : Nat) (v : Value) (ts : List Int) (r : Int × Int) (h : Chk w B cb X fv pl res sc d l) (hfs : FsAt w B fv fs) (hfl : fs.length ≤ 1000) (hv : IntsAt w v ts) (htl : ts.length ≤ 1000000) 
    (hr : typeOfT pl fs sc 1 n s ts = some r) :
    Calls Tryz.prog 106 #[.pointer (some ⟨cb, 0, none⟩), .agg #[.int .i64 1, .int .i64 n, .string ⟨s.toArray⟩, .slice ae le ce], v] w fun e w' => e = tyE r ∧ Below w.heap.size w w' := by
  have hsz : (⟨s.toArray⟩ : ByteArray).size = s.length := by rw [Lib.size_eq]
  have HB : Hid (Below w.heap.size w (w.alloc (.cells #[.int .i64 1, .int .i64 n, .string ⟨s.toArray⟩, .slice ae le ce] 116))) := (Below.refl _ _).alloc (Nat.le_refl _) _
  have HC : Hid (Chk (w.alloc (.cells #[.int .i64 1, .int .i64 n, .string ⟨s.toArray⟩, .slice ae le ce] 116)) B cb X fv pl res sc d l) := h.below HB.out
  have HF : Hid (FsAt (w.alloc (.cells #[.int .i64 1, .int .i64 n, .string ⟨s.toArray⟩, .slice ae le ce] 116)) B fv fs) := hfs.below ⟨HB.out.os, HB.out.tape, HB.out.output, HB.out.size, fun i hi => HB.out.block i (by have := (h.low cb h.cbX); omega)⟩
  have HV : Hid (IntsAt (w.alloc (.cells #[.int .i64 1, .int .i64 n, .string ⟨s.toArray⟩, .slice ae le ce] 116)) v ts) := hv.below HB.out
  have HR : Hid (typeOfT pl fs sc 1 n s ts = some r) := hr
  clear hr h hfs hv
  go_enter Tryz.func106, Tryz.ntmps106
  go_wp2_with fail
  refine (inBounds_any _ _).mono ?_
  rintro e w1 ⟨rfl, hw1⟩
  have hw1' := hw1.symm
  subst hw1'
  go_wp2_with fail
  refine (given_any _ _ _ _).mono ?_
  rintro e w1 ⟨rfl, hw1⟩
  have hw1' := hw1.symm
  subst hw1'
  unfold tyE
  go_wp2_with fail
  go_ret2
  have e2 := HR.out
  cases e2
  exact ⟨rfl, HB.out⟩

set_option maxHeartbeats 2000000 in
theorem typeOf_2 (w : World) (B cb : Nat) (X : List Nat) (fv : Value) (pl : DataW Unit) (res : Int) (sc : List (DataW Unit)) (d l : Nat) (fs : List Fn') (n : Int) (s : List UInt8) (ae : Option Addr) (le ce : Nat) (v : Value) (ts : List Int) (r : Int × Int) (h : Chk w B cb X fv pl res sc d l) (hfs : FsAt w B fv fs) (hfl : fs.length ≤ 1000) (hv : IntsAt w v ts) (htl : ts.length ≤ 1000000) 
    (hr : typeOfT pl fs sc 2 n s ts = some r) :
    Calls Tryz.prog 106 #[.pointer (some ⟨cb, 0, none⟩), .agg #[.int .i64 2, .int .i64 n, .string ⟨s.toArray⟩, .slice ae le ce], v] w fun e w' => e = tyE r ∧ Below w.heap.size w w' := by
  have hsz : (⟨s.toArray⟩ : ByteArray).size = s.length := by rw [Lib.size_eq]
  have HB : Hid (Below w.heap.size w (w.alloc (.cells #[.int .i64 2, .int .i64 n, .string ⟨s.toArray⟩, .slice ae le ce] 116))) := (Below.refl _ _).alloc (Nat.le_refl _) _
  have HC : Hid (Chk (w.alloc (.cells #[.int .i64 2, .int .i64 n, .string ⟨s.toArray⟩, .slice ae le ce] 116)) B cb X fv pl res sc d l) := h.below HB.out
  have HF : Hid (FsAt (w.alloc (.cells #[.int .i64 2, .int .i64 n, .string ⟨s.toArray⟩, .slice ae le ce] 116)) B fv fs) := hfs.below ⟨HB.out.os, HB.out.tape, HB.out.output, HB.out.size, fun i hi => HB.out.block i (by have := (h.low cb h.cbX); omega)⟩
  have HV : Hid (IntsAt (w.alloc (.cells #[.int .i64 2, .int .i64 n, .string ⟨s.toArray⟩, .slice ae le ce] 116)) v ts) := hv.below HB.out
  have HR : Hid (typeOfT pl fs sc 2 n s ts = some r) := hr
  clear hr h hfs hv
  have hsl : (0 : Int) ≤ (s.length : Int) := by omega
  go_enter Tryz.func106, Tryz.ntmps106
  go_wp2_with fail
  refine (given_any _ _ _ _).mono ?_
  rintro e w1 ⟨rfl, hw1⟩
  have hw1' := hw1.symm
  subst hw1'
  unfold tyE
  go_wp2_with fail
  go_ret2
  have e2 := HR.out
  cases e2
  exact ⟨rfl, HB.out⟩

set_option maxHeartbeats 2000000 in
theorem typeOf_3 (w : World) (B cb : Nat) (X : List Nat) (fv : Value) (pl : DataW Unit) (res : Int) (sc : List (DataW Unit)) (d l : Nat) (fs : List Fn') (n : Int) (s : List UInt8) (ae : Option Addr) (le ce : Nat) (v : Value) (ts : List Int) (r : Int × Int) (h : Chk w B cb X fv pl res sc d l) (hfs : FsAt w B fv fs) (hfl : fs.length ≤ 1000) (hv : IntsAt w v ts) (htl : ts.length ≤ 1000000) 
    (hr : typeOfT pl fs sc 3 n s ts = some r) :
    Calls Tryz.prog 106 #[.pointer (some ⟨cb, 0, none⟩), .agg #[.int .i64 3, .int .i64 n, .string ⟨s.toArray⟩, .slice ae le ce], v] w fun e w' => e = tyE r ∧ Below w.heap.size w w' := by
  have hsz : (⟨s.toArray⟩ : ByteArray).size = s.length := by rw [Lib.size_eq]
  have HB : Hid (Below w.heap.size w (w.alloc (.cells #[.int .i64 3, .int .i64 n, .string ⟨s.toArray⟩, .slice ae le ce] 116))) := (Below.refl _ _).alloc (Nat.le_refl _) _
  have HC : Hid (Chk (w.alloc (.cells #[.int .i64 3, .int .i64 n, .string ⟨s.toArray⟩, .slice ae le ce] 116)) B cb X fv pl res sc d l) := h.below HB.out
  have HF : Hid (FsAt (w.alloc (.cells #[.int .i64 3, .int .i64 n, .string ⟨s.toArray⟩, .slice ae le ce] 116)) B fv fs) := hfs.below ⟨HB.out.os, HB.out.tape, HB.out.output, HB.out.size, fun i hi => HB.out.block i (by have := (h.low cb h.cbX); omega)⟩
  have HV : Hid (IntsAt (w.alloc (.cells #[.int .i64 3, .int .i64 n, .string ⟨s.toArray⟩, .slice ae le ce] 116)) v ts) := hv.below HB.out
  have HR : Hid (typeOfT pl fs sc 3 n s ts = some r) := hr
  clear hr h hfs hv
  rcases h0 : (n == 0) with _ | _
  · rcases h1 : (n == 1) with _ | _
    · skip
      go_enter Tryz.func106, Tryz.ntmps106
      go_wp2_with fail
      refine (given_any _ _ _ _).mono ?_
      rintro e w1 ⟨rfl, hw1⟩
      have hw1' := hw1.symm
      subst hw1'
      unfold tyE
      go_wp2_with fail
      go_ret2
      have e2 := HR.out
      simp only [typeOfT, h0, h1] at e2
      cases e2
      exact ⟨rfl, HB.out⟩
    · skip
      go_enter Tryz.func106, Tryz.ntmps106
      go_wp2_with fail
      refine (given_any _ _ _ _).mono ?_
      rintro e w1 ⟨rfl, hw1⟩
      have hw1' := hw1.symm
      subst hw1'
      unfold tyE
      go_wp2_with fail
      go_ret2
      have e2 := HR.out
      simp only [typeOfT, h0, h1] at e2
      cases e2
      exact ⟨rfl, HB.out⟩
  · skip
    go_enter Tryz.func106, Tryz.ntmps106
    go_wp2_with fail
    refine (given_any _ _ _ _).mono ?_
    rintro e w1 ⟨rfl, hw1⟩
    have hw1' := hw1.symm
    subst hw1'
    unfold tyE
    go_wp2_with fail
    go_ret2
    have e2 := HR.out
    simp only [typeOfT, h0] at e2
    cases e2
    exact ⟨rfl, HB.out⟩

set_option maxHeartbeats 2000000 in
theorem typeOf_4 (w : World) (B cb : Nat) (X : List Nat) (fv : Value) (pl : DataW Unit) (res : Int) (sc : List (DataW Unit)) (d l : Nat) (fs : List Fn') (n : Int) (s : List UInt8) (ae : Option Addr) (le ce : Nat) (v : Value) (ts : List Int) (r : Int × Int) (h : Chk w B cb X fv pl res sc d l) (hfs : FsAt w B fv fs) (hfl : fs.length ≤ 1000) (hv : IntsAt w v ts) (htl : ts.length ≤ 1000000) 
    (hr : typeOfT pl fs sc 4 n s ts = some r) :
    Calls Tryz.prog 106 #[.pointer (some ⟨cb, 0, none⟩), .agg #[.int .i64 4, .int .i64 n, .string ⟨s.toArray⟩, .slice ae le ce], v] w fun e w' => e = tyE r ∧ Below w.heap.size w w' := by
  have hsz : (⟨s.toArray⟩ : ByteArray).size = s.length := by rw [Lib.size_eq]
  have HB : Hid (Below w.heap.size w (w.alloc (.cells #[.int .i64 4, .int .i64 n, .string ⟨s.toArray⟩, .slice ae le ce] 116))) := (Below.refl _ _).alloc (Nat.le_refl _) _
  have HC : Hid (Chk (w.alloc (.cells #[.int .i64 4, .int .i64 n, .string ⟨s.toArray⟩, .slice ae le ce] 116)) B cb X fv pl res sc d l) := h.below HB.out
  have HF : Hid (FsAt (w.alloc (.cells #[.int .i64 4, .int .i64 n, .string ⟨s.toArray⟩, .slice ae le ce] 116)) B fv fs) := hfs.below ⟨HB.out.os, HB.out.tape, HB.out.output, HB.out.size, fun i hi => HB.out.block i (by have := (h.low cb h.cbX); omega)⟩
  have HV : Hid (IntsAt (w.alloc (.cells #[.int .i64 4, .int .i64 n, .string ⟨s.toArray⟩, .slice ae le ce] 116)) v ts) := hv.below HB.out
  have HR : Hid (typeOfT pl fs sc 4 n s ts = some r) := hr
  clear hr h hfs hv
  have e1 := HR.out
  have hnm : s.length ≤ 1000000 := by
    by_cases hx : s.length ≤ 1000000
    · exact hx
    · simp [typeOfT, hx] at e1
  have HR2 : Hid (lookT sc s sc.length = r) := by unfold Hid; simpa [typeOfT, hnm] using e1
  clear e1
  go_enter Tryz.func106, Tryz.ntmps106
  go_wp2_with fail
  refine (declared_any _ B cb X fv pl res sc d l s HC.out hnm).mono ?_
  rintro e w1 ⟨rfl, hw1⟩
  have hw1' := hw1.symm
  subst hw1'
  rw [HR2.out]
  unfold tyE
  go_wp2_with fail
  go_ret2
  exact ⟨rfl, HB.out⟩

set_option maxHeartbeats 2000000 in
theorem typeOf_7 (w : World) (B cb : Nat) (X : List Nat) (fv : Value) (pl : DataW Unit) (res : Int) (sc : List (DataW Unit)) (d l : Nat) (fs : List Fn') (n : Int) (s : List UInt8) (ae : Option Addr) (le ce : Nat) (v : Value) (ts : List Int) (r : Int × Int) (h : Chk w B cb X fv pl res sc d l) (hfs : FsAt w B fv fs) (hfl : fs.length ≤ 1000) (hv : IntsAt w v ts) (htl : ts.length ≤ 1000000) 
    (hr : typeOfT pl fs sc 7 n s ts = some r) :
    Calls Tryz.prog 106 #[.pointer (some ⟨cb, 0, none⟩), .agg #[.int .i64 7, .int .i64 n, .string ⟨s.toArray⟩, .slice ae le ce], v] w fun e w' => e = tyE r ∧ Below w.heap.size w w' := by
  have hsz : (⟨s.toArray⟩ : ByteArray).size = s.length := by rw [Lib.size_eq]
  have HB : Hid (Below w.heap.size w (w.alloc (.cells #[.int .i64 7, .int .i64 n, .string ⟨s.toArray⟩, .slice ae le ce] 116))) := (Below.refl _ _).alloc (Nat.le_refl _) _
  have HC : Hid (Chk (w.alloc (.cells #[.int .i64 7, .int .i64 n, .string ⟨s.toArray⟩, .slice ae le ce] 116)) B cb X fv pl res sc d l) := h.below HB.out
  have HF : Hid (FsAt (w.alloc (.cells #[.int .i64 7, .int .i64 n, .string ⟨s.toArray⟩, .slice ae le ce] 116)) B fv fs) := hfs.below ⟨HB.out.os, HB.out.tape, HB.out.output, HB.out.size, fun i hi => HB.out.block i (by have := (h.low cb h.cbX); omega)⟩
  have HV : Hid (IntsAt (w.alloc (.cells #[.int .i64 7, .int .i64 n, .string ⟨s.toArray⟩, .slice ae le ce] 116)) v ts) := hv.below HB.out
  have HR : Hid (typeOfT pl fs sc 7 n s ts = some r) := hr
  clear hr h hfs hv
  have e1 := HR.out
  have hnm : s.length ≤ 1000000 := by
    by_cases hx : s.length ≤ 1000000
    · exact hx
    · simp [typeOfT, hx] at e1
  have HR2 : Hid (callT pl fs s ts = some r) := by unfold Hid; simpa [typeOfT, hnm] using e1
  clear e1
  go_enter Tryz.func106, Tryz.ntmps106
  go_wp2_with fail
  refine (typeOfCall_any _ B cb X fv pl res sc d l fs s v ts r HC.out HF.out hnm HV.out htl hfl HR2.out).mono ?_
  rintro e w1 ⟨rfl, hb1⟩
  have HB1 : Hid (_) := hb1
  clear hb1
  unfold tyE
  go_wp2_with fail
  go_ret2
  exact ⟨rfl, below_after HB.out HB1.out⟩

set_option maxHeartbeats 2000000 in
theorem typeOf_11 (w : World) (B cb : Nat) (X : List Nat) (fv : Value) (pl : DataW Unit) (res : Int) (sc : List (DataW Unit)) (d l : Nat) (fs : List Fn') (n : Int) (s : List UInt8) (ae : Option Addr) (le ce : Nat) (v : Value) (ts : List Int) (r : Int × Int) (h : Chk w B cb X fv pl res sc d l) (hfs : FsAt w B fv fs) (hfl : fs.length ≤ 1000) (hv : IntsAt w v ts) (htl : ts.length ≤ 1000000) 
    (hr : typeOfT pl fs sc 11 n s ts = some r) :
    Calls Tryz.prog 106 #[.pointer (some ⟨cb, 0, none⟩), .agg #[.int .i64 11, .int .i64 n, .string ⟨s.toArray⟩, .slice ae le ce], v] w fun e w' => e = tyE r ∧ Below w.heap.size w w' := by
  have hsz : (⟨s.toArray⟩ : ByteArray).size = s.length := by rw [Lib.size_eq]
  have HB : Hid (Below w.heap.size w (w.alloc (.cells #[.int .i64 11, .int .i64 n, .string ⟨s.toArray⟩, .slice ae le ce] 116))) := (Below.refl _ _).alloc (Nat.le_refl _) _
  have HC : Hid (Chk (w.alloc (.cells #[.int .i64 11, .int .i64 n, .string ⟨s.toArray⟩, .slice ae le ce] 116)) B cb X fv pl res sc d l) := h.below HB.out
  have HF : Hid (FsAt (w.alloc (.cells #[.int .i64 11, .int .i64 n, .string ⟨s.toArray⟩, .slice ae le ce] 116)) B fv fs) := hfs.below ⟨HB.out.os, HB.out.tape, HB.out.output, HB.out.size, fun i hi => HB.out.block i (by have := (h.low cb h.cbX); omega)⟩
  have HV : Hid (IntsAt (w.alloc (.cells #[.int .i64 11, .int .i64 n, .string ⟨s.toArray⟩, .slice ae le ce] 116)) v ts) := hv.below HB.out
  have HR : Hid (typeOfT pl fs sc 11 n s ts = some r) := hr
  clear hr h hfs hv
  go_enter Tryz.func106, Tryz.ntmps106
  go_wp2_with fail
  refine (typeOfList_any _ v ts HV.out htl).mono ?_
  rintro e w1 ⟨rfl, hw1⟩
  have hw1' := hw1.symm
  subst hw1'
  unfold tyE
  go_wp2_with fail
  go_ret2
  have e2 := HR.out
  cases e2
  exact ⟨rfl, HB.out⟩

set_option maxHeartbeats 2000000 in
theorem typeOf_12 (w : World) (B cb : Nat) (X : List Nat) (fv : Value) (pl : DataW Unit) (res : Int) (sc : List (DataW Unit)) (d l : Nat) (fs : List Fn') (n : Int) (s : List UInt8) (ae : Option Addr) (le ce : Nat) (v : Value) (ts : List Int) (r : Int × Int) (h : Chk w B cb X fv pl res sc d l) (hfs : FsAt w B fv fs) (hfl : fs.length ≤ 1000) (hv : IntsAt w v ts) (htl : ts.length ≤ 1000000) 
    (hr : typeOfT pl fs sc 12 n s ts = some r) :
    Calls Tryz.prog 106 #[.pointer (some ⟨cb, 0, none⟩), .agg #[.int .i64 12, .int .i64 n, .string ⟨s.toArray⟩, .slice ae le ce], v] w fun e w' => e = tyE r ∧ Below w.heap.size w w' := by
  have hsz : (⟨s.toArray⟩ : ByteArray).size = s.length := by rw [Lib.size_eq]
  have HB : Hid (Below w.heap.size w (w.alloc (.cells #[.int .i64 12, .int .i64 n, .string ⟨s.toArray⟩, .slice ae le ce] 116))) := (Below.refl _ _).alloc (Nat.le_refl _) _
  have HC : Hid (Chk (w.alloc (.cells #[.int .i64 12, .int .i64 n, .string ⟨s.toArray⟩, .slice ae le ce] 116)) B cb X fv pl res sc d l) := h.below HB.out
  have HF : Hid (FsAt (w.alloc (.cells #[.int .i64 12, .int .i64 n, .string ⟨s.toArray⟩, .slice ae le ce] 116)) B fv fs) := hfs.below ⟨HB.out.os, HB.out.tape, HB.out.output, HB.out.size, fun i hi => HB.out.block i (by have := (h.low cb h.cbX); omega)⟩
  have HV : Hid (IntsAt (w.alloc (.cells #[.int .i64 12, .int .i64 n, .string ⟨s.toArray⟩, .slice ae le ce] 116)) v ts) := hv.below HB.out
  have HR : Hid (typeOfT pl fs sc 12 n s ts = some r) := hr
  clear hr h hfs hv
  go_enter Tryz.func106, Tryz.ntmps106
  go_wp2_with fail
  go_ret2
  have e2 := HR.out
  cases e2
  exact ⟨rfl, HB.out⟩

set_option maxHeartbeats 2000000 in
theorem typeOf_8 (w : World) (B cb : Nat) (X : List Nat) (fv : Value) (pl : DataW Unit) (res : Int) (sc : List (DataW Unit)) (d l : Nat) (fs : List Fn') (n : Int) (s : List UInt8) (ae : Option Addr) (le ce : Nat) (v : Value) (ts : List Int) (r : Int × Int) (h : Chk w B cb X fv pl res sc d l) (hfs : FsAt w B fv fs) (hfl : fs.length ≤ 1000) (hv : IntsAt w v ts) (htl : ts.length ≤ 1000000) (hts : ts.length = 1)
    (hr : typeOfT pl fs sc 8 n s ts = some r) :
    Calls Tryz.prog 106 #[.pointer (some ⟨cb, 0, none⟩), .agg #[.int .i64 8, .int .i64 n, .string ⟨s.toArray⟩, .slice ae le ce], v] w fun e w' => e = tyE r ∧ Below w.heap.size w w' := by
  have hsz : (⟨s.toArray⟩ : ByteArray).size = s.length := by rw [Lib.size_eq]
  have HB : Hid (Below w.heap.size w (w.alloc (.cells #[.int .i64 8, .int .i64 n, .string ⟨s.toArray⟩, .slice ae le ce] 116))) := (Below.refl _ _).alloc (Nat.le_refl _) _
  have HC : Hid (Chk (w.alloc (.cells #[.int .i64 8, .int .i64 n, .string ⟨s.toArray⟩, .slice ae le ce] 116)) B cb X fv pl res sc d l) := h.below HB.out
  have HF : Hid (FsAt (w.alloc (.cells #[.int .i64 8, .int .i64 n, .string ⟨s.toArray⟩, .slice ae le ce] 116)) B fv fs) := hfs.below ⟨HB.out.os, HB.out.tape, HB.out.output, HB.out.size, fun i hi => HB.out.block i (by have := (h.low cb h.cbX); omega)⟩
  have HV : Hid (IntsAt (w.alloc (.cells #[.int .i64 8, .int .i64 n, .string ⟨s.toArray⟩, .slice ae le ce] 116)) v ts) := hv.below HB.out
  obtain ⟨ga, ca, t0, rfl, q0, e0, hgl⟩ := hv.one hts
  have HR : Hid (typeOfT pl fs sc 8 n s ts = some r) := hr
  clear hr h hfs hv
  go_enter Tryz.func106, Tryz.ntmps106
  go_wp2_with fail
  refine (hasParts_any _ _).mono ?_
  rintro e w1 ⟨rfl, hw1⟩
  have hw1' := hw1.symm
  subst hw1'
  go_wp2_with fail
  refine (given_any _ _ _ _).mono ?_
  rintro e w1 ⟨rfl, hw1⟩
  have hw1' := hw1.symm
  subst hw1'
  unfold tyE
  go_wp2_with fail
  go_ret2
  have e2 := HR.out
  simp only [typeOfT] at e2
  rw [e0] at e2
  cases e2
  exact ⟨rfl, HB.out⟩

set_option maxHeartbeats 2000000 in
theorem typeOf_9 (w : World) (B cb : Nat) (X : List Nat) (fv : Value) (pl : DataW Unit) (res : Int) (sc : List (DataW Unit)) (d l : Nat) (fs : List Fn') (n : Int) (s : List UInt8) (ae : Option Addr) (le ce : Nat) (v : Value) (ts : List Int) (r : Int × Int) (h : Chk w B cb X fv pl res sc d l) (hfs : FsAt w B fv fs) (hfl : fs.length ≤ 1000) (hv : IntsAt w v ts) (htl : ts.length ≤ 1000000) (hts : ts.length = 2)
    (hr : typeOfT pl fs sc 9 n s ts = some r) :
    Calls Tryz.prog 106 #[.pointer (some ⟨cb, 0, none⟩), .agg #[.int .i64 9, .int .i64 n, .string ⟨s.toArray⟩, .slice ae le ce], v] w fun e w' => e = tyE r ∧ Below w.heap.size w w' := by
  have hsz : (⟨s.toArray⟩ : ByteArray).size = s.length := by rw [Lib.size_eq]
  have HB : Hid (Below w.heap.size w (w.alloc (.cells #[.int .i64 9, .int .i64 n, .string ⟨s.toArray⟩, .slice ae le ce] 116))) := (Below.refl _ _).alloc (Nat.le_refl _) _
  have HC : Hid (Chk (w.alloc (.cells #[.int .i64 9, .int .i64 n, .string ⟨s.toArray⟩, .slice ae le ce] 116)) B cb X fv pl res sc d l) := h.below HB.out
  have HF : Hid (FsAt (w.alloc (.cells #[.int .i64 9, .int .i64 n, .string ⟨s.toArray⟩, .slice ae le ce] 116)) B fv fs) := hfs.below ⟨HB.out.os, HB.out.tape, HB.out.output, HB.out.size, fun i hi => HB.out.block i (by have := (h.low cb h.cbX); omega)⟩
  have HV : Hid (IntsAt (w.alloc (.cells #[.int .i64 9, .int .i64 n, .string ⟨s.toArray⟩, .slice ae le ce] 116)) v ts) := hv.below HB.out
  obtain ⟨ga, ca, t0, t1, rfl, q0, q1, e0, e1, hgl⟩ := hv.two hts
  have HR : Hid (typeOfT pl fs sc 9 n s ts = some r) := hr
  clear hr h hfs hv
  rcases hp : partsB t0 with _ | _
  · skip
    go_enter Tryz.func106, Tryz.ntmps106
    go_wp2_with fail
    refine (hasParts_any _ _).mono ?_
    rintro e w1 ⟨rfl, hw1⟩
    have hw1' := hw1.symm
    subst hw1'
    rw [hp]
    go_wp2_with fail
    refine (given_any _ _ _ _).mono ?_
    rintro e w1 ⟨rfl, hw1⟩
    have hw1' := hw1.symm
    subst hw1'
    unfold tyE
    go_wp2_with fail
    go_ret2
    have e2 := HR.out
    simp only [typeOfT] at e2
    rw [e0, e1] at e2
    rw [hp] at e2
    cases e2
    exact ⟨rfl, HB.out⟩
  · skip
    go_enter Tryz.func106, Tryz.ntmps106
    go_wp2_with fail
    refine (hasParts_any _ _).mono ?_
    rintro e w1 ⟨rfl, hw1⟩
    have hw1' := hw1.symm
    subst hw1'
    rw [hp]
    go_wp2_with fail
    refine (given_any _ _ _ _).mono ?_
    rintro e w1 ⟨rfl, hw1⟩
    have hw1' := hw1.symm
    subst hw1'
    unfold tyE
    go_wp2_with fail
    go_ret2
    have e2 := HR.out
    simp only [typeOfT] at e2
    rw [e0, e1] at e2
    rw [hp] at e2
    cases e2
    exact ⟨rfl, HB.out⟩

set_option maxHeartbeats 2000000 in
theorem typeOf_10 (w : World) (B cb : Nat) (X : List Nat) (fv : Value) (pl : DataW Unit) (res : Int) (sc : List (DataW Unit)) (d l : Nat) (fs : List Fn') (n : Int) (s : List UInt8) (ae : Option Addr) (le ce : Nat) (v : Value) (ts : List Int) (r : Int × Int) (h : Chk w B cb X fv pl res sc d l) (hfs : FsAt w B fv fs) (hfl : fs.length ≤ 1000) (hv : IntsAt w v ts) (htl : ts.length ≤ 1000000) (hts : ts.length = 2)
    (hr : typeOfT pl fs sc 10 n s ts = some r) :
    Calls Tryz.prog 106 #[.pointer (some ⟨cb, 0, none⟩), .agg #[.int .i64 10, .int .i64 n, .string ⟨s.toArray⟩, .slice ae le ce], v] w fun e w' => e = tyE r ∧ Below w.heap.size w w' := by
  have hsz : (⟨s.toArray⟩ : ByteArray).size = s.length := by rw [Lib.size_eq]
  have HB : Hid (Below w.heap.size w (w.alloc (.cells #[.int .i64 10, .int .i64 n, .string ⟨s.toArray⟩, .slice ae le ce] 116))) := (Below.refl _ _).alloc (Nat.le_refl _) _
  have HC : Hid (Chk (w.alloc (.cells #[.int .i64 10, .int .i64 n, .string ⟨s.toArray⟩, .slice ae le ce] 116)) B cb X fv pl res sc d l) := h.below HB.out
  have HF : Hid (FsAt (w.alloc (.cells #[.int .i64 10, .int .i64 n, .string ⟨s.toArray⟩, .slice ae le ce] 116)) B fv fs) := hfs.below ⟨HB.out.os, HB.out.tape, HB.out.output, HB.out.size, fun i hi => HB.out.block i (by have := (h.low cb h.cbX); omega)⟩
  have HV : Hid (IntsAt (w.alloc (.cells #[.int .i64 10, .int .i64 n, .string ⟨s.toArray⟩, .slice ae le ce] 116)) v ts) := hv.below HB.out
  obtain ⟨ga, ca, t0, t1, rfl, q0, q1, e0, e1, hgl⟩ := hv.two hts
  have HR : Hid (typeOfT pl fs sc 10 n s ts = some r) := hr
  clear hr h hfs hv
  rcases hp : (t0 == 4) with _ | _
  · skip
    go_enter Tryz.func106, Tryz.ntmps106
    go_wp2_with fail
    refine (given_any _ _ _ _).mono ?_
    rintro e w1 ⟨rfl, hw1⟩
    have hw1' := hw1.symm
    subst hw1'
    unfold tyE
    go_wp2_with fail
    go_ret2
    have e2 := HR.out
    simp only [typeOfT] at e2
    rw [e0, e1] at e2
    rw [hp] at e2
    cases e2
    exact ⟨rfl, HB.out⟩
  · skip
    go_enter Tryz.func106, Tryz.ntmps106
    go_wp2_with fail
    refine (given_any _ _ _ _).mono ?_
    rintro e w1 ⟨rfl, hw1⟩
    have hw1' := hw1.symm
    subst hw1'
    unfold tyE
    go_wp2_with fail
    go_ret2
    have e2 := HR.out
    simp only [typeOfT] at e2
    rw [e0, e1] at e2
    rw [hp] at e2
    cases e2
    exact ⟨rfl, HB.out⟩

set_option maxHeartbeats 2000000 in
theorem typeOf_5 (w : World) (B cb : Nat) (X : List Nat) (fv : Value) (pl : DataW Unit) (res : Int) (sc : List (DataW Unit)) (d l : Nat) (fs : List Fn') (n : Int) (s : List UInt8) (ae : Option Addr) (le ce : Nat) (v : Value) (ts : List Int) (r : Int × Int) (h : Chk w B cb X fv pl res sc d l) (hfs : FsAt w B fv fs) (hfl : fs.length ≤ 1000) (hv : IntsAt w v ts) (htl : ts.length ≤ 1000000) (hts : ts.length = 2)
    (hr : typeOfT pl fs sc 5 n s ts = some r) :
    Calls Tryz.prog 106 #[.pointer (some ⟨cb, 0, none⟩), .agg #[.int .i64 5, .int .i64 n, .string ⟨s.toArray⟩, .slice ae le ce], v] w fun e w' => e = tyE r ∧ Below w.heap.size w w' := by
  have hsz : (⟨s.toArray⟩ : ByteArray).size = s.length := by rw [Lib.size_eq]
  have HB : Hid (Below w.heap.size w (w.alloc (.cells #[.int .i64 5, .int .i64 n, .string ⟨s.toArray⟩, .slice ae le ce] 116))) := (Below.refl _ _).alloc (Nat.le_refl _) _
  have HC : Hid (Chk (w.alloc (.cells #[.int .i64 5, .int .i64 n, .string ⟨s.toArray⟩, .slice ae le ce] 116)) B cb X fv pl res sc d l) := h.below HB.out
  have HF : Hid (FsAt (w.alloc (.cells #[.int .i64 5, .int .i64 n, .string ⟨s.toArray⟩, .slice ae le ce] 116)) B fv fs) := hfs.below ⟨HB.out.os, HB.out.tape, HB.out.output, HB.out.size, fun i hi => HB.out.block i (by have := (h.low cb h.cbX); omega)⟩
  have HV : Hid (IntsAt (w.alloc (.cells #[.int .i64 5, .int .i64 n, .string ⟨s.toArray⟩, .slice ae le ce] 116)) v ts) := hv.below HB.out
  obtain ⟨ga, ca, t0, t1, rfl, q0, q1, e0, e1, hgl⟩ := hv.two hts
  have HR : Hid (typeOfT pl fs sc 5 n s ts = some r) := hr
  clear hr h hfs hv
  go_enter Tryz.func106, Tryz.ntmps106
  go_wp2_with fail
  go_quiet ((go_at_call 119; exact Calls.quiet_of_same (two_ret _ _ _ _)))
  go_wp2_with fail
  go_ret2
  have e2 := HR.out
  simp only [typeOfT] at e2
  rw [e0, e1] at e2
  cases e2
  exact ⟨rfl, below_drewN HB.out _⟩

set_option maxHeartbeats 2000000 in
theorem typeOf_6 (w : World) (B cb : Nat) (X : List Nat) (fv : Value) (pl : DataW Unit) (res : Int) (sc : List (DataW Unit)) (d l : Nat) (fs : List Fn') (n : Int) (s : List UInt8) (ae : Option Addr) (le ce : Nat) (v : Value) (ts : List Int) (r : Int × Int) (h : Chk w B cb X fv pl res sc d l) (hfs : FsAt w B fv fs) (hfl : fs.length ≤ 1000) (hv : IntsAt w v ts) (htl : ts.length ≤ 1000000) (hts : ts.length = 1)
    (hr : typeOfT pl fs sc 6 n s ts = some r) :
    Calls Tryz.prog 106 #[.pointer (some ⟨cb, 0, none⟩), .agg #[.int .i64 6, .int .i64 n, .string ⟨s.toArray⟩, .slice ae le ce], v] w fun e w' => e = tyE r ∧ Below w.heap.size w w' := by
  have hsz : (⟨s.toArray⟩ : ByteArray).size = s.length := by rw [Lib.size_eq]
  have HB : Hid (Below w.heap.size w (w.alloc (.cells #[.int .i64 6, .int .i64 n, .string ⟨s.toArray⟩, .slice ae le ce] 116))) := (Below.refl _ _).alloc (Nat.le_refl _) _
  have HC : Hid (Chk (w.alloc (.cells #[.int .i64 6, .int .i64 n, .string ⟨s.toArray⟩, .slice ae le ce] 116)) B cb X fv pl res sc d l) := h.below HB.out
  have HF : Hid (FsAt (w.alloc (.cells #[.int .i64 6, .int .i64 n, .string ⟨s.toArray⟩, .slice ae le ce] 116)) B fv fs) := hfs.below ⟨HB.out.os, HB.out.tape, HB.out.output, HB.out.size, fun i hi => HB.out.block i (by have := (h.low cb h.cbX); omega)⟩
  have HV : Hid (IntsAt (w.alloc (.cells #[.int .i64 6, .int .i64 n, .string ⟨s.toArray⟩, .slice ae le ce] 116)) v ts) := hv.below HB.out
  obtain ⟨ga, ca, t0, rfl, q0, e0, hgl⟩ := hv.one hts
  have HR : Hid (typeOfT pl fs sc 6 n s ts = some r) := hr
  clear hr h hfs hv
  go_enter Tryz.func106, Tryz.ntmps106
  go_wp2_with fail
  go_quiet ((go_at_call 120; exact Calls.quiet_of_same (one_ret _ _ _)))
  go_wp2_with fail
  go_ret2
  have e2 := HR.out
  simp only [typeOfT] at e2
  rw [e0] at e2
  cases e2
  exact ⟨rfl, below_drewN HB.out _⟩

end Go.Proofs.YtbpnfoihonehgabGreatDoor
