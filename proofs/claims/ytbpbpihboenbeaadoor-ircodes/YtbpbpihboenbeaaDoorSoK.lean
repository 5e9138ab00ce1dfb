/-
  A block; code.
-/
import Derived.Test.YtbpbpihboenbeaaDoorSoI
import Derived.Test.YtbpbpihboenbeaaDoorSoJ2
namespace Go.Proofs.YtbpbpihboenbeaaDoor
open Go.RowKit Go.Maps
set_option linter.unusedSimpArgs false
set_option linter.unusedVariables false


theorem cells1 {w : World} {x : Nat} {T : TypeId} {f : Nat × Nat} {c0 : Value} (h : w.heap[x]? = some (.cells #[c0] T f)) : w.cell? ⟨x, 0, none⟩ = some c0 := by simp [World.cell?, h]

def atS (fs : List Cod) (c : Cod) (b : List Ins) (k : Nat) : Int := match b[k]? with
  | none => 0
  | some i => if instrS fs c i != 0 then instrS fs c i else if endsB i.op != ((k : Int) == (b.length : Int) - 1) then 4 else 0
def blockS (fs : List Cod) (c : Cod) (k : Nat) : Int := match c.blocks[k]? with
  | none => 0
  | some b => if b.length = 0 then 6 else if mostN < accW c.blocks (k + 1) then 1 else firstNZ (atS fs c b) 0 b.length
def codeS (fs : List Cod) (c : Cod) : Int := if headS c != 0 then headS c else firstNZ (blockS fs c) 0 c.blocks.length

/-- the block of a checker -/
def chkO (qc : Nat) (N : Int) (vf : Value) (mp : Nat) (c : Cod) (vb : Value) : Obj := .cells #[.func (.func 25) #[] #[], .func (.func 26) #[] #[], .func (.func 27) #[] #[], .func (.func 28) #[] #[], .int .i64 N, vf, .map (some mp), .string ⟨c.name.toArray⟩, .int .i64 c.params, .int .i64 c.results, .int .i64 c.vars, .int .i64 c.slots, vb] 77
/-- the block of the rules -/
def rulO (qc : Nat) (N : Int) : Obj := .cells #[.func (.func 25) #[] #[], .func (.func 26) #[] #[], .func (.func 27) #[] #[], .func (.func 28) #[] #[], .int .i64 N] 38

set_option maxHeartbeats 4000000 in
set_option maxRecDepth 20000 in
theorem blockAt_any (i : Ins) (k : Nat) (b : List Ins) (c : Cod) (fs : List Cod) (vf vb vd va vt : Value) (abk : Option Addr) (cbk mp qc B p1 p2 : Nat) (N : Int) (w : World) (h : Ck w B mp qc vf fs) (hvb : ∃ a k, vb = .slice a c.blocks.length k) (hbl : c.blocks.length ≤ 2000)
    (hp1 : w.heap[p1]? = some (chkO qc N vf mp c vb)) (hp2 : w.heap[p2]? = some (.cells #[.slice abk b.length cbk] 40)) (hi : b[k]? = some i) (hlen : b.length ≤ maxLen)
    (hd : Nums B w vd i.ds) (ha : Nums B w va i.ar) (ht : Nums B w vt i.to) (hs : i.s.length ≤ maxLen) :
    Calls Tryd.prog 59 #[.int .i64 (k : Int), insV i vd va vt, .pointer (some ⟨p1, 0, none⟩), .pointer (some ⟨p2, 0, none⟩)] w fun e w' => e = .returned (.int .i64 (atS fs c b k)) ∧ Below w.heap.size w w' := by
  have hB := h.le
  have HH : Hid (_) := h
  obtain ⟨a1, k1, rfl⟩ := Lies.slice h.cods
  obtain ⟨a2, k2, rfl⟩ := hvb
  obtain ⟨ad, kd, rfl⟩ := Lies.slice hd
  obtain ⟨a4, k4, rfl⟩ := Lies.slice ha
  obtain ⟨a5, k5, rfl⟩ := Lies.slice ht
  obtain ⟨r, hr⟩ : ∃ r, r = atS fs c b k := ⟨_, rfl⟩
  rw [← hr]
  unfold atS at hr
  rw [hi] at hr
  simp only at hr
  have HR : Hid (r = _) := hr
  have HD : Hid (Nums B w (.slice ad i.ds.length kd) i.ds) := hd
  have HA : Hid (Nums B w (.slice a4 i.ar.length k4) i.ar) := ha
  have HT : Hid (Nums B w (.slice a5 i.to.length k5) i.to) := ht
  have HS : Hid (_) := hs
  have HBL : Hid (_) := hbl
  have hkl : k < b.length := (List.getElem?_eq_some_iff.1 hi).1
  unfold chkO at hp1
  have hl1 := lt_of_block hp1
  have hl2 := lt_of_block hp2
  obtain ⟨n, hn⟩ : ∃ n, n = b.length := ⟨_, rfl⟩
  rw [← hn] at hkl hlen hp2 HR
  unfold maxLen at hlen
  have c1 := cells13 hp1
  have c2 := cells1 hp2
  have HP1 : Hid (_) := hp1
  have HP2 : Hid (_) := hp2
  obtain ⟨W, hW⟩ : ∃ W, W = w.alloc (Obj.cells #[Value.int IntKind.i64 i.op, Value.slice ad i.ds.length kd, Value.slice a4 i.ar.length k4, Value.int IntKind.i64 i.n, Value.string ⟨i.s.toArray⟩, Value.slice a5 i.to.length k5] 43) := ⟨_, rfl⟩
  have HW : Hid (Below w.heap.size w W) := by rw [hW]; exact below_alloc _ _
  have hWs : W.heap.size = w.heap.size + 1 := by rw [hW]; simp
  have HC2 : Hid (W.heap[w.heap.size]? = some (Obj.cells #[Value.int IntKind.i64 i.op, Value.slice ad i.ds.length kd, Value.slice a4 i.ar.length k4, Value.int IntKind.i64 i.n, Value.string ⟨i.s.toArray⟩, Value.slice a5 i.to.length k5] 43)) := by rw [hW]; exact heap_alloc_new w _
  have HWS : Hid (W = _) := hW
  clear h hd ha ht hs hbl hr hW hi hp1 hp2 hn
  unfold insV
  go_enter Tryd.func59, Tryd.ntmps59
  go_wp2_with fail
  rw [← HWS.out]
  clear c1 c2
  refine (instr_any i c fs _ _ _ _ _ mp qc B N W (HH.out.below HW.out) ⟨_, _, rfl⟩ HBL.out (HD.out.below (HW.out.mono hB)) (HA.out.below (HW.out.mono hB)) (HT.out.below (HW.out.mono hB)) HS.out).mono ?_
  rintro e w1 ⟨rfl, hb1⟩
  have HB1 : Hid (Below w.heap.size w w1) := below_after HW.out hb1
  have hs1 := hb1.size
  have c2 := cells1 ((HB1.out.block _ hl2).trans HP2.out)
  have c3 := cells6 ((hb1.block _ (by omega)).trans HC2.out)
  clear hb1 HC2 HWS
  rcases h1 : (instrS fs c i != 0) with _ | _
  · have hN1 : (0 : Int) < (n : Int) := by omega
    go_wp2_with fail
    refine (ends_any i.op _).mono ?_
    rintro e w2 ⟨rfl, hw2⟩
    have hw2' := hw2.symm
    subst hw2'
    rcases e1 : endsB i.op with _ | _ <;> rcases e2 : ((k : Int) == (n : Int) - 1) with _ | _
    · have HR2 : Hid (r = 0) := by unfold Hid; rw [HR.out, h1, e1, e2]; rfl
      go_wp2_with fail
      go_ret
      exact ⟨by rw [HR2.out]; rfl, HB1.out⟩
    · have HR2 : Hid (r = 4) := by unfold Hid; rw [HR.out, h1, e1, e2]; rfl
      go_wp2_with fail
      go_ret
      exact ⟨by rw [HR2.out]; rfl, HB1.out⟩
    · have HR2 : Hid (r = 4) := by unfold Hid; rw [HR.out, h1, e1, e2]; rfl
      go_wp2_with fail
      go_ret
      exact ⟨by rw [HR2.out]; rfl, HB1.out⟩
    · have HR2 : Hid (r = 0) := by unfold Hid; rw [HR.out, h1, e1, e2]; rfl
      go_wp2_with fail
      go_ret
      exact ⟨by rw [HR2.out]; rfl, HB1.out⟩
  · have HR2 : Hid (r = instrS fs c i) := by unfold Hid; rw [HR.out, h1]; rfl
    go_wp2_with fail
    go_ret
    exact ⟨by rw [HR2.out]; rfl, HB1.out⟩

set_option maxHeartbeats 4000000 in
set_option maxRecDepth 20000 in
theorem block_any (b : List Ins) (c : Cod) (fs : List Cod) (vf vb v : Value) (mp qc B : Nat) (N : Int) (w : World) (h : Ck w B mp qc vf fs) (hvb : ∃ a k, vb = .slice a c.blocks.length k) (hbl : c.blocks.length ≤ 2000) (hb : Blk B w v b) :
    Calls Tryd.prog 48 #[chkV 25 26 27 28 #[] N vf mp c vb, v] w fun e w' => e = .returned (.int .i64 (firstNZ (atS fs c b) 0 b.length)) ∧ Below w.heap.size w w' := by
  have hB := h.le
  have HH : Hid (_) := h
  have hlen := hb.len
  obtain ⟨a1, k1, rfl⟩ := Lies.slice h.cods
  obtain ⟨a2, k2, rfl⟩ := hvb
  obtain ⟨a3, k3, rfl⟩ := Lies.slice hb
  obtain ⟨r, hr⟩ : ∃ r, r = firstNZ (atS fs c b) 0 b.length := ⟨_, rfl⟩
  rw [← hr]
  have HR : Hid (r = _) := hr
  have HBK : Hid (Blk B w (.slice a3 b.length k3) b) := hb
  have HLEN : Hid (_) := hlen
  have HBL : Hid (_) := hbl
  obtain ⟨W, hW⟩ : ∃ W, W = (w.alloc (chkO qc N (.slice a1 fs.length k1) mp c (.slice a2 c.blocks.length k2))).alloc (Obj.cells #[.slice a3 b.length k3] 40) := ⟨_, rfl⟩
  have HW : Hid (Below w.heap.size w W) := by rw [hW]; exact below_after (below_alloc _ _) (below_alloc _ _)
  have hWs : W.heap.size = w.heap.size + 2 := by rw [hW]; simp
  have HC1 : Hid (W.heap[w.heap.size]? = some (chkO qc N (.slice a1 fs.length k1) mp c (.slice a2 c.blocks.length k2))) := by rw [hW]; exact (heap_alloc2 w _ _).1
  have HC2 : Hid (W.heap[w.heap.size + 1]? = some (Obj.cells #[.slice a3 b.length k3] 40)) := by rw [hW]; exact (heap_alloc2 w _ _).2
  have HWS : Hid (W = _) := hW
  clear h hb hr hW hlen hbl
  unfold chkV
  unfold chkO at HWS
  go_enter Tryd.func48, Tryd.ntmps48
  go_wp2_with fail
  rw [← HWS.out]
  refine (eachI_any W B w.heap.size (w.heap.size + 1) _ b (atS fs c b) (fun _ w1 => Below W.heap.size W w1) (fun w1 => Below W.heap.size W w1) (HBK.out.below (HW.out.mono hB)) (by omega) (Below.refl _ _) (fun _ w1 w2 h1 h2 => below_after h1 h2) (fun _ w1 h1 => h1.mono (by omega)) (fun _ w1 h1 => h1) ?_).mono ?_
  · intro j x w1 vd va vt hx hb1 hd ha ht hs
    refine (blockAt_any x j b c fs _ _ vd va vt a3 k3 mp qc B _ _ N w1 ((HH.out.below HW.out).below hb1) ⟨_, _, rfl⟩ HBL.out ((hb1.block _ (by omega)).trans HC1.out) ((hb1.block _ (by omega)).trans HC2.out) hx HLEN.out hd ha ht hs).mono ?_
    rintro e w2 ⟨he, hb2⟩
    exact ⟨he, fun _ => below_after hb1 hb2, below_after hb1 hb2⟩
  · rintro e w2 ⟨rfl, hb2⟩
    have HB2 : Hid (Below w.heap.size w w2) := below_after HW.out hb2
    rw [← HR.out]
    clear hb2
    go_wp2_with fail
    go_ret
    exact ⟨rfl, HB2.out⟩

end Go.Proofs.YtbpbpihboenbeaaDoor
