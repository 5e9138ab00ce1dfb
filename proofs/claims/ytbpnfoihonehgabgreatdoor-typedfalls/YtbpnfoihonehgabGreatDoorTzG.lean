/-
  Check.
-/
import Derived.Test.YtbpnfoihonehgabGreatDoorTzF
namespace Go.Proofs.YtbpnfoihonehgabGreatDoor
open Go.RowKit Go.Maps
set_option linter.unusedSimpArgs false
set_option linter.unusedVariables false

def funcsT (F : Fn' → Option Int) : Nat → List Fn' → Option (Int × Int)
  | _, [] => some (0, 0)
  | i, f :: fs => match F f with
    | none => none
    | some k => if k != 0 then some ((i : Int), k) else funcsT F (i + 1) fs

def fnT (pl : DataW Unit) (fs : List Fn') (fe fb : Nat) (f : Fn') : Option Int := funcT (blockT (stmtM pl fs f.result fe fb)) [] 0 0 fb f

def checkT (fe fb : Nat) (fs : List Fn') : Option (Int × Int) :=
  if (fs.length : Int) == 0 then some (0, 6) else if 20 < fs.length then some (0, 1) else match placesT 0 (.map []) fs with
  | none => none
  | some (.inl p) => some ((p.1 : Int), p.2)
  | some (.inr P) => match fs[0]? with
    | none => none
    | some f => if 0 < f.params.length then some (0, 10) else if f.result != 0 then some (0, 10) else funcsT (fnT P fs fe fb) 0 fs

theorem places_err : ∀ (fs : List Fn') (i : Nat) (P : DataW Unit) (p : Nat × Int), placesT i P fs = some (.inl p) → (p.2 != 0) = true
  | [], i, P, p, h => by simp [placesT] at h
  | f :: fs, i, P, p, h => by
    simp only [placesT] at h
    split at h
    · cases h
    · split at h
      · cases h
      · split at h
        · split at h
          · cases h; rfl
          · exact places_err fs _ _ p h
        · cases h; rfl

theorem chk_new {w : World} {B cb mb : Nat} {fv : Value} {pl : DataW Unit} {res : Int} (h : w.heap[cb]? = some (.cells #[fv, .map (some mb), .int .i64 res, .slice none 0 0, .int .i64 0, .int .i64 0] 58 (0, 0))) (hB : B ≤ cb) (hm : mb < cb) (hmap : MapAt w mb pl) (hG : 9 ≤ B) : Chk w B cb [cb] fv pl res [] 0 0 := by
  refine ⟨by simp, fun k hk => ?_, ⟨mb, .slice none 0 0, [], h, ⟨by simp; omega, hm⟩, hmap, ?_, ?_, trivial, List.nodup_nil⟩, hG, by omega, by omega, by simp⟩
  · simp at hk
    subst hk
    exact ⟨hB, lt_of_block h⟩
  · exact ⟨rfl, Or.inl ⟨rfl, rfl⟩⟩
  · intro k hk
    simp [Value.ownBlock] at hk

theorem check_none (w : World) (a : Option Addr) (c : Nat) : Calls Tryz.prog 8 #[.slice a 0 c] w fun e w' => e = tyE (0, 6) ∧ w' = w := by
  go_enter Tryz.func8, Tryz.ntmps8
  go_wp2_with fail
  go_ret2
  exact ⟨rfl, rfl⟩

set_option maxHeartbeats 4000000 in
set_option maxRecDepth 20000 in
theorem check_any (w : World) (fv : Value) (fs : List Fn') (fe fb : Nat) (r : Int × Int) (hfs : FsAt w w.heap.size fv fs) (ht : TabT w) (hG : 9 ≤ w.heap.size) (hr : checkT fe fb fs = some r) :
    Calls Tryz.prog 8 #[fv] w fun e w' => e = tyE r ∧ Below w.heap.size w w' := by
  obtain ⟨a, c, rfl⟩ := Row.slice hfs
  have HFS : Hid (FsAt w w.heap.size (.slice a fs.length c) fs) := hfs
  have HT : Hid (TabT w) := ht
  unfold checkT at hr
  rcases hz : ((fs.length : Int) == 0) with _ | _
  · rw [hz] at hr
    simp only [Bool.false_eq_true, if_false] at hr
    by_cases h20 : 20 < fs.length
    · rw [if_pos h20] at hr
      cases hr
      have h20I : (20 : Int) < (fs.length : Int) := by omega
      clear h20 hfs ht
      go_enter Tryz.func8, Tryz.ntmps8
      go_wp2_with fail
      go_ret2
      exact ⟨rfl, Below.refl _ _⟩
    rw [if_neg h20] at hr
    have h20I : ¬ ((20 : Int) < (fs.length : Int)) := by omega
    rcases hp : placesT 0 (.map []) fs with _ | p
    · rw [hp] at hr; cases hr
    rw [hp] at hr
    have HP : Hid (_) := hp
    have HR : Hid (_) := hr
    clear hr hp hfs ht
    go_enter Tryz.func8, Tryz.ntmps8
    go_wp2_with fail
    refine (placesOf_any w w.heap.size _ fs p HFS.out HT.out hG (Nat.le_refl _) (by omega) HP.out).mono ?_
    rintro e w1 ⟨rfl, hok, hb1⟩
    have HB1 : Hid (Below w.heap.size w w1) := hb1
    rcases p with ⟨i, k⟩ | P
    · have hr := HR.out
      simp only [Option.some.injEq] at hr
      have HR2 : Hid (_ = r) := hr
      clear hr hok hb1
      unfold plE
      have hk0 : (k != 0) = true := places_err fs 0 (.map []) (i, k) HP.out
      go_wp2_with fail
      go_ret2
      exact ⟨by rw [← HR2.out]; rfl, HB1.out⟩
    · have hr := HR.out
      simp only at hr
      rcases hx : fs[0]? with _ | f0
      · rw [hx] at hr; cases hr
      rw [hx] at hr
      simp only at hr
      have HOK : Hid (MapAt w1 w.heap.size P) := hok
      obtain ⟨ga, ca, u, hva, hgB, hu, hcell⟩ := Row.at HFS.out 4 isFn_len 0 _ hx
      cases hva
      obtain ⟨ap, ab, rfl, hrp, hrb⟩ := hu
      obtain ⟨ap, cp, rfl⟩ := hrp.slice
      obtain ⟨ab, cq, rfl⟩ := hrb.slice
      have q1 := hcell 1 (by decide)
      have q2 := hcell 2 (by decide)
      simp only [Value.cells, Nat.zero_mul, Nat.zero_add] at q1 q2
      simp at q1 q2
      rw [← hb1.cell (p := ⟨ga, 1, none⟩) hgB] at q1
      rw [← hb1.cell (p := ⟨ga, 2, none⟩) hgB] at q2
      have hlen : (0 : Int) < (fs.length : Int) := by
        have := (List.getElem?_eq_some_iff.1 hx).1
        omega
      unfold plE
      obtain ⟨n0, hn0⟩ : ∃ n, n = f0.params.length := ⟨_, rfl⟩
      rw [← hn0] at hr q1 hrp
      by_cases hpp : 0 < n0
      · rw [if_pos hpp] at hr
        cases hr
        have hppI : (0 : Int) < (n0 : Int) := by omega
        clear hok hb1 hcell hrp hrb hn0
        go_wp2_with fail
        go_ret2
        exact ⟨rfl, HB1.out⟩
      rw [if_neg hpp] at hr
      have hppI : ¬ ((0 : Int) < (n0 : Int)) := by omega
      rcases hrs : (f0.result != 0) with _ | _
      · rw [hrs] at hr
        simp only [Bool.false_eq_true, if_false] at hr
        have HN0 : Hid (funcsT (fnT P fs fe fb) 0 (fs.drop 0) = some r) := hr
        clear hok hb1 hcell hrp hrb hn0 hr
        go_wp2_with fail
        clear q1 q2
        go_loopg [42] fs.length (fun g s42 wr => ∃ (i : Nat), s42 = .int .i64 (i : Nat) ∧ i + g = fs.length ∧ Hid (Below w.heap.size w wr) ∧ Hid (MapAt wr w.heap.size P) ∧ Hid (funcsT (fnT P fs fe fb) i (fs.drop i) = some r))
        case atStart => exact ⟨0, rfl, by omega, HB1, HOK, HN0⟩
        case round =>
          clear HN0 HB1 HOK
          obtain ⟨i, rfl, hig, HBL, HM, HN⟩ := hrel
          have hN := HN.out
          clear HN
          cases gk with
          | zero =>
            have hil : i = fs.length := by omega
            have hlt : ¬ (i : Int) < (fs.length : Int) := by omega
            have hltb : decide ((i : Int) < (fs.length : Int)) = false := by simpa using hlt
            rw [hil, List.drop_length] at hN
            simp only [funcsT, Option.some.injEq] at hN
            have HN2 : Hid ((0, 0) = r) := hN
            clear hN
            go_wp2_with fail
            go_ret2
            exact ⟨by rw [← HN2.out]; rfl, HBL.out⟩
          | succ g =>
            have hlt : (i : Int) < (fs.length : Int) := by omega
            have hltb : decide ((i : Int) < (fs.length : Int)) = true := by simpa using hlt
            have hilt : i < fs.length := by omega
            have hget : fs[i]? = some fs[i] := List.getElem?_eq_getElem hilt
            rw [List.drop_eq_getElem_cons hilt] at hN
            simp only [funcsT] at hN
            generalize fs[i] = f at hN hget
            rcases hq : fnT P fs fe fb f with _ | k
            · rw [hq] at hN; cases hN
            rw [hq] at hN
            simp only at hN
            obtain ⟨gb, cb', u, hva, hgB2, hu, hcell⟩ := Row.at HFS.out 4 isFn_len i _ hget
            cases hva
            have hu0 := hu
            obtain ⟨aq, ay, rfl, hrp, hrb⟩ := hu
            obtain ⟨aq, cp2, rfl⟩ := hrp.slice
            obtain ⟨ay, cq2, rfl⟩ := hrb.slice
            have q0 := hcell 0 (by decide)
            have q1 := hcell 1 (by decide)
            have q2 := hcell 2 (by decide)
            have q3 := hcell 3 (by decide)
            simp only [Value.cells, Nat.add_zero] at q0 q1 q2 q3
            simp at q0 q1 q2 q3
            rw [← HBL.out.cell (p := ⟨ga, i * 4, none⟩) hgB2] at q0
            rw [← HBL.out.cell (p := ⟨ga, i * 4 + 1, none⟩) hgB2] at q1
            rw [← HBL.out.cell (p := ⟨ga, i * 4 + 2, none⟩) hgB2] at q2
            rw [← HBL.out.cell (p := ⟨ga, i * 4 + 3, none⟩) hgB2] at q3
            have hgal : ga < wr.heap.size := World.block_lt_of_cell? wr ⟨ga, i * 4, none⟩ q0
            have hsz := HBL.out.size
            have hml := HM.out.lt
            have hka : Below wr.heap.size wr ((wr.alloc (.cells #[.string ⟨f.name.toArray⟩, .slice aq f.params.length cp2, .int .i64 f.result, .slice ay f.body.length cq2] 33)).alloc (.cells #[.slice (some ⟨ga, 0, none⟩) fs.length c, .map (some w.heap.size), .int .i64 f.result, .slice none 0 0, .int .i64 0, .int .i64 0] 58)) := ((Below.refl _ _).alloc (Nat.le_refl _) _).alloc (by simp) _
            have hba : Below w.heap.size w ((wr.alloc (.cells #[.string ⟨f.name.toArray⟩, .slice aq f.params.length cp2, .int .i64 f.result, .slice ay f.body.length cq2] 33)).alloc (.cells #[.slice (some ⟨ga, 0, none⟩) fs.length c, .map (some w.heap.size), .int .i64 f.result, .slice none 0 0, .int .i64 0, .int .i64 0] 58)) := (HBL.out.alloc (by omega) _).alloc (by simp; omega) _
            have hcb : ((wr.alloc (.cells #[.string ⟨f.name.toArray⟩, .slice aq f.params.length cp2, .int .i64 f.result, .slice ay f.body.length cq2] 33)).alloc (.cells #[.slice (some ⟨ga, 0, none⟩) fs.length c, .map (some w.heap.size), .int .i64 f.result, .slice none 0 0, .int .i64 0, .int .i64 0] 58)).heap[wr.heap.size + 1]? = some (.cells #[.slice (some ⟨ga, 0, none⟩) fs.length c, .map (some w.heap.size), .int .i64 f.result, .slice none 0 0, .int .i64 0, .int .i64 0] 58) := (heap_alloc2 wr _ _).2
            have HM3 : Hid (MapAt ((wr.alloc (.cells #[.string ⟨f.name.toArray⟩, .slice aq f.params.length cp2, .int .i64 f.result, .slice ay f.body.length cq2] 33)).alloc (.cells #[.slice (some ⟨ga, 0, none⟩) fs.length c, .map (some w.heap.size), .int .i64 f.result, .slice none 0 0, .int .i64 0, .int .i64 0] 58)) w.heap.size P) := HM.out.same (hka.block _ hml)
            have HC3 : Hid (Ctx ((wr.alloc (.cells #[.string ⟨f.name.toArray⟩, .slice aq f.params.length cp2, .int .i64 f.result, .slice ay f.body.length cq2] 33)).alloc (.cells #[.slice (some ⟨ga, 0, none⟩) fs.length c, .map (some w.heap.size), .int .i64 f.result, .slice none 0 0, .int .i64 0, .int .i64 0] 58)) w.heap.size (wr.heap.size + 1) [wr.heap.size + 1] (.slice (some ⟨ga, 0, none⟩) fs.length c) fs P f.result [] 0 0) :=
              ⟨chk_new hcb (by omega) (by omega) HM3.out hG, HT.out.below hG (Nat.le_refl _) hba, FsAt.below HFS.out hba, by omega, hba.size⟩
            have HF3 : Hid (_) := moves_IsFn _ _ _ _ _ _ hu0 fun g hg _ => ⟨hg, hba.block g hg⟩
            have HB3 : Hid (Below w.heap.size w ((wr.alloc (.cells #[.string ⟨f.name.toArray⟩, .slice aq f.params.length cp2, .int .i64 f.result, .slice ay f.body.length cq2] 33)).alloc (.cells #[.slice (some ⟨ga, 0, none⟩) fs.length c, .map (some w.heap.size), .int .i64 f.result, .slice none 0 0, .int .i64 0, .int .i64 0] 58))) := hba
            have HN2 : Hid (_) := hN
            have HQ : Hid (_) := hq
            clear hN hget hcell hrp hrb hka hba hcb hu0 hq
            go_wp2_with fail
            refine (function_any_t (block_any_t (stmt_said_t fe fb)) _ _ _ _ _ fb _ f k HC3.out HF3.out HQ.out).mono ?_
            rintro e w5 ⟨rfl, X5, hc5, hk5⟩
            have HB5 : Hid (Below w.heap.size w w5) := HB3.out.trans (HC3.out.bel hk5)
            have HM5 : Hid (MapAt w5 w.heap.size P) := HM3.out.same (hk5.block _ HM3.out.lt (by simp; omega))
            clear hc5 hk5
            rcases hk : (k != 0) with _ | _
            · have hN := HN2.out
              rw [hk] at hN
              simp only [Bool.false_eq_true, if_false] at hN
              have HN3 : Hid (_) := hN
              clear hN
              go_wp2_with fail
              go_roundg g
              case measure => omega
              case rel => exact ⟨i + 1, by go_num, by omega, HB5, HM5, HN3⟩
            · have hN := HN2.out
              rw [hk] at hN
              simp only [if_true, Option.some.injEq] at hN
              have HN3 : Hid (_ = r) := hN
              clear hN
              go_wp2_with fail
              go_ret2
              exact ⟨by rw [← HN3.out]; rfl, HB5.out⟩
      · rw [hrs] at hr
        cases hr
        clear hok hb1 hcell hrp hrb hn0
        go_wp2_with fail
        go_ret2
        exact ⟨rfl, HB1.out⟩
  · rw [hz] at hr
    cases hr
    have h0 : fs.length = 0 := by simpa using hz
    rw [h0]
    exact (check_none w a c).mono fun e w' h => ⟨h.1, by rw [h.2]; exact Below.refl _ _⟩

end Go.Proofs.YtbpnfoihonehgabGreatDoor
