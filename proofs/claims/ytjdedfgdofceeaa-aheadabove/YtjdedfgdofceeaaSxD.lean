/-
  posternkeep.Code: the end of a round. (gen_SxD.py)
-/
import Derived.Test.YtjdedfgdofceeaaSxF
import Derived.BigQuiet
import Derived.Deep.RegionHeldLaw
import Derived.Deep.AppendLies
import Derived.Deep.RegionLaw
import Derived.Deep.RegionHeld3
import Derived.Deep.CutRange
import Derived.Deep.CutBlock
namespace Go.Proofs.Ytjdedfgdofceeaa
open Go.RowKit
set_option linter.unusedSimpArgs false
set_option linter.unusedVariables false

noncomputable def tailC : Code := match Try.f11.body with
  | some c => match fromR 38 c with
    | some d => d
    | none => .skip
  | none => .skip

/-- its first statement, and what follows -/
noncomputable def tailC1 : Code := match tailC with
  | .seq a _ => a
  | c => c
noncomputable def tailC2 : Code := match tailC with
  | .seq _ b => b
  | _ => .skip

set_option maxHeartbeats 40000000 in
set_option maxRecDepth 20000 in
theorem tail_any {b q L C M B kl ko : Nat} {ao a' : Option Addr} {w wz W0 wr : World} {ob : List Ins} {rs : List (Int × Int × Int × Int)} {K K1 : Act → World → Prop} {Q' : Exit → Act → World → Prop} {s0 s1 s2 s5 s7 s11 s12 s13 s14 s15 s16 s17 s18 s19 s20 s21 s22 s23 s24 s25 s26 s27 s28 s29 s30 s31 s32 s33 s34 s35 s36 s37 s38 s39 s40 s41 s42 s43 s44 s45 s46 s47 s48 s49 s50 s51 s52 s53 s54 s55 s56 s57 s58 s59 s60 s61 s62 s63 s64 s65 s66 s67 s68 s69 s70 s71 s72 s73 s74 s75 s76 s77 s78 s79 s80 s81 s82 s83 s84 s85 s86 s87 s88 s89 s90 s91 s92 s93 s94 s95 s96 s97 s98 s99 s100 s101 s102 s103 s104 s105 s106 s107 s108 s109 s110 s111 s112 s113 s114 s115 s116 s117 s118 s119 s120 s121 s122 s123 s124 s125 s126 s127 s128 s129 s130 s131 s132 s133 s134 s135 s136 s137 s138 s139 s140 s141 s142 s143 s144 s145 s146 s147 s148 s149 s150 s151 s152 s153 s154 s155 s156 s157 s158 s159 s160 s161 s162 s163 s164 s165 s166 s167 s168 s169 s170 s171 s172 s173 s174 s175 s176 s177 s178 s179 s180 s181 s182 s183 s184 s185 s186 s187 s188 s189 s190 s191 s192 s193 s194 s195 s196 s197 s198 s199 s200 s201 s202 s203 s204 s205 s206 s207 s208 s209 s210 s211 s212 s213 s214 s215 s216 s217 s218 s219 s220 s221 s222 s223 s224 s225 s226 s227 s228 s229 s230 s231 s232 s233 s234 s235 s236 s237 s238 s239 : Value} (hq6 : q ≤ 6) (hbq : b ≤ 6) (hL60 : L ≤ 60) (hC : C < W0.heap.size) (hB : B ≤ wr.heap.size)
    (hCZ : CInv C W0 b wz) (hBX : Below wz.heap.size wz wr) (hOB : OwnL 6 42 PIn (fun g => wz.heap.size ≤ g) wr (.slice ao L ko) ob) (hoj : ob.length = L) (hMI : Raws B wr (.slice a' L kl) rs) (hPM : wr.cell? ⟨M, 0, none⟩ = some (.int .i64 (1 + (q : Int))))
    (hK : ∀ (t17 t18 t19 t162 t163 t164 t165 t166 t167 t168 t169 t170 t171 t172 t173 t174 t175 t176 t177 t178 t179 t180 t181 t182 t183 t184 t185 t186 t187 t188 t189 t190 t191 t192 t193 t194 t195 t196 t197 t198 t199 t200 t201 t202 t203 t204 t205 t206 t207 t208 t209 t210 t211 t212 t213 t214 t215 t216 t217 t218 t219 t220 t221 t222 t223 t224 t225 t226 t227 t228 t229 t230 t231 t232 t233 : Value) (w' : World), CInv C W0 (b + 1) w' → K ⟨#[s0, s1, s2, Value.int IntKind.i64 5, Value.pointer (some { block := M, off := 0 }), s5, Value.pointer (some { block := C, off := 0 }), s7, Value.int IntKind.i64 (b : Nat), Value.slice ao L ko, Value.slice a' L kl, s11, s12, s13, s14, s15, s16, t17, t18, t19, s20, s21, s22, s23, s24, s25, s26, s27, s28, s29, s30, s31, s32, s33, s34, s35, s36, s37, s38, s39, s40, s41, s42, s43, s44, s45, s46, s47, s48, s49, s50, s51, s52, s53, s54, s55, s56, s57, s58, s59, s60, s61, s62, s63, s64, s65, s66, s67, s68, s69, s70, s71, s72, s73, s74, s75, s76, s77, s78, s79, s80, s81, s82, s83, s84, s85, s86, s87, s88, s89, s90, s91, s92, s93, s94, s95, s96, s97, s98, s99, s100, s101, s102, s103, s104, s105, s106, s107, s108, s109, s110, s111, s112, s113, s114, s115, s116, s117, s118, s119, s120, s121, s122, s123, s124, s125, s126, s127, s128, s129, s130, s131, s132, s133, s134, s135, s136, s137, s138, s139, s140, s141, s142, s143, s144, s145, s146, s147, s148, s149, s150, s151, s152, s153, s154, s155, s156, s157, s158, s159, s160, s161, t162, t163, t164, t165, t166, t167, t168, t169, t170, t171, t172, t173, t174, t175, t176, t177, t178, t179, t180, t181, t182, t183, t184, t185, t186, t187, t188, t189, t190, t191, t192, t193, t194, t195, t196, t197, t198, t199, t200, t201, t202, t203, t204, t205, t206, t207, t208, t209, t210, t211, t212, t213, t214, t215, t216, t217, t218, t219, t220, t221, t222, t223, t224, t225, t226, t227, t228, t229, t230, t231, t232, t233, s234, s235, s236, s237, s238, s239], []⟩ w') (hK1 : ∀ A w', tailC2.wp Try.prog (Exit.inBlock 1 (Exit.then K Q')) A w' → K1 A w') :
    tailC1.wp Try.prog (Exit.then K1 (Exit.inBlock 1 (Exit.then K Q'))) ⟨#[s0, s1, s2, Value.int IntKind.i64 5, Value.pointer (some { block := M, off := 0 }), s5, Value.pointer (some { block := C, off := 0 }), s7, Value.int IntKind.i64 (b : Nat), Value.slice ao L ko, Value.slice a' L kl, s11, s12, s13, s14, s15, s16, s17, s18, s19, s20, s21, s22, s23, s24, s25, s26, s27, s28, s29, s30, s31, s32, s33, s34, s35, s36, s37, s38, s39, s40, s41, s42, s43, s44, s45, s46, s47, s48, s49, s50, s51, s52, s53, s54, s55, s56, s57, s58, s59, s60, s61, s62, s63, s64, s65, s66, s67, s68, s69, s70, s71, s72, s73, s74, s75, s76, s77, s78, s79, s80, s81, s82, s83, s84, s85, s86, s87, s88, s89, s90, s91, s92, s93, s94, s95, s96, s97, s98, s99, s100, s101, s102, s103, s104, s105, s106, s107, s108, s109, s110, s111, s112, s113, s114, s115, s116, s117, s118, s119, s120, s121, s122, s123, s124, s125, s126, s127, s128, s129, s130, s131, s132, s133, s134, s135, s136, s137, s138, s139, s140, s141, s142, s143, s144, s145, s146, s147, s148, s149, s150, s151, s152, s153, s154, s155, s156, s157, s158, s159, s160, s161, s162, s163, s164, s165, s166, s167, s168, s169, s170, s171, s172, s173, s174, s175, s176, s177, s178, s179, s180, s181, s182, s183, s184, s185, s186, s187, s188, s189, s190, s191, s192, s193, s194, s195, s196, s197, s198, s199, s200, s201, s202, s203, s204, s205, s206, s207, s208, s209, s210, s211, s212, s213, s214, s215, s216, s217, s218, s219, s220, s221, s222, s223, s224, s225, s226, s227, s228, s229, s230, s231, s232, s233, s234, s235, s236, s237, s238, s239], []⟩ wr := by
  conv => arg 2; whnf
  conv at hK1 => enter [a, w, 1, 2]; whnf
  have HK : Hid (_) := hK
  have HCZ : Hid (_) := hCZ
  have HBX : Hid (_) := hBX
  have HOB : Hid (_) := hOB
  have HMI : Hid (_) := hMI
  have HPM : Hid (_) := hPM
  clear hK hCZ hBX hOB hMI hPM
  go_upto_if 165 with fail
  go_cut [] from 163 to 171 (fun wx => ∃ rk rA rB rC : Int, (I64 rk ∧ I64 rA ∧ I64 rB ∧ I64 rC) ∧ wx.heap[wr.heap.size]? = some (.cells #[.int .i64 rk, .int .i64 rA, .int .i64 rB, .int .i64 rC] 53) ∧ wx.heap.size = wr.heap.size + 1 ∧ Below wr.heap.size wr wx)
  case first =>
    rcases Nat.eq_zero_or_pos L with hL0 | hL0
    · have hLI : ¬ (0 : Int) < (L : Int) := by omega
      clear hL0
      go_wp2_with fail
      go_meet
      case rel => exact ⟨0, 0, 0, 0, ⟨by unfold I64; omega, by unfold I64; omega, by unfold I64; omega, by unfold I64; omega⟩, heap_alloc_new _ _, by simp, below_alloc _ _⟩
    · obtain ⟨L1, rfl⟩ : ∃ L1, L = L1 + 1 := ⟨L - 1, by omega⟩
      have hjl : L1 < rs.length := by rw [Lies.length_slice HMI.out]; omega
      have hget : rs[L1]? = some rs[L1] := List.getElem?_eq_getElem hjl
      generalize rs[L1] = r at hget
      obtain ⟨ga, oa, cs, rfl, hga, hcs, hP, hcell⟩ := Lies.at HMI.out hget
      obtain ⟨rfl, hi0, hi1, hi2, hi3⟩ := hP
      obtain ⟨rk, rA, rB, rC⟩ := r
      have q0 := hcell 0 (by decide)
      have q1 := hcell 1 (by decide)
      have q2 := hcell 2 (by decide)
      have q3 := hcell 3 (by decide)
      simp at q0 q1 q2 q3
      have hbw : Below wr.heap.size wr (wr.alloc (Obj.cells #[Value.int IntKind.i64 0, Value.int IntKind.i64 0, Value.int IntKind.i64 0, Value.int IntKind.i64 0] 53)) := below_alloc _ _
      rw [← hbw.cell (p := ⟨ga, oa + L1 * 4, none⟩) (by show ga < _; omega)] at q0
      rw [← hbw.cell (p := ⟨ga, oa + L1 * 4 + 1, none⟩) (by show ga < _; omega)] at q1
      rw [← hbw.cell (p := ⟨ga, oa + L1 * 4 + 2, none⟩) (by show ga < _; omega)] at q2
      rw [← hbw.cell (p := ⟨ga, oa + L1 * 4 + 3, none⟩) (by show ga < _; omega)] at q3
      clear hcell hget hcs hbw
      have hLI : (0 : Int) < ((L1 + 1 : Nat) : Int) := by omega
      go_wp2_with fail
      go_meet
      case rel => exact ⟨rk, rA, rB, rC, ⟨hi0, hi1, hi2, hi3⟩, heap_alloc_new _ _, by simp, below_alloc _ _⟩
  case rest =>
    obtain ⟨rk, rA, rB, rC, hI, hr, hs, hb⟩ := hcut
    have p0 : wc.cell? ⟨wr.heap.size, 0, none⟩ = some (.int .i64 rk) := by simp [World.cell?, hr]
    have p1 : wc.cell? ⟨wr.heap.size, 1, none⟩ = some (.int .i64 rA) := by simp [World.cell?, hr]
    have p2 : wc.cell? ⟨wr.heap.size, 2, none⟩ = some (.int .i64 rB) := by simp [World.cell?, hr]
    have p3 : wc.cell? ⟨wr.heap.size, 3, none⟩ = some (.int .i64 rC) := by simp [World.cell?, hr]
    have pM : wc.cell? ⟨M, 0, none⟩ = some (.int .i64 (1 + (q : Int))) := (hb.cell (p := ⟨M, 0, none⟩) (World.block_lt_of_cell? wr _ HPM.out)).trans HPM.out
    have HI : Hid (I64 rk ∧ I64 rA ∧ I64 rB ∧ I64 rC) := hI
    have HS : Hid (wc.heap.size = wr.heap.size + 1) := hs
    have HB : Hid (Below wr.heap.size wr wc) := hb
    have HSS : Hid (∀ w' : World, Below wc.heap.size wc w' → w'.cell? ⟨wr.heap.size, 1, none⟩ = some (.int .i64 rA) ∧ w'.cell? ⟨wr.heap.size, 2, none⟩ = some (.int .i64 rB) ∧ w'.cell? ⟨wr.heap.size, 3, none⟩ = some (.int .i64 rC) ∧ w'.cell? ⟨M, 0, none⟩ = some (.int .i64 (1 + (q : Int)))) := by
      intro w' hb
      exact ⟨(hb.cell (World.block_lt_of_cell? _ _ p1)).trans p1, (hb.cell (World.block_lt_of_cell? _ _ p2)).trans p2, (hb.cell (World.block_lt_of_cell? _ _ p3)).trans p3, (hb.cell (World.block_lt_of_cell? _ _ pM)).trans pM⟩
    have hbe : Below wc.heap.size wc (wc.alloc (Obj.cells #[Value.int IntKind.i64 12, Value.slice none 0 0, Value.slice none 0 0, Value.int IntKind.i64 0, Value.string { data := #[] }, Value.slice none 0 0] 42)) := below_alloc _ _
    rw [← hbe.cell (p := ⟨wr.heap.size, 0, none⟩) (by show wr.heap.size < _; omega)] at p0
    rw [← hbe.cell (p := ⟨wr.heap.size, 1, none⟩) (by show wr.heap.size < _; omega)] at p1
    rw [← hbe.cell (p := ⟨wr.heap.size, 2, none⟩) (by show wr.heap.size < _; omega)] at p2
    rw [← hbe.cell (p := ⟨wr.heap.size, 3, none⟩) (by show wr.heap.size < _; omega)] at p3
    rw [← hbe.cell (p := ⟨M, 0, none⟩) (World.block_lt_of_cell? wc _ pM)] at pM
    clear hI hr hs hb hbe HMI
    obtain ⟨x6, hx6⟩ : ∃ x, x = pickI (wrap64 (rk.tdiv 5)) 5 := ⟨_, rfl⟩
    have HP6 : Hid (∀ w', Calls Try.prog 22 #[.int .i64 (wrap64 (rk.tdiv 5)), .int .i64 5] w' fun e w'' => e = .returned (.int .i64 x6) ∧ w'' = w') := by
      intro w'; rw [hx6]; exact picked_any _ 5 (i64_wrap _) (by decide) (by decide) w'
    have hb6 : 0 ≤ x6 ∧ x6 < 5 := by rw [hx6]; unfold pickI; split <;> omega
    clear hx6
    go_wp2_with fail
    refine Calls.mono (HP6.out _) ?_
    rintro e w5 ⟨rfl, rfl⟩
    clear HP6
    go_upto_block 5 with fail
    obtain ⟨E, HEE⟩ : ∃ E : Nat, Hid (E = wc.heap.size) := ⟨_, rfl⟩
    go_cut [] from 178 to 224 (fun wx => EndAt wc.heap.size wr wx)
    case first =>
      have hv : x6 = 0 ∨ x6 = 1 ∨ x6 = 2 ∨ x6 = 3 ∨ x6 = 4 := by omega
      clear hb6
      have HTC : Hid (∀ (x : Int) (W : World), I64 x → W.cell? ⟨M, 0, none⟩ = some (.int .i64 (1 + (q : Int))) → Calls Try.prog 23 #[.int .i64 x, .pointer (some ⟨M, 0, none⟩)] W fun e w' => e = .returned (.int .i64 (pickI x (1 + (q : Int)))) ∧ w' = W) := fun x W hx hc => t_any x q M W hx hq6 hc
      rcases hv with rfl | rfl | rfl | rfl | rfl
      · go_wp2_with fail
        refine Calls.mono (HTC.out rA _ HI.out.2.1 pM) ?_
        rintro e w5 ⟨rfl, rfl⟩
        go_wp2_with fail
        go_meet
        case rel =>
          exact ⟨_, _, _, _, _, _, ⟨9, [], [], 0, [], [pickI rA (1 + (q : Int))]⟩, allocs_at [Obj.cells #[Value.int IntKind.i64 9, Value.slice none 0 0, Value.slice none 0 0, Value.int IntKind.i64 0, Value.string { data := #[] }, Value.slice (some { block := wc.heap.size + 1, off := 0 }) 1 1] 42, Obj.cells #[Value.int IntKind.i64 (pickI rA (1 + (q : Int)))] 3] wc 0 (by simp), ⟨_, _, _, rfl, ⟨by simp [maxLen], (fun _ h => by cases h), .inl ⟨rfl, rfl⟩⟩, ⟨by simp [maxLen], (fun _ h => by cases h), .inl ⟨rfl, rfl⟩⟩, ⟨by simp [maxLen], (by intro x hx; simp at hx; subst hx; exact i64_pick _ q hq6), .inr ⟨wc.heap.size + 1, _, rfl, (by have := HB.out.size; show wr.heap.size ≤ _; omega), by simp, _, allocs_at [Obj.cells #[Value.int IntKind.i64 9, Value.slice none 0 0, Value.slice none 0 0, Value.int IntKind.i64 0, Value.string { data := #[] }, Value.slice (some { block := wc.heap.size + 1, off := 0 }) 1 1] 42, Obj.cells #[Value.int IntKind.i64 (pickI rA (1 + (q : Int)))] 3] wc 1 (by simp)⟩⟩, by simp [maxLen], (show I64 0 from ⟨by decide, by decide⟩)⟩, HB.out.trans ((allocs_below [Obj.cells #[Value.int IntKind.i64 9, Value.slice none 0 0, Value.slice none 0 0, Value.int IntKind.i64 0, Value.string { data := #[] }, Value.slice (some { block := wc.heap.size + 1, off := 0 }) 1 1] 42, Obj.cells #[Value.int IntKind.i64 (pickI rA (1 + (q : Int)))] 3] wc).1.mono HB.out.size), (by simp; omega)⟩
      · go_upto_region 48 with fail
        refine r48_any hq6 HI HB HSS ?_
        intro t189 t190 t191 t192 t193 t194 t195 t196 t197 t198 t199 t200 t201 t202 t203 wy hy
        have HY : Hid (_) := hy
        clear hy
        go_wp2_with fail
        go_meet
        case rel => exact HY.out
      · go_upto_region 48 with fail
        refine r48_any hq6 HI HB HSS ?_
        intro t189 t190 t191 t192 t193 t194 t195 t196 t197 t198 t199 t200 t201 t202 t203 wy hy
        have HY : Hid (_) := hy
        clear hy
        go_wp2_with fail
        go_meet
        case rel => exact HY.out
      · go_upto_region 50 with fail
        refine r50_any hq6 HI HB HSS ?_
        intro t206 t207 t208 t209 t210 t211 t212 t213 t214 t215 t216 t217 t218 t219 t220 t221 t222 t223 t224 wy hy
        have HY : Hid (_) := hy
        clear hy
        go_wp2_with fail
        go_meet
        case rel => exact HY.out
      · go_wp2_with fail
        go_meet
        case rel =>
          exact ⟨_, _, _, _, _, _, ⟨12, [], [], 0, [], []⟩, heap_alloc_new _ _, ⟨_, _, _, rfl, ⟨by simp [maxLen], (fun _ h => by cases h), .inl ⟨rfl, rfl⟩⟩, ⟨by simp [maxLen], (fun _ h => by cases h), .inl ⟨rfl, rfl⟩⟩, ⟨by simp [maxLen], (fun _ h => by cases h), .inl ⟨rfl, rfl⟩⟩, by simp [maxLen], (show I64 0 from ⟨by decide, by decide⟩)⟩, HB.out.trans ((below_alloc _ _).mono HB.out.size), by simp⟩
    case rest =>
      obtain ⟨X, hX⟩ : ∃ X, X = wc := ⟨_, rfl⟩
      subst hX
      rw [← HEE.out] at hcut ⊢
      obtain ⟨c0, c1, c2, c3, c4, c5, x, hXE, hPX, hXb, hEX⟩ := hcut
      have HEr : Hid (wr.heap.size ≤ E) := by unfold Hid; rw [HEE.out]; exact HB.out.size
      have HON6 : Hid (∀ u ∈ [c0, c1, c2, c3, c4, c5], u.oneCell' = true) := by
        obtain ⟨vd, va, vt, e, h1, h2, h3, _⟩ := hPX
        simp only [List.cons.injEq, and_true] at e
        obtain ⟨rfl, rfl, rfl, rfl, rfl, rfl⟩ := e
        obtain ⟨_, _, rfl⟩ := Lies.slice h1.nums
        obtain ⟨_, _, rfl⟩ := Lies.slice h2.nums
        obtain ⟨_, _, rfl⟩ := Lies.slice h3.nums
        exact one6 rfl rfl rfl rfl rfl rfl
      have HPX : Hid (_) := hPX
      have HXF : Hid (Below wr.heap.size wr X) := hXb
      have HXE : Hid (X.heap[E]? = some (.cells #[c0, c1, c2, c3, c4, c5] 42)) := hXE
      obtain ⟨vb, bs, hcz, hoz, hbs⟩ := HCZ.out.row
      obtain ⟨avb, kvb, rfl⟩ := OwnL.slice hoz
      rw [hbs] at hcz hoz
      have HCC : Hid (wz.heap[C]? = some (.cells #[Value.string { data := #[109, 97, 105, 110] }, .int .i64 0, .int .i64 0, .int .i64 5, .int .i64 0, .slice avb b kvb] 24)) := hcz
      have HXC : Hid (X.heap[C]? = some (.cells #[Value.string { data := #[109, 97, 105, 110] }, .int .i64 0, .int .i64 0, .int .i64 5, .int .i64 0, .slice avb b kvb] 24)) :=
        (hXb.block C (by have := HBX.out.size; have := HCZ.out.fr.size; omega)).trans ((HBX.out.block C (by have := HCZ.out.fr.size; omega)).trans hcz)
      have HXL : Hid (C < X.heap.size ∧ E < X.heap.size ∧ C < W0.heap.size ∧ W0.heap.size ≤ wz.heap.size ∧ wz.heap.size ≤ wr.heap.size) := ⟨by have := hXb.size; have := HBX.out.size; have := HCZ.out.fr.size; omega, hEX, hC, HCZ.out.fr.size, HBX.out.size⟩
      obtain ⟨yo1, ys, yo, yxl, yxm, yE⟩ := hoz
      have HYY : Hid ((∀ g, (Value.slice avb b kvb).ownBlock = some g → W0.heap.size ≤ g) ∧ ys.length = bs.length ∧ (∀ cs, cs ∈ ys → cs.length = 1) ∧ wz.ownsRow 0 40 1 (.slice avb b kvb) b ys.flatten ∧ bs.length = b ∧ ∀ (i : Nat) (x : List Ins) (cs : List Value), bs[i]? = some x → ys[i]? = some cs → PB (fun g => W0.heap.size ≤ g ∧ (Value.slice avb b kvb).ownBlock ≠ some g) wz cs x) := ⟨yo1, yxl, yxm, by rw [← hbs]; rw [hbs]; exact hbs ▸ yo, hbs, yE⟩
      obtain ⟨ho1, xs, ho, hxl, hxm, hE⟩ := HOB.out
      rw [hoj] at ho
      have HOX : Hid (wr.ownsRow 0 42 6 (.slice ao L ko) L xs.flatten) := ho
      have HXX : Hid ((∀ g, (Value.slice ao L ko).ownBlock = some g → wz.heap.size ≤ g) ∧ xs.length = ob.length ∧ (∀ cs, cs ∈ xs → cs.length = 6) ∧ ∀ (i : Nat) (x : Ins) (cs : List Value), ob[i]? = some x → xs[i]? = some cs → PIn (fun g => wz.heap.size ≤ g ∧ (Value.slice ao L ko).ownBlock ≠ some g) wr cs x) := ⟨ho1, hxl, hxm, hE⟩
      obtain ⟨iI, hI0, hI1, hI2, hI3⟩ := xinfoParts infoInstr
      obtain ⟨iB, hJ0, hJ1, hJ2, hJ3⟩ := xinfoParts infoBlock
      clear hcz ho1 ho hxl hxm hE yo1 yo yxl yxm yE hXE hPX hXb hEX HOB
      have HSS : Hid (∀ w' : World, w'.heap[C]? = X.heap[C]? → w'.heap[E]? = X.heap[E]? → w'.cell? ⟨C, 5, none⟩ = some (.slice avb b kvb) ∧ w'.frozen? ⟨C, 5, none⟩ = false ∧ w'.cell? ⟨E, 0, none⟩ = some (c0) ∧ w'.cell? ⟨E, 1, none⟩ = some (c1) ∧ w'.cell? ⟨E, 2, none⟩ = some (c2) ∧ w'.cell? ⟨E, 3, none⟩ = some (c3) ∧ w'.cell? ⟨E, 4, none⟩ = some (c4) ∧ w'.cell? ⟨E, 5, none⟩ = some (c5)) := by
        intro w' e1 e2
        have g1 := e1.trans HXC.out
        have g2 := e2.trans HXE.out
        obtain ⟨c0, c1, c2, c3, c4, c5⟩ := cells6 g2
        exact ⟨(cells6 g1).2.2.2.2.2, by simp [World.frozen?, g1], c0, c1, c2, c3, c4, c5⟩
      have hS0 := HSS.out X.drew rfl rfl
      obtain ⟨X1, hX1⟩ : ∃ X1, X1 = (X.alloc (.cells #[c0, c1, c2, c3, c4, c5] 42)).drew := ⟨_, rfl⟩
      have hbX1 : Below X.heap.size X X1 := by rw [hX1]; exact (below_alloc _ _).drew
      have hX1s : X1.heap.size = X.heap.size + 1 := by rw [hX1]; simp
      have hS1 := HSS.out X1 (hbX1.block _ HXL.out.1) (hbX1.block _ HXL.out.2.1)
      have hwX1 : Below wr.heap.size wr X1 := HXF.out.trans (hbX1.mono HXF.out.size)
      have HOX1 : Hid (X1.ownsRow 0 42 6 (.slice ao (L) ko) (L) xs.flatten) := own_same HOX.out fun g hg => hwX1.block g (own0_lt HOX.out hg)
      have HNW : Hid (∀ jj u, [c0, c1, c2, c3, c4, c5][jj]? = some u → X1.cell? ((⟨X.heap.size, 0, none⟩ : Addr).add jj) = some u) := World.news_of_block (by rw [hX1]; exact heap_alloc_new X _)
      have HPI : Hid (PIn (fun g => wr.heap.size ≤ g) X1 [c0, c1, c2, c3, c4, c5] x) := PIn.moves _ _ _ _ _ _ HPX.out hbX1.size (fun g hg hlt => ⟨hg, hbX1.block g hlt⟩)
      have HONE : Hid (∀ u ∈ [c0, c1, c2, c3, c4, c5], u.oneCell' = true) := HON6.out
      have HX1S : Hid (X1 = _) := hX1
      have HX1 : Hid (Below wr.heap.size wr X1 ∧ X1.heap.size = X.heap.size + 1 ∧ X1.heap[C]? = X.heap[C]? ∧ X1.heap[E]? = X.heap[E]?) := ⟨hwX1, hX1s, hbX1.block _ HXL.out.1, hbX1.block _ HXL.out.2.1⟩
      have HLB : Hid (b + 1 ≤ maxLen ∧ (b + 1) * 24 ≤ 140737488355328) := ⟨by unfold maxLen; omega, by omega⟩
      have HLN : Hid (L + 1 ≤ maxLen ∧ (L + 1) * 104 ≤ 140737488355328) := ⟨by unfold maxLen; omega, by omega⟩
      have HXN : Hid (((X.alloc (.cells #[c0, c1, c2, c3, c4, c5] 42)).drew).heap.size = X.heap.size + 1) := by have h9 := hX1s; rw [hX1] at h9; exact h9
      have HOXL : Hid (((X.alloc (.cells #[c0, c1, c2, c3, c4, c5] 42)).drew).ownsRow 0 42 6 (.slice ao (L) ko) (L) xs.flatten) := by have h9 := HOX1.out; rw [hX1] at h9; exact h9
      have HNWL : Hid (∀ jj u, [c0, c1, c2, c3, c4, c5][jj]? = some u → ((X.alloc (.cells #[c0, c1, c2, c3, c4, c5] 42)).drew).cell? ((⟨X.heap.size, 0, none⟩ : Addr).add jj) = some u) := by have h9 := HNW.out; rw [hX1] at h9; exact h9
      have HA1 : Hid (∀ (g1 cp1 : Nat) (w1 : World), w1.ownsRow 0 42 6 (.slice (some ⟨g1, 0, none⟩) (L + 1) cp1) (L + 1) (xs.flatten ++ [c0, c1, c2, c3, c4, c5]) → ((X.alloc (.cells #[c0, c1, c2, c3, c4, c5] 42)).drew).grownBy w1 (Value.slice ao (L) ko).ownBlock → ((Value.slice ao (L) ko).ownBlock = some g1 ∨ g1 = X.heap.size + 1) →
          (OwnL 6 42 PIn (fun g => wz.heap.size ≤ g) w1 (.slice (some ⟨g1, 0, none⟩) (L + 1) cp1) (ob ++ [x]) ∧ Below wz.heap.size wr w1 ∧ w1.heap[C]? = X.heap[C]? ∧ w1.heap[E]? = X.heap[E]? ∧ X.heap.size ≤ w1.heap.size) ∧ (fun w' => w'.cell? ⟨C, 5, none⟩ = some (.slice avb b kvb) ∧ w'.frozen? ⟨C, 5, none⟩ = false ∧ w'.cell? ⟨E, 0, none⟩ = some (c0) ∧ w'.cell? ⟨E, 1, none⟩ = some (c1) ∧ w'.cell? ⟨E, 2, none⟩ = some (c2) ∧ w'.cell? ⟨E, 3, none⟩ = some (c3) ∧ w'.cell? ⟨E, 4, none⟩ = some (c4) ∧ w'.cell? ⟨E, 5, none⟩ = some (c5)) w1) := by
        intro g1 cp1 w1 h1 h2 h3
        rw [← hX1] at h2
        have h4 := r51a HXX.out HOX.out hoj HX1.out.1 HPI.out h2 (by rw [HX1.out.2.1]; exact h3) h1 HBX.out.size rfl
        have h5 := r51b (C := C) (E := E) (X := X.heap.size) HXX.out.1 h2 HX1.out.2.1 HXL.out.1 HXL.out.2.1 (Nat.lt_of_lt_of_le HXL.out.2.2.1 HXL.out.2.2.2.1) HEr.out HOX.out
        exact ⟨⟨h4.1, h4.2, h5.1.trans HX1.out.2.2.1, h5.2.trans HX1.out.2.2.2, Nat.le_trans (Nat.le_trans (Nat.le_succ _) (Nat.le_of_eq HX1.out.2.1.symm)) h2.size⟩, HSS.out w1 (h5.1.trans HX1.out.2.2.1) (h5.2.trans HX1.out.2.2.2)⟩
      rw [hX1] at hS1
      clear hX1 hbX1 hwX1 hX1s
      have HA2 : Hid (∀ (g1 cp1 : Nat) (w1 : World), (OwnL 6 42 PIn (fun g => wz.heap.size ≤ g) w1 (.slice (some ⟨g1, 0, none⟩) (L + 1) cp1) (ob ++ [x]) ∧ Below wz.heap.size wr w1 ∧ w1.heap[C]? = X.heap[C]? ∧ w1.heap[E]? = X.heap[E]? ∧ X.heap.size ≤ w1.heap.size) →
          (w1.alloc (.cells #[.slice (some ⟨g1, 0, none⟩) (L + 1) cp1] 40)).ownsRow 0 40 1 (.slice avb b kvb) b ys.flatten ∧
          (∀ jj u, [Value.slice (some ⟨g1, 0, none⟩) (L + 1) cp1][jj]? = some u → (w1.alloc (.cells #[.slice (some ⟨g1, 0, none⟩) (L + 1) cp1] 40)).cell? ((⟨w1.heap.size, 0, none⟩ : Addr).add jj) = some u) ∧
          (w1.alloc (.cells #[.slice (some ⟨g1, 0, none⟩) (L + 1) cp1] 40)).heap.size = w1.heap.size + 1 ∧ (fun w' => w'.cell? ⟨C, 5, none⟩ = some (.slice avb b kvb) ∧ w'.frozen? ⟨C, 5, none⟩ = false ∧ w'.cell? ⟨E, 0, none⟩ = some (c0) ∧ w'.cell? ⟨E, 1, none⟩ = some (c1) ∧ w'.cell? ⟨E, 2, none⟩ = some (c2) ∧ w'.cell? ⟨E, 3, none⟩ = some (c3) ∧ w'.cell? ⟨E, 4, none⟩ = some (c4) ∧ w'.cell? ⟨E, 5, none⟩ = some (c5)) (w1.alloc (.cells #[.slice (some ⟨g1, 0, none⟩) (L + 1) cp1] 40)) ∧
          ∀ (g2 cp2 : Nat) (w2 : World), w2.ownsRow 0 40 1 (.slice (some ⟨g2, 0, none⟩) (b + 1) cp2) (b + 1) (ys.flatten ++ [Value.slice (some ⟨g1, 0, none⟩) (L + 1) cp1]) → (w1.alloc (.cells #[.slice (some ⟨g1, 0, none⟩) (L + 1) cp1] 40)).grownBy w2 (Value.slice avb b kvb).ownBlock → ((Value.slice avb b kvb).ownBlock = some g2 ∨ g2 = w1.heap.size + 1) →
            (fun w' => w'.cell? ⟨C, 5, none⟩ = some (.slice avb b kvb) ∧ w'.frozen? ⟨C, 5, none⟩ = false ∧ w'.cell? ⟨E, 0, none⟩ = some (c0) ∧ w'.cell? ⟨E, 1, none⟩ = some (c1) ∧ w'.cell? ⟨E, 2, none⟩ = some (c2) ∧ w'.cell? ⟨E, 3, none⟩ = some (c3) ∧ w'.cell? ⟨E, 4, none⟩ = some (c4) ∧ w'.cell? ⟨E, 5, none⟩ = some (c5)) w2 ∧ CInv C W0 (b + 1) (w2.setCell ⟨C, 5, none⟩ (.slice (some ⟨g2, 0, none⟩) (b + 1) cp2))) := by
        intro g1 cp1 w1 h1
        have hba : Below w1.heap.size w1 (w1.alloc (.cells #[.slice (some ⟨g1, 0, none⟩) (L + 1) cp1] 40)) := below_alloc _ _
        have hbz : Below wz.heap.size wz w1 := HBX.out.trans h1.2.1
        have hkC := hba.block C (Nat.lt_of_lt_of_le HXL.out.1 h1.2.2.2.2)
        have hkE := hba.block (E) (Nat.lt_of_lt_of_le HXL.out.2.1 h1.2.2.2.2)
        refine ⟨own_same HYY.out.2.2.2.1 fun g hg => (hba.block g (Nat.lt_of_lt_of_le (own0_lt HYY.out.2.2.2.1 hg) hbz.size)).trans (hbz.block g (own0_lt HYY.out.2.2.2.1 hg)), World.news_of_block (heap_alloc_new w1 _), by simp, HSS.out _ (hkC.trans h1.2.2.1) (hkE.trans h1.2.2.2.1), ?_⟩
        intro g2 cp2 w2 h2 h3 h4
        refine ⟨HSS.out _ ((h3.block C (Nat.lt_of_lt_of_le (Nat.lt_of_lt_of_le HXL.out.1 h1.2.2.2.2) hba.size) (fun e => Nat.lt_irrefl _ (Nat.lt_of_lt_of_le HXL.out.2.2.1 (HYY.out.1 C e.symm)))).trans (hkC.trans h1.2.2.1)) ((h3.block (E) (Nat.lt_of_lt_of_le (Nat.lt_of_lt_of_le HXL.out.2.1 h1.2.2.2.2) hba.size) (fun e => Nat.lt_irrefl _ (Nat.lt_of_lt_of_le (own0_lt HYY.out.2.2.2.1 e.symm) (Nat.le_trans HXL.out.2.2.2.2 HEr.out)))).trans (hkE.trans h1.2.2.2.1)), ?_⟩
        exact push_block HXL.out.2.2.1 HCZ.out.fr HCC.out HYY.out.1 HYY.out.2.1 HYY.out.2.2.1 HYY.out.2.2.2.1 HYY.out.2.2.2.2.1 HYY.out.2.2.2.2.2 hbz h1.1 h3 (by rcases h4 with h | h; exact .inl h; exact .inr (by rw [h]; simp)) h2
      have hXds : X.drew.heap.size = X.heap.size := rfl
      go_upto_region 51 with fail
      refine wp_region_noPanic ?_
      go_region_law
        (first | (refine step_append_lies _ rfl (.tmp 227) (.tmp 229) 40 rfl 0 42 iI _ 6 104 Try.underlying40 hI0 hI1 hI2 hI3 rfl (by decide) (.slice ao (L) ko) (L) xs.flatten (by simp [Act.eval, Act.put]) HOXL.out ⟨X.heap.size, 0, none⟩ 1 1 [c0, c1, c2, c3, c4, c5] (by simp [Act.eval, Act.put]) rfl HNWL.out HONE.out (by decide) HLN.out.1 HLN.out.2 (Nat.zero_le _) (X.heap.size + 1) HXN.out ?_; intro g1 cp1 w1 hown1 hgrow1 hat1 hlt1; have HG1 : Hid (_) := (HA1.out g1 cp1 w1 hown1 hgrow1 hat1).1; have hS2 := (HA1.out g1 cp1 w1 hown1 hgrow1 hat1).2; have HG2 : Hid (_) := HA2.out g1 cp1 w1 HG1.out; have hS3 := HG2.out.2.2.2.1; clear hown1 hgrow1 hat1) | (refine step_append_lies _ rfl (.tmp 226) (.tmp 231) 22 rfl 0 40 iB _ 1 24 Try.underlying22 hJ0 hJ1 hJ2 hJ3 rfl (by decide) (.slice avb b kvb) b ys.flatten (by simp [Act.eval, Act.put]) HG2.out.1 ⟨w1.heap.size, 0, none⟩ 1 1 [Value.slice (some ⟨g1, 0, none⟩) (L + 1) cp1] (by simp [Act.eval, Act.put]) rfl HG2.out.2.1 (by intro u hu; simp at hu; subst hu; rfl) (by decide) HLB.out.1 HLB.out.2 (Nat.zero_le _) (w1.heap.size + 1) HG2.out.2.2.1 ?_; intro g2 cp2 w2 hown2 hgrow2 hat2 hlt2; have HG3 : Hid (_) := HG2.out.2.2.2.2 g2 cp2 w2 hown2 hgrow2 hat2; have hS4 := HG3.out.1; clear hown2 hgrow2 hat2))
      all_goals
        have HCN : Hid (CInv C W0 (b + 1) (w2.setCell ⟨C, 5, none⟩ (.slice (some ⟨g2, 0, none⟩) (b + 1) cp2))) := HG3.out.2
        clear HG1 HG2 HG3 hS0 hS1 hS2 hS3 hS4
        refine NoPanic.normal ?_
        go_wp2_with fail
        exact HK.out _ _ _ _ _ _ _ _ _ _ _ _ _ _ _ _ _ _ _ _ _ _ _ _ _ _ _ _ _ _ _ _ _ _ _ _ _ _ _ _ _ _ _ _ _ _ _ _ _ _ _ _ _ _ _ _ _ _ _ _ _ _ _ _ _ _ _ _ _ _ _ _ _ _ _ _ HCN.out

end Go.Proofs.Ytjdedfgdofceeaa
