/-
  posternkeep.Code: region 50, that draws its order. (gen_SxD.py)
-/
import Derived.Test.YtjdedfgdofceeaaSxE
namespace Go.Proofs.Ytjdedfgdofceeaa
open Go.RowKit
set_option linter.unusedSimpArgs false
set_option linter.unusedVariables false

noncomputable def code50 : Code := match Try.f11.body with
  | some c => match atR 50 c with
    | some d => d
    | none => .skip
  | none => .skip
set_option maxHeartbeats 40000000 in
set_option maxRecDepth 20000 in
theorem r50_any {q M : Nat} {wr wc : World} {rk rA rB rC : Int} {Q : Exit → Act → World → Prop} {s0 s1 s2 s4 s5 s6 s7 s8 s9 s10 s11 s12 s13 s14 s15 s16 s20 s21 s22 s23 s24 s25 s26 s27 s28 s29 s30 s31 s32 s33 s34 s35 s36 s37 s38 s39 s40 s41 s42 s43 s44 s45 s46 s47 s48 s49 s50 s51 s52 s53 s54 s55 s56 s57 s58 s59 s60 s61 s62 s63 s64 s65 s66 s67 s68 s69 s70 s71 s72 s73 s74 s75 s76 s77 s78 s79 s80 s81 s82 s83 s84 s85 s86 s87 s88 s89 s90 s91 s92 s93 s94 s95 s96 s97 s98 s99 s100 s101 s102 s103 s104 s105 s106 s107 s108 s109 s110 s111 s112 s113 s114 s115 s116 s117 s118 s119 s120 s121 s122 s123 s124 s125 s126 s127 s128 s129 s130 s131 s132 s133 s134 s135 s136 s137 s138 s139 s140 s141 s142 s143 s144 s145 s146 s147 s148 s149 s150 s151 s152 s153 s154 s155 s156 s157 s158 s159 s160 s161 s162 s163 s164 s165 s166 s167 s168 s169 s170 s171 s172 s173 s174 s175 s176 s177 s178 s179 s180 s181 s182 s183 s184 s185 s186 s187 s188 s189 s190 s191 s192 s193 s194 s195 s196 s197 s198 s199 s200 s201 s202 s203 s204 s205 s206 s207 s208 s209 s210 s211 s212 s213 s214 s215 s216 s217 s218 s219 s220 s221 s222 s223 s224 s225 s226 s227 s228 s229 s230 s231 s232 s233 s234 s235 s236 s237 s238 s239 : Value} (hq6 : q ≤ 6) (HI : Hid (I64 rk ∧ I64 rA ∧ I64 rB ∧ I64 rC)) (HB : Hid (Below wr.heap.size wr wc))
    (HSS : Hid (∀ w' : World, Below wc.heap.size wc w' → w'.cell? ⟨wr.heap.size, 1, none⟩ = some (.int .i64 rA) ∧ w'.cell? ⟨wr.heap.size, 2, none⟩ = some (.int .i64 rB) ∧ w'.cell? ⟨wr.heap.size, 3, none⟩ = some (.int .i64 rC) ∧ w'.cell? ⟨M, 0, none⟩ = some (.int .i64 (1 + (q : Int)))))
    (hQ : ∀ (t206 t207 t208 t209 t210 t211 t212 t213 t214 t215 t216 t217 t218 t219 t220 t221 t222 t223 t224 : Value) (w' : World), EndAt wc.heap.size wr w' → Q .normal ⟨#[s0, s1, s2, Value.int IntKind.i64 5, s4, s5, s6, s7, s8, s9, s10, s11, s12, s13, s14, s15, s16, Value.pointer (some { block := wr.heap.size, off := 0 }), Value.func (Fn.func 23) #[] #[Value.pointer (some { block := M, off := 0 })], Value.pointer (some { block := wc.heap.size, off := 0 }), s20, s21, s22, s23, s24, s25, s26, s27, s28, s29, s30, s31, s32, s33, s34, s35, s36, s37, s38, s39, s40, s41, s42, s43, s44, s45, s46, s47, s48, s49, s50, s51, s52, s53, s54, s55, s56, s57, s58, s59, s60, s61, s62, s63, s64, s65, s66, s67, s68, s69, s70, s71, s72, s73, s74, s75, s76, s77, s78, s79, s80, s81, s82, s83, s84, s85, s86, s87, s88, s89, s90, s91, s92, s93, s94, s95, s96, s97, s98, s99, s100, s101, s102, s103, s104, s105, s106, s107, s108, s109, s110, s111, s112, s113, s114, s115, s116, s117, s118, s119, s120, s121, s122, s123, s124, s125, s126, s127, s128, s129, s130, s131, s132, s133, s134, s135, s136, s137, s138, s139, s140, s141, s142, s143, s144, s145, s146, s147, s148, s149, s150, s151, s152, s153, s154, s155, s156, s157, s158, s159, s160, s161, s162, s163, s164, s165, s166, s167, s168, s169, s170, s171, s172, s173, s174, s175, s176, s177, s178, s179, s180, s181, s182, s183, s184, s185, s186, s187, s188, s189, s190, s191, s192, s193, s194, s195, s196, s197, s198, s199, s200, s201, s202, s203, s204, s205, t206, t207, t208, t209, t210, t211, t212, t213, t214, t215, t216, t217, t218, t219, t220, t221, t222, t223, t224, s225, s226, s227, s228, s229, s230, s231, s232, s233, s234, s235, s236, s237, s238, s239], []⟩ w') :
    code50.wp Try.prog Q ⟨#[s0, s1, s2, Value.int IntKind.i64 5, s4, s5, s6, s7, s8, s9, s10, s11, s12, s13, s14, s15, s16, Value.pointer (some { block := wr.heap.size, off := 0 }), Value.func (Fn.func 23) #[] #[Value.pointer (some { block := M, off := 0 })], Value.pointer (some { block := wc.heap.size, off := 0 }), s20, s21, s22, s23, s24, s25, s26, s27, s28, s29, s30, s31, s32, s33, s34, s35, s36, s37, s38, s39, s40, s41, s42, s43, s44, s45, s46, s47, s48, s49, s50, s51, s52, s53, s54, s55, s56, s57, s58, s59, s60, s61, s62, s63, s64, s65, s66, s67, s68, s69, s70, s71, s72, s73, s74, s75, s76, s77, s78, s79, s80, s81, s82, s83, s84, s85, s86, s87, s88, s89, s90, s91, s92, s93, s94, s95, s96, s97, s98, s99, s100, s101, s102, s103, s104, s105, s106, s107, s108, s109, s110, s111, s112, s113, s114, s115, s116, s117, s118, s119, s120, s121, s122, s123, s124, s125, s126, s127, s128, s129, s130, s131, s132, s133, s134, s135, s136, s137, s138, s139, s140, s141, s142, s143, s144, s145, s146, s147, s148, s149, s150, s151, s152, s153, s154, s155, s156, s157, s158, s159, s160, s161, s162, s163, s164, s165, s166, s167, s168, s169, s170, s171, s172, s173, s174, s175, s176, s177, s178, s179, s180, s181, s182, s183, s184, s185, s186, s187, s188, s189, s190, s191, s192, s193, s194, s195, s196, s197, s198, s199, s200, s201, s202, s203, s204, s205, s206, s207, s208, s209, s210, s211, s212, s213, s214, s215, s216, s217, s218, s219, s220, s221, s222, s223, s224, s225, s226, s227, s228, s229, s230, s231, s232, s233, s234, s235, s236, s237, s238, s239], []⟩ (wc.alloc (Obj.cells #[Value.int IntKind.i64 12, Value.slice none 0 0, Value.slice none 0 0, Value.int IntKind.i64 0, Value.string { data := #[] }, Value.slice none 0 0] 42)) := by
  conv => arg 2; whnf
  have HQ : Hid (_) := hQ
  clear hQ
  have HTC : Hid (∀ (x : Int) (W : World), I64 x → W.cell? ⟨M, 0, none⟩ = some (.int .i64 (1 + (q : Int))) → Calls Try.prog 23 #[.int .i64 x, .pointer (some ⟨M, 0, none⟩)] W fun e w' => e = .returned (.int .i64 (pickI x (1 + (q : Int)))) ∧ w' = W) := fun x W hx hc => t_any x q M W hx hq6 hc
  have HPKrB : Hid (∀ w', Calls Try.prog 22 #[.int .i64 rB, .int .i64 5] w' fun e w'' => e = .returned (.int .i64 (pickI rB 5)) ∧ w'' = w') := fun w' => picked_any rB 5 HI.out.2.2.1 (by decide) (by decide) w'
  refine wp_region_any (by kernel_rfl) ?_
  refine wpAny_inv (fun listed a wx => ∃ d0 d1 d2 d3 d4 d5 d6 d7 d8 d9 d10 d11 d12 d13 d14 d15 d16 d17 d18 d19 : Bool, listed = #[d0, d1, d2, d3, d4, d5, d6, d7, d8, d9, d10, d11, d12, d13, d14, d15, d16, d17, d18, d19] ∧ ∃ v0 v1 v2 v3 v4 v5 v6 v7 v8 v9 v10 v11 v12 v13 v14 v15 v16 v17 v18 : Value, a = { tmps := #[s0, s1, s2, Value.int IntKind.i64 5, s4, s5, s6, s7, s8, s9, s10, s11, s12, s13, s14, s15, s16, Value.pointer (some { block := wr.heap.size, off := 0 }), Value.func (Fn.func 23) #[] #[Value.pointer (some { block := M, off := 0 })], Value.pointer (some { block := wc.heap.size, off := 0 }), s20, s21, s22, s23, s24, s25, s26, s27, s28, s29, s30, s31, s32, s33, s34, s35, s36, s37, s38, s39, s40, s41, s42, s43, s44, s45, s46, s47, s48, s49, s50, s51, s52, s53, s54, s55, s56, s57, s58, s59, s60, s61, s62, s63, s64, s65, s66, s67, s68, s69, s70, s71, s72, s73, s74, s75, s76, s77, s78, s79, s80, s81, s82, s83, s84, s85, s86, s87, s88, s89, s90, s91, s92, s93, s94, s95, s96, s97, s98, s99, s100, s101, s102, s103, s104, s105, s106, s107, s108, s109, s110, s111, s112, s113, s114, s115, s116, s117, s118, s119, s120, s121, s122, s123, s124, s125, s126, s127, s128, s129, s130, s131, s132, s133, s134, s135, s136, s137, s138, s139, s140, s141, s142, s143, s144, s145, s146, s147, s148, s149, s150, s151, s152, s153, s154, s155, s156, s157, s158, s159, s160, s161, s162, s163, s164, s165, s166, s167, s168, s169, s170, s171, s172, s173, s174, s175, s176, s177, s178, s179, s180, s181, s182, s183, s184, s185, s186, s187, s188, s189, s190, s191, s192, s193, s194, s195, s196, s197, s198, s199, s200, s201, s202, s203, s204, s205, v0, v1, v2, v3, v4, v5, v6, v7, v8, v9, v10, v11, v12, v13, v14, v15, v16, v17, v18, s225, s226, s227, s228, s229, s230, s231, s232, s233, s234, s235, s236, s237, s238, s239], defers := [] } ∧ Hid (U50 wc wc.heap.size 11 1 3 (Obj.cells #[Value.int IntKind.i64 12, Value.slice none 0 0, Value.slice none 0 0, Value.int IntKind.i64 0, Value.string { data := #[] }, Value.slice none 0 0] 42) (Obj.cells #[Value.int IntKind.i64 (pickI rB 5)] 3) (Obj.cells #[Value.int IntKind.i64 (pickI rA (1 + (q : Int))), Value.int IntKind.i64 (pickI rB (1 + (q : Int))), Value.int IntKind.i64 (pickI rC (1 + (q : Int)))] 3) (Value.pointer (some { block := wr.heap.size, off := 2 })) (Value.int IntKind.i64 rB) (Value.int IntKind.i64 5) (Value.int IntKind.i64 (pickI rB 5)) (Value.func (Fn.func 23) #[] #[Value.pointer (some { block := M, off := 0 })]) (Value.pointer (some { block := wr.heap.size, off := 1 })) (Value.int IntKind.i64 rA) (Value.int IntKind.i64 (pickI rA (1 + (q : Int)))) (Value.func (Fn.func 23) #[] #[Value.pointer (some { block := M, off := 0 })]) (Value.pointer (some { block := wr.heap.size, off := 2 })) (Value.int IntKind.i64 rB) (Value.int IntKind.i64 (pickI rB (1 + (q : Int)))) (Value.func (Fn.func 23) #[] #[Value.pointer (some { block := M, off := 0 })]) (Value.pointer (some { block := wr.heap.size, off := 3 })) (Value.int IntKind.i64 rC) (Value.int IntKind.i64 (pickI rC (1 + (q : Int)))) d0 d1 d2 d3 d4 d5 d6 d7 d8 d9 d10 d11 d12 d13 d14 d15 d16 d17 d18 d19 v0 v1 v2 v3 v4 v5 v6 v7 v8 v9 v10 v11 v12 v13 v14 v15 v16 v17 v18 wx)) ?rstep ?rdone _ _ _ _ (Nat.le_of_eq (by kernel_rfl)) ?rinit
  case rstep =>
    rintro listed a wx ri ⟨d0, d1, d2, d3, d4, d5, d6, d7, d8, d9, d10, d11, d12, d13, d14, d15, d16, d17, d18, d19, rfl, v0, v1, v2, v3, v4, v5, v6, v7, v8, v9, v10, v11, v12, v13, v14, v15, v16, v17, v18, rfl, H⟩ hri
    obtain ⟨hi0, hi1, hi2⟩ := ready_mem hri
    clear hri
    have hi0 : ri < 20 := hi0
    have hcase : ri = 0 ∨ ri = 1 ∨ ri = 2 ∨ ri = 3 ∨ ri = 4 ∨ ri = 5 ∨ ri = 6 ∨ ri = 7 ∨ ri = 8 ∨ ri = 9 ∨ ri = 10 ∨ ri = 11 ∨ ri = 12 ∨ ri = 13 ∨ ri = 14 ∨ ri = 15 ∨ ri = 16 ∨ ri = 17 ∨ ri = 18 ∨ ri = 19 := by omega
    clear hi0
    rcases hcase with rfl | rfl | rfl | rfl | rfl | rfl | rfl | rfl | rfl | rfl | rfl | rfl | rfl | rfl | rfl | rfl | rfl | rfl | rfl | rfl
    all_goals (simp [Region.binds] at hi1 hi2)
    · obtain rfl : d0 = false := by simpa using hi1
      clear hi1
      refine wpOp_step rfl (fun K' hK => ?_)
      go_simp
      refine hK _ _ ?_
      exact ⟨true, d1, d2, d3, d4, d5, d6, d7, d8, d9, d10, d11, d12, d13, d14, d15, d16, d17, d18, d19, rfl, _, _, _, _, _, _, _, _, _, _, _, _, _, _, _, _, _, _, _, rfl, ⟨(H.out.bel), (fun _ => rfl), (H.out.c1), (H.out.c2), (H.out.c3), (H.out.c5), (H.out.c6), (H.out.c7), (H.out.c8), (H.out.c9), (H.out.c10), (H.out.c11), (H.out.c12), (H.out.c13), (H.out.c14), (H.out.c15), (H.out.c16), (H.out.cA), (H.out.cB), (H.out.cG), (H.out.e0), (H.out.e1), (H.out.oG), (H.out.oS)⟩⟩
    · obtain rfl : d1 = false := by simpa using hi1
      have e0 : d0 = true := by simp only [hi2]
      clear hi1 hi2
      subst e0
      obtain rfl := H.out.c0 rfl
      have pc := (HSS.out wx H.out.bel).2.1
      refine wpOp_step rfl (fun K' hK => ?_)
      go_simp
      refine hK _ _ ?_
      exact ⟨true, true, d2, d3, d4, d5, d6, d7, d8, d9, d10, d11, d12, d13, d14, d15, d16, d17, d18, d19, rfl, _, _, _, _, _, _, _, _, _, _, _, _, _, _, _, _, _, _, _, rfl, ⟨(H.out.bel), (H.out.c0), (fun _ => rfl), (H.out.c2), (H.out.c3), (H.out.c5), (H.out.c6), (H.out.c7), (H.out.c8), (H.out.c9), (H.out.c10), (H.out.c11), (H.out.c12), (H.out.c13), (H.out.c14), (H.out.c15), (H.out.c16), (H.out.cA), (H.out.cB), (H.out.cG), (H.out.e0), (H.out.e1), (H.out.oG), (H.out.oS)⟩⟩
    · obtain rfl : d2 = false := by simpa using hi1
      clear hi1
      refine wpOp_step rfl (fun K' hK => ?_)
      go_simp
      refine hK _ _ ?_
      exact ⟨d0, d1, true, d3, d4, d5, d6, d7, d8, d9, d10, d11, d12, d13, d14, d15, d16, d17, d18, d19, rfl, _, _, _, _, _, _, _, _, _, _, _, _, _, _, _, _, _, _, _, rfl, ⟨(H.out.bel), (H.out.c0), (H.out.c1), (fun _ => rfl), (H.out.c3), (H.out.c5), (H.out.c6), (H.out.c7), (H.out.c8), (H.out.c9), (H.out.c10), (H.out.c11), (H.out.c12), (H.out.c13), (H.out.c14), (H.out.c15), (H.out.c16), (H.out.cA), (H.out.cB), (H.out.cG), (H.out.e0), (H.out.e1), (H.out.oG), (H.out.oS)⟩⟩
    · obtain rfl : d3 = false := by simpa using hi1
      have e1 : d1 = true := by simp only [hi2]
      have e2 : d2 = true := by simp only [hi2]
      clear hi1 hi2
      subst e1
      subst e2
      obtain rfl := H.out.c1 rfl
      obtain rfl := H.out.c2 rfl
      refine wpOp_step rfl (fun K' hK => ?_)
      go_simp
      go_wp2_with (go_at_call 22; refine Calls.mono (HPKrB.out _) ?_; rintro e w1 ⟨rfl, rfl⟩)
      exact ⟨d0, true, true, true, d4, d5, d6, d7, d8, d9, d10, d11, d12, d13, d14, d15, d16, d17, d18, d19, rfl, _, _, _, _, _, _, _, _, _, _, _, _, _, _, _, _, _, _, _, rfl, ⟨(H.out.bel), (H.out.c0), (H.out.c1), (H.out.c2), (fun _ => rfl), (H.out.c5), (H.out.c6), (H.out.c7), (H.out.c8), (H.out.c9), (H.out.c10), (H.out.c11), (H.out.c12), (H.out.c13), (H.out.c14), (H.out.c15), (H.out.c16), (H.out.cA), (H.out.cB), (H.out.cG), (H.out.e0), (H.out.e1), (H.out.oG), (H.out.oS)⟩⟩
    · obtain rfl : d4 = false := by simpa using hi1
      have e3 : d3 = true := by simp only [hi2]
      clear hi1 hi2
      subst e3
      obtain rfl := H.out.c3 rfl
      refine wpOp_step rfl (fun K' hK => ?_)
      go_simp
      refine hK _ _ ?_
      have hnew := heap_alloc_new wx (Obj.cells #[Value.int IntKind.i64 (pickI rB 5)] 3)
      have hb := below_alloc wx (Obj.cells #[Value.int IntKind.i64 (pickI rB 5)] 3)
      exact ⟨d0, d1, d2, true, true, d5, d6, d7, d8, d9, d10, d11, d12, d13, d14, d15, d16, d17, d18, d19, rfl, _, _, _, _, _, _, _, _, _, _, _, _, _, _, _, _, _, _, _, rfl, ⟨(H.out.bel.trans (hb.mono H.out.bel.size)), (H.out.c0), (H.out.c1), (H.out.c2), (H.out.c3), (H.out.c5), (H.out.c6), (H.out.c7), (H.out.c8), (H.out.c9), (H.out.c10), (H.out.c11), (H.out.c12), (H.out.c13), (H.out.c14), (H.out.c15), (H.out.c16), (SlB.new hnew H.out.bel.size), (H.out.cB.keep hb), (fun hd => nomatch (H.out.oG hd).1), (fun hd => (hb.block _ (lt_of_block (H.out.e0 hd))).trans (H.out.e0 hd)), (fun hd => nomatch (H.out.oG (H.out.oS hd)).1), (fun hd => nomatch (H.out.oG hd).1), (H.out.oS)⟩⟩
    · obtain rfl : d5 = false := by simpa using hi1
      clear hi1
      refine wpOp_step rfl (fun K' hK => ?_)
      go_simp
      refine hK _ _ ?_
      exact ⟨d0, d1, d2, d3, d4, true, d6, d7, d8, d9, d10, d11, d12, d13, d14, d15, d16, d17, d18, d19, rfl, _, _, _, _, _, _, _, _, _, _, _, _, _, _, _, _, _, _, _, rfl, ⟨(H.out.bel), (H.out.c0), (H.out.c1), (H.out.c2), (H.out.c3), (fun _ => rfl), (H.out.c6), (H.out.c7), (H.out.c8), (H.out.c9), (H.out.c10), (H.out.c11), (H.out.c12), (H.out.c13), (H.out.c14), (H.out.c15), (H.out.c16), (H.out.cA), (H.out.cB), (H.out.cG), (H.out.e0), (H.out.e1), (H.out.oG), (H.out.oS)⟩⟩
    · obtain rfl : d6 = false := by simpa using hi1
      clear hi1
      refine wpOp_step rfl (fun K' hK => ?_)
      go_simp
      refine hK _ _ ?_
      exact ⟨d0, d1, d2, d3, d4, d5, true, d7, d8, d9, d10, d11, d12, d13, d14, d15, d16, d17, d18, d19, rfl, _, _, _, _, _, _, _, _, _, _, _, _, _, _, _, _, _, _, _, rfl, ⟨(H.out.bel), (H.out.c0), (H.out.c1), (H.out.c2), (H.out.c3), (H.out.c5), (fun _ => rfl), (H.out.c7), (H.out.c8), (H.out.c9), (H.out.c10), (H.out.c11), (H.out.c12), (H.out.c13), (H.out.c14), (H.out.c15), (H.out.c16), (H.out.cA), (H.out.cB), (H.out.cG), (H.out.e0), (H.out.e1), (H.out.oG), (H.out.oS)⟩⟩
    · obtain rfl : d7 = false := by simpa using hi1
      have e6 : d6 = true := by simp only [hi2]
      clear hi1 hi2
      subst e6
      obtain rfl := H.out.c6 rfl
      have pc := (HSS.out wx H.out.bel).1
      refine wpOp_step rfl (fun K' hK => ?_)
      go_simp
      refine hK _ _ ?_
      exact ⟨d0, d1, d2, d3, d4, d5, true, true, d8, d9, d10, d11, d12, d13, d14, d15, d16, d17, d18, d19, rfl, _, _, _, _, _, _, _, _, _, _, _, _, _, _, _, _, _, _, _, rfl, ⟨(H.out.bel), (H.out.c0), (H.out.c1), (H.out.c2), (H.out.c3), (H.out.c5), (H.out.c6), (fun _ => rfl), (H.out.c8), (H.out.c9), (H.out.c10), (H.out.c11), (H.out.c12), (H.out.c13), (H.out.c14), (H.out.c15), (H.out.c16), (H.out.cA), (H.out.cB), (H.out.cG), (H.out.e0), (H.out.e1), (H.out.oG), (H.out.oS)⟩⟩
    · obtain rfl : d8 = false := by simpa using hi1
      have e3 : d3 = true := by simp only [hi2]
      have e5 : d5 = true := by simp only [hi2]
      have e7 : d7 = true := by simp only [hi2]
      clear hi1 hi2
      subst e3
      subst e5
      subst e7
      obtain rfl := H.out.c3 rfl
      obtain rfl := H.out.c5 rfl
      obtain rfl := H.out.c7 rfl
      refine wpOp_step rfl (fun K' hK => ?_)
      go_simp
      go_wp2_with (go_at_call 23; refine Calls.mono (HTC.out rA _ HI.out.2.1 (HSS.out _ H.out.bel).2.2.2) ?_; rintro e w1 ⟨rfl, rfl⟩)
      exact ⟨d0, d1, d2, true, d4, true, d6, true, true, d9, d10, d11, d12, d13, d14, d15, d16, d17, d18, d19, rfl, _, _, _, _, _, _, _, _, _, _, _, _, _, _, _, _, _, _, _, rfl, ⟨(H.out.bel), (H.out.c0), (H.out.c1), (H.out.c2), (H.out.c3), (H.out.c5), (H.out.c6), (H.out.c7), (fun _ => rfl), (H.out.c9), (H.out.c10), (H.out.c11), (H.out.c12), (H.out.c13), (H.out.c14), (H.out.c15), (H.out.c16), (H.out.cA), (H.out.cB), (H.out.cG), (H.out.e0), (H.out.e1), (H.out.oG), (H.out.oS)⟩⟩
    · obtain rfl : d9 = false := by simpa using hi1
      clear hi1
      refine wpOp_step rfl (fun K' hK => ?_)
      go_simp
      refine hK _ _ ?_
      exact ⟨d0, d1, d2, d3, d4, d5, d6, d7, d8, true, d10, d11, d12, d13, d14, d15, d16, d17, d18, d19, rfl, _, _, _, _, _, _, _, _, _, _, _, _, _, _, _, _, _, _, _, rfl, ⟨(H.out.bel), (H.out.c0), (H.out.c1), (H.out.c2), (H.out.c3), (H.out.c5), (H.out.c6), (H.out.c7), (H.out.c8), (fun _ => rfl), (H.out.c10), (H.out.c11), (H.out.c12), (H.out.c13), (H.out.c14), (H.out.c15), (H.out.c16), (H.out.cA), (H.out.cB), (H.out.cG), (H.out.e0), (H.out.e1), (H.out.oG), (H.out.oS)⟩⟩
    · obtain rfl : d10 = false := by simpa using hi1
      clear hi1
      refine wpOp_step rfl (fun K' hK => ?_)
      go_simp
      refine hK _ _ ?_
      exact ⟨d0, d1, d2, d3, d4, d5, d6, d7, d8, d9, true, d11, d12, d13, d14, d15, d16, d17, d18, d19, rfl, _, _, _, _, _, _, _, _, _, _, _, _, _, _, _, _, _, _, _, rfl, ⟨(H.out.bel), (H.out.c0), (H.out.c1), (H.out.c2), (H.out.c3), (H.out.c5), (H.out.c6), (H.out.c7), (H.out.c8), (H.out.c9), (fun _ => rfl), (H.out.c11), (H.out.c12), (H.out.c13), (H.out.c14), (H.out.c15), (H.out.c16), (H.out.cA), (H.out.cB), (H.out.cG), (H.out.e0), (H.out.e1), (H.out.oG), (H.out.oS)⟩⟩
    · obtain rfl : d11 = false := by simpa using hi1
      have e10 : d10 = true := by simp only [hi2]
      clear hi1 hi2
      subst e10
      obtain rfl := H.out.c10 rfl
      have pc := (HSS.out wx H.out.bel).2.1
      refine wpOp_step rfl (fun K' hK => ?_)
      go_simp
      refine hK _ _ ?_
      exact ⟨d0, d1, d2, d3, d4, d5, d6, d7, d8, d9, true, true, d12, d13, d14, d15, d16, d17, d18, d19, rfl, _, _, _, _, _, _, _, _, _, _, _, _, _, _, _, _, _, _, _, rfl, ⟨(H.out.bel), (H.out.c0), (H.out.c1), (H.out.c2), (H.out.c3), (H.out.c5), (H.out.c6), (H.out.c7), (H.out.c8), (H.out.c9), (H.out.c10), (fun _ => rfl), (H.out.c12), (H.out.c13), (H.out.c14), (H.out.c15), (H.out.c16), (H.out.cA), (H.out.cB), (H.out.cG), (H.out.e0), (H.out.e1), (H.out.oG), (H.out.oS)⟩⟩
    · obtain rfl : d12 = false := by simpa using hi1
      have e8 : d8 = true := by simp only [hi2]
      have e9 : d9 = true := by simp only [hi2]
      have e11 : d11 = true := by simp only [hi2]
      clear hi1 hi2
      subst e8
      subst e9
      subst e11
      obtain rfl := H.out.c8 rfl
      obtain rfl := H.out.c9 rfl
      obtain rfl := H.out.c11 rfl
      refine wpOp_step rfl (fun K' hK => ?_)
      go_simp
      go_wp2_with (go_at_call 23; refine Calls.mono (HTC.out rB _ HI.out.2.2.1 (HSS.out _ H.out.bel).2.2.2) ?_; rintro e w1 ⟨rfl, rfl⟩)
      exact ⟨d0, d1, d2, d3, d4, d5, d6, d7, true, true, d10, true, true, d13, d14, d15, d16, d17, d18, d19, rfl, _, _, _, _, _, _, _, _, _, _, _, _, _, _, _, _, _, _, _, rfl, ⟨(H.out.bel), (H.out.c0), (H.out.c1), (H.out.c2), (H.out.c3), (H.out.c5), (H.out.c6), (H.out.c7), (H.out.c8), (H.out.c9), (H.out.c10), (H.out.c11), (fun _ => rfl), (H.out.c13), (H.out.c14), (H.out.c15), (H.out.c16), (H.out.cA), (H.out.cB), (H.out.cG), (H.out.e0), (H.out.e1), (H.out.oG), (H.out.oS)⟩⟩
    · obtain rfl : d13 = false := by simpa using hi1
      clear hi1
      refine wpOp_step rfl (fun K' hK => ?_)
      go_simp
      refine hK _ _ ?_
      exact ⟨d0, d1, d2, d3, d4, d5, d6, d7, d8, d9, d10, d11, d12, true, d14, d15, d16, d17, d18, d19, rfl, _, _, _, _, _, _, _, _, _, _, _, _, _, _, _, _, _, _, _, rfl, ⟨(H.out.bel), (H.out.c0), (H.out.c1), (H.out.c2), (H.out.c3), (H.out.c5), (H.out.c6), (H.out.c7), (H.out.c8), (H.out.c9), (H.out.c10), (H.out.c11), (H.out.c12), (fun _ => rfl), (H.out.c14), (H.out.c15), (H.out.c16), (H.out.cA), (H.out.cB), (H.out.cG), (H.out.e0), (H.out.e1), (H.out.oG), (H.out.oS)⟩⟩
    · obtain rfl : d14 = false := by simpa using hi1
      clear hi1
      refine wpOp_step rfl (fun K' hK => ?_)
      go_simp
      refine hK _ _ ?_
      exact ⟨d0, d1, d2, d3, d4, d5, d6, d7, d8, d9, d10, d11, d12, d13, true, d15, d16, d17, d18, d19, rfl, _, _, _, _, _, _, _, _, _, _, _, _, _, _, _, _, _, _, _, rfl, ⟨(H.out.bel), (H.out.c0), (H.out.c1), (H.out.c2), (H.out.c3), (H.out.c5), (H.out.c6), (H.out.c7), (H.out.c8), (H.out.c9), (H.out.c10), (H.out.c11), (H.out.c12), (H.out.c13), (fun _ => rfl), (H.out.c15), (H.out.c16), (H.out.cA), (H.out.cB), (H.out.cG), (H.out.e0), (H.out.e1), (H.out.oG), (H.out.oS)⟩⟩
    · obtain rfl : d15 = false := by simpa using hi1
      have e14 : d14 = true := by simp only [hi2]
      clear hi1 hi2
      subst e14
      obtain rfl := H.out.c14 rfl
      have pc := (HSS.out wx H.out.bel).2.2.1
      refine wpOp_step rfl (fun K' hK => ?_)
      go_simp
      refine hK _ _ ?_
      exact ⟨d0, d1, d2, d3, d4, d5, d6, d7, d8, d9, d10, d11, d12, d13, true, true, d16, d17, d18, d19, rfl, _, _, _, _, _, _, _, _, _, _, _, _, _, _, _, _, _, _, _, rfl, ⟨(H.out.bel), (H.out.c0), (H.out.c1), (H.out.c2), (H.out.c3), (H.out.c5), (H.out.c6), (H.out.c7), (H.out.c8), (H.out.c9), (H.out.c10), (H.out.c11), (H.out.c12), (H.out.c13), (H.out.c14), (fun _ => rfl), (H.out.c16), (H.out.cA), (H.out.cB), (H.out.cG), (H.out.e0), (H.out.e1), (H.out.oG), (H.out.oS)⟩⟩
    · obtain rfl : d16 = false := by simpa using hi1
      have e12 : d12 = true := by simp only [hi2]
      have e13 : d13 = true := by simp only [hi2]
      have e15 : d15 = true := by simp only [hi2]
      clear hi1 hi2
      subst e12
      subst e13
      subst e15
      obtain rfl := H.out.c12 rfl
      obtain rfl := H.out.c13 rfl
      obtain rfl := H.out.c15 rfl
      refine wpOp_step rfl (fun K' hK => ?_)
      go_simp
      go_wp2_with (go_at_call 23; refine Calls.mono (HTC.out rC _ HI.out.2.2.2 (HSS.out _ H.out.bel).2.2.2) ?_; rintro e w1 ⟨rfl, rfl⟩)
      exact ⟨d0, d1, d2, d3, d4, d5, d6, d7, d8, d9, d10, d11, true, true, d14, true, true, d17, d18, d19, rfl, _, _, _, _, _, _, _, _, _, _, _, _, _, _, _, _, _, _, _, rfl, ⟨(H.out.bel), (H.out.c0), (H.out.c1), (H.out.c2), (H.out.c3), (H.out.c5), (H.out.c6), (H.out.c7), (H.out.c8), (H.out.c9), (H.out.c10), (H.out.c11), (H.out.c12), (H.out.c13), (H.out.c14), (H.out.c15), (fun _ => rfl), (H.out.cA), (H.out.cB), (H.out.cG), (H.out.e0), (H.out.e1), (H.out.oG), (H.out.oS)⟩⟩
    · obtain rfl : d17 = false := by simpa using hi1
      have e8 : d8 = true := by simp only [hi2]
      have e12 : d12 = true := by simp only [hi2]
      have e16 : d16 = true := by simp only [hi2]
      clear hi1 hi2
      subst e8
      subst e12
      subst e16
      obtain rfl := H.out.c8 rfl
      obtain rfl := H.out.c12 rfl
      obtain rfl := H.out.c16 rfl
      refine wpOp_step rfl (fun K' hK => ?_)
      go_simp
      refine hK _ _ ?_
      have hnew := heap_alloc_new wx (Obj.cells #[Value.int IntKind.i64 (pickI rA (1 + (q : Int))), Value.int IntKind.i64 (pickI rB (1 + (q : Int))), Value.int IntKind.i64 (pickI rC (1 + (q : Int)))] 3)
      have hb := below_alloc wx (Obj.cells #[Value.int IntKind.i64 (pickI rA (1 + (q : Int))), Value.int IntKind.i64 (pickI rB (1 + (q : Int))), Value.int IntKind.i64 (pickI rC (1 + (q : Int)))] 3)
      exact ⟨d0, d1, d2, d3, d4, d5, d6, d7, true, d9, d10, d11, true, d13, d14, d15, true, true, d18, d19, rfl, _, _, _, _, _, _, _, _, _, _, _, _, _, _, _, _, _, _, _, rfl, ⟨(H.out.bel.trans (hb.mono H.out.bel.size)), (H.out.c0), (H.out.c1), (H.out.c2), (H.out.c3), (H.out.c5), (H.out.c6), (H.out.c7), (H.out.c8), (H.out.c9), (H.out.c10), (H.out.c11), (H.out.c12), (H.out.c13), (H.out.c14), (H.out.c15), (H.out.c16), (H.out.cA.keep hb), (SlB.new hnew H.out.bel.size), (fun hd => nomatch (H.out.oG hd).2), (fun hd => (hb.block _ (lt_of_block (H.out.e0 hd))).trans (H.out.e0 hd)), (fun hd => nomatch (H.out.oG (H.out.oS hd)).2), (fun hd => nomatch (H.out.oG hd).2), (H.out.oS)⟩⟩
    · obtain rfl : d18 = false := by simpa using hi1
      have e4 : d4 = true := by simp only [hi2]
      have e17 : d17 = true := by simp only [hi2]
      clear hi1 hi2
      subst e4
      subst e17
      obtain ⟨gA, rfl, hA, sA⟩ := H.out.cA rfl
      obtain ⟨gB, rfl, hB, sB⟩ := H.out.cB rfl
      clear hA hB
      refine wpOp_step rfl (fun K' hK => ?_)
      go_simp
      refine hK _ _ ?_
      exact ⟨d0, d1, d2, d3, true, d5, d6, d7, d8, d9, d10, d11, d12, d13, d14, d15, d16, true, true, d19, rfl, _, _, _, _, _, _, _, _, _, _, _, _, _, _, _, _, _, _, _, rfl, ⟨(H.out.bel), (H.out.c0), (H.out.c1), (H.out.c2), (H.out.c3), (H.out.c5), (H.out.c6), (H.out.c7), (H.out.c8), (H.out.c9), (H.out.c10), (H.out.c11), (H.out.c12), (H.out.c13), (H.out.c14), (H.out.c15), (H.out.c16), (H.out.cA), (H.out.cB), (fun _ => rfl), (H.out.e0), (fun hd => nomatch (H.out.oS hd)), (fun _ => ⟨rfl, rfl⟩), (fun _ => rfl)⟩⟩
    · obtain rfl : d19 = false := by simpa using hi1
      have e0 : d0 = true := by simp only [hi2]
      have e1 : d1 = true := by simp only [hi2]
      have e2 : d2 = true := by simp only [hi2]
      have e3 : d3 = true := by simp only [hi2]
      have e4 : d4 = true := by simp only [hi2]
      have e5 : d5 = true := by simp only [hi2]
      have e6 : d6 = true := by simp only [hi2]
      have e7 : d7 = true := by simp only [hi2]
      have e8 : d8 = true := by simp only [hi2]
      have e9 : d9 = true := by simp only [hi2]
      have e10 : d10 = true := by simp only [hi2]
      have e11 : d11 = true := by simp only [hi2]
      have e12 : d12 = true := by simp only [hi2]
      have e13 : d13 = true := by simp only [hi2]
      have e14 : d14 = true := by simp only [hi2]
      have e15 : d15 = true := by simp only [hi2]
      have e16 : d16 = true := by simp only [hi2]
      have e17 : d17 = true := by simp only [hi2]
      have e18 : d18 = true := by simp only [hi2]
      clear hi1 hi2
      subst e0
      subst e1
      subst e2
      subst e3
      subst e4
      subst e5
      subst e6
      subst e7
      subst e8
      subst e9
      subst e10
      subst e11
      subst e12
      subst e13
      subst e14
      subst e15
      subst e16
      subst e17
      subst e18
      obtain rfl := H.out.cG rfl
      obtain ⟨gA, rfl, hA, sA⟩ := H.out.cA rfl
      obtain ⟨gB, rfl, hB, sB⟩ := H.out.cB rfl
      have hE := H.out.e0 rfl
      have nA : gA ≠ wc.heap.size := fun e => by subst e; rw [hE] at hA; simp at hA
      have nB : gB ≠ wc.heap.size := fun e => by subst e; rw [hE] at hB; simp at hB
      have HE : Hid (_) := hE
      obtain ⟨q0, q1, q2, q3, q4, q5⟩ := cells6 HE.out
      have z0 := thawAny HE.out 0
      have z1 := thawAny HE.out 1
      have z2 := thawAny HE.out 2
      have z3 := thawAny HE.out 3
      have z4 := thawAny HE.out 4
      have z5 := thawAny HE.out 5
      have HAB : Hid (_) := And.intro hA (And.intro hB (And.intro nA nB))
      clear hA hB nA nB hE
      refine wpOp_step rfl (fun K' hK => ?_)
      go_simp
      refine hK _ _ ?_
      have a5 := put6_here HE.out (Value.int IntKind.i64 11) (Value.slice none 0 0) (Value.slice (some ⟨gA, 0, none⟩) 1 1) (Value.int IntKind.i64 0) (Value.string { data := #[] }) (Value.slice (some ⟨gB, 0, none⟩) 3 3)
      have hk : ∀ k, k ≠ wc.heap.size → (put6 wx wc.heap.size (Value.int IntKind.i64 11) (Value.slice none 0 0) (Value.slice (some ⟨gA, 0, none⟩) 1 1) (Value.int IntKind.i64 0) (Value.string { data := #[] }) (Value.slice (some ⟨gB, 0, none⟩) 3 3)).heap[k]? = wx.heap[k]? := fun k h => put6_off _ _ _ _ _ _ _ _ h
      have hsz := put6_size wx wc.heap.size (Value.int IntKind.i64 11) (Value.slice none 0 0) (Value.slice (some ⟨gA, 0, none⟩) 1 1) (Value.int IntKind.i64 0) (Value.string { data := #[] }) (Value.slice (some ⟨gB, 0, none⟩) 3 3)
      have hbl : Below wc.heap.size wc (put6 wx wc.heap.size (Value.int IntKind.i64 11) (Value.slice none 0 0) (Value.slice (some ⟨gA, 0, none⟩) 1 1) (Value.int IntKind.i64 0) (Value.string { data := #[] }) (Value.slice (some ⟨gB, 0, none⟩) 3 3)) := ⟨hsz.2.1.trans H.out.bel.os, hsz.2.2.1.trans H.out.bel.tape, hsz.2.2.2.trans H.out.bel.output, Nat.le_trans H.out.bel.size (Nat.le_of_eq hsz.1.symm), fun k hlt => (hk k (Nat.ne_of_lt hlt)).trans (H.out.bel.block k hlt)⟩
      exact ⟨true, true, true, true, true, true, true, true, true, true, true, true, true, true, true, true, true, true, true, true, rfl, _, _, _, _, _, _, _, _, _, _, _, _, _, _, _, _, _, _, _, rfl, ⟨(hbl), (H.out.c0), (H.out.c1), (H.out.c2), (H.out.c3), (H.out.c5), (H.out.c6), (H.out.c7), (H.out.c8), (H.out.c9), (H.out.c10), (H.out.c11), (H.out.c12), (H.out.c13), (H.out.c14), (H.out.c15), (H.out.c16), (fun _ => ⟨gA, rfl, (hk gA HAB.out.2.2.1).trans HAB.out.1, sA⟩), (fun _ => ⟨gB, rfl, (hk gB HAB.out.2.2.2).trans HAB.out.2.1, sB⟩), (fun _ => rfl), ((fun hd => nomatch hd)), (fun _ => a5), (H.out.oG), (fun _ => rfl)⟩⟩
  case rinit =>
    exact ⟨false, false, false, false, false, false, false, false, false, false, false, false, false, false, false, false, false, false, false, false, rfl, _, _, _, _, _, _, _, _, _, _, _, _, _, _, _, _, _, _, _, rfl, ⟨((below_alloc wc _).drew), ((fun hd => nomatch hd)), ((fun hd => nomatch hd)), ((fun hd => nomatch hd)), ((fun hd => nomatch hd)), ((fun hd => nomatch hd)), ((fun hd => nomatch hd)), ((fun hd => nomatch hd)), ((fun hd => nomatch hd)), ((fun hd => nomatch hd)), ((fun hd => nomatch hd)), ((fun hd => nomatch hd)), ((fun hd => nomatch hd)), ((fun hd => nomatch hd)), ((fun hd => nomatch hd)), ((fun hd => nomatch hd)), ((fun hd => nomatch hd)), (SlB.no _ _), (SlB.no _ _), ((fun hd => nomatch hd)), (fun _ => heap_alloc_new wc _), ((fun hd => nomatch hd)), ((fun hd => nomatch hd)), ((fun hd => nomatch hd))⟩⟩
  case rdone =>
    rintro listed a wx ⟨d0, d1, d2, d3, d4, d5, d6, d7, d8, d9, d10, d11, d12, d13, d14, d15, d16, d17, d18, d19, rfl, v0, v1, v2, v3, v4, v5, v6, v7, v8, v9, v10, v11, v12, v13, v14, v15, v16, v17, v18, rfl, H⟩ hr
    obtain rfl : d0 = true := by simpa using ready_none hr 0 (by decide) (by simp [Region.binds])
    obtain rfl : d1 = true := by simpa using ready_none hr 1 (by decide) (by simp [Region.binds])
    obtain rfl : d2 = true := by simpa using ready_none hr 2 (by decide) (by simp [Region.binds])
    obtain rfl : d3 = true := by simpa using ready_none hr 3 (by decide) (by simp [Region.binds])
    obtain rfl : d4 = true := by simpa using ready_none hr 4 (by decide) (by simp [Region.binds])
    obtain rfl : d5 = true := by simpa using ready_none hr 5 (by decide) (by simp [Region.binds])
    obtain rfl : d6 = true := by simpa using ready_none hr 6 (by decide) (by simp [Region.binds])
    obtain rfl : d7 = true := by simpa using ready_none hr 7 (by decide) (by simp [Region.binds])
    obtain rfl : d8 = true := by simpa using ready_none hr 8 (by decide) (by simp [Region.binds])
    obtain rfl : d9 = true := by simpa using ready_none hr 9 (by decide) (by simp [Region.binds])
    obtain rfl : d10 = true := by simpa using ready_none hr 10 (by decide) (by simp [Region.binds])
    obtain rfl : d11 = true := by simpa using ready_none hr 11 (by decide) (by simp [Region.binds])
    obtain rfl : d12 = true := by simpa using ready_none hr 12 (by decide) (by simp [Region.binds])
    obtain rfl : d13 = true := by simpa using ready_none hr 13 (by decide) (by simp [Region.binds])
    obtain rfl : d14 = true := by simpa using ready_none hr 14 (by decide) (by simp [Region.binds])
    obtain rfl : d15 = true := by simpa using ready_none hr 15 (by decide) (by simp [Region.binds])
    obtain rfl : d16 = true := by simpa using ready_none hr 16 (by decide) (by simp [Region.binds])
    obtain rfl : d17 = true := by simpa using ready_none hr 17 (by decide) (by simp [Region.binds])
    obtain rfl : d18 = true := by simpa using ready_none hr 18 (by decide) (by simp [Region.binds])
    obtain rfl : d19 = true := by simpa using ready_none hr 19 (by decide) (by simp [Region.binds])
    obtain rfl := H.out.c0 rfl
    obtain rfl := H.out.c1 rfl
    obtain rfl := H.out.c2 rfl
    obtain rfl := H.out.c3 rfl
    obtain rfl := H.out.c5 rfl
    obtain rfl := H.out.c6 rfl
    obtain rfl := H.out.c7 rfl
    obtain rfl := H.out.c8 rfl
    obtain rfl := H.out.c9 rfl
    obtain rfl := H.out.c10 rfl
    obtain rfl := H.out.c11 rfl
    obtain rfl := H.out.c12 rfl
    obtain rfl := H.out.c13 rfl
    obtain rfl := H.out.c14 rfl
    obtain rfl := H.out.c15 rfl
    obtain rfl := H.out.c16 rfl
    obtain rfl := H.out.cG rfl
    obtain ⟨gA, rfl, hA, sA⟩ := H.out.cA rfl
    obtain ⟨gB, rfl, hB, sB⟩ := H.out.cB rfl
    have hE := H.out.e1 rfl
    have HF : Hid (_) := And.intro hE (And.intro hA (And.intro hB (And.intro sA (And.intro sB H.out.bel))))
    clear hr hA hB sA sB hE H
    exact HQ.out _ _ _ _ _ _ _ _ _ _ _ _ _ _ _ _ _ _ _ _ ⟨_, _, _, _, _, _, ⟨11, [], [pickI rB 5], 0, [], [(pickI rA (1 + (q : Int))), (pickI rB (1 + (q : Int))), (pickI rC (1 + (q : Int)))]⟩, HF.out.1, ⟨_, _, _, rfl, ⟨by simp [maxLen], (fun _ h => by cases h), .inl ⟨rfl, rfl⟩⟩, ⟨by simp [maxLen], (by intro x hx; simp at hx; subst hx; exact i64_pick5 _), .inr ⟨_, _, rfl, Nat.le_trans HB.out.size HF.out.2.2.2.1, lt_of_block HF.out.2.1, _, HF.out.2.1⟩⟩, ⟨by simp [maxLen], (by intro x hx; simp at hx; rcases hx with rfl | rfl | rfl <;> exact i64_pick _ q hq6), .inr ⟨_, _, rfl, Nat.le_trans HB.out.size HF.out.2.2.2.2.1, lt_of_block HF.out.2.2.1, _, HF.out.2.2.1⟩⟩, by simp [maxLen], (show I64 0 from ⟨by decide, by decide⟩)⟩, HB.out.trans (HF.out.2.2.2.2.2.mono HB.out.size), lt_of_block HF.out.1⟩

end Go.Proofs.Ytjdedfgdofceeaa
