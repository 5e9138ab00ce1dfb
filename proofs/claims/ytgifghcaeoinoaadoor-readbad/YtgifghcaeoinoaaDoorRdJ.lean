/-
  Words that look like calls: the table that maps them.
-/
import Derived.Test.YtgifghcaeoinoaaDoorRdI
import Derived.WideMake
import Derived.Deep.DeepCutAuto
namespace Go.Proofs.YtgifghcaeoinoaaDoor
open Go.RowKit
set_option linter.unusedSimpArgs false
set_option linter.unusedVariables false

theorem push_set (a : Array Obj) (o o' : Obj) : (a.push o).setIfInBounds a.size o' = a.push o' := by
  apply Array.ext_getElem?
  intro i
  simp [Array.getElem?_setIfInBounds, Array.getElem?_push]
  split
  · rename_i h; subst h; simp
  · rename_i h
    have : ¬ i = a.size := fun e => h e.symm
    simp [this]

theorem ins_alloc (w : World) (es : Array MapEntry) (c : Nat) (key : ByteArray) (val : Value) (hf : Instr.findNow .string (.string key) es.toList 0 = some none) :
    (Instr.mapUpdate 160 (.map (some w.heap.size)) (.string key) val).run Tryd.prog (w.alloc (.map es c)) = .ok () (w.alloc (.map (es.push { key := .string key, val := val, born := c }) (c + 1))) := by
  have hb : (w.alloc (.map es c)).heap[w.heap.size]? = some (.map es c) := heap_alloc_new w _
  have hc : (Instr.checkKey false 10000 9 (.string key)).run Tryd.prog (w.alloc (.map es c)) = .ok () (w.alloc (.map es c)) := MapKept.run_checkKey (k := .string key) Tryd.underlying9 (by simp [MapKept.IsKey]) false 9999
  have e : { (w.alloc (.map es c)) with heap := (w.alloc (.map es c)).heap.setIfInBounds w.heap.size (.map (es.push { key := .string key, val := val, born := c }) (c + 1)) } = w.alloc (.map (es.push { key := .string key, val := val, born := c }) (c + 1)) := by
    have := push_set w.heap (.map es c) (.map (es.push { key := .string key, val := val, born := c }) (c + 1))
    unfold World.alloc
    simp only [this]
  rw [← e]
  simp [Instr.mapUpdate, run_underlying Tryd.underlying160, MapKept.run_getObj_map hb, hc, MapKept.run_findKey Tryd.underlying9 hf, MapKept.run_setObj_map _ hb, Result.andThen]

def likeEs : Array MapEntry := #[{ key := .string ⟨#[108, 101, 110]⟩, val := .agg #[.int .i64 8, .int .i64 1], born := 0 }, { key := .string ⟨#[97, 112, 112, 101, 110, 100]⟩, val := .agg #[.int .i64 10, .int .i64 2], born := 1 },
  { key := .string ⟨#[115, 108, 105, 99, 101]⟩, val := .agg #[.int .i64 11, .int .i64 (-1)], born := 2 }, { key := .string ⟨#[109, 97, 112]⟩, val := .agg #[.int .i64 12, .int .i64 0], born := 3 }]

set_option maxHeartbeats 1000000 in
theorem callLikes_any (w : World) :
    Calls Tryd.prog 133 #[] w fun e w' => e = .returned (.map (some w.heap.size)) ∧ w' = w.alloc (.map likeEs 4) := by
  have hmm := @run_makeMap Tryd.prog
  have i1 := ins_alloc w #[] 0 ⟨#[108, 101, 110]⟩ (.agg #[.int .i64 8, .int .i64 1]) rfl
  have i2 := ins_alloc w #[{ key := .string ⟨#[108, 101, 110]⟩, val := .agg #[.int .i64 8, .int .i64 1], born := 0 }] 1 ⟨#[97, 112, 112, 101, 110, 100]⟩ (.agg #[.int .i64 10, .int .i64 2]) (by kernel_rfl)
  have i3 := ins_alloc w #[{ key := .string ⟨#[108, 101, 110]⟩, val := .agg #[.int .i64 8, .int .i64 1], born := 0 }, { key := .string ⟨#[97, 112, 112, 101, 110, 100]⟩, val := .agg #[.int .i64 10, .int .i64 2], born := 1 }] 2 ⟨#[115, 108, 105, 99, 101]⟩ (.agg #[.int .i64 11, .int .i64 (-1)]) (by kernel_rfl)
  have i4 := ins_alloc w #[{ key := .string ⟨#[108, 101, 110]⟩, val := .agg #[.int .i64 8, .int .i64 1], born := 0 }, { key := .string ⟨#[97, 112, 112, 101, 110, 100]⟩, val := .agg #[.int .i64 10, .int .i64 2], born := 1 }, { key := .string ⟨#[115, 108, 105, 99, 101]⟩, val := .agg #[.int .i64 11, .int .i64 (-1)], born := 2 }] 3 ⟨#[109, 97, 112]⟩ (.agg #[.int .i64 12, .int .i64 0]) (by kernel_rfl)
  simp only [List.push_toArray, List.cons_append, List.nil_append, Nat.reduceAdd] at i1 i2 i3 i4
  go_enter Tryd.func133, Tryd.ntmps133
  go_wp2
  go_ret
  exact ⟨rfl, rfl⟩

theorem bytes_beq (s t : List UInt8) : ((⟨s.toArray⟩ : ByteArray) == ⟨t.toArray⟩) = (s == t) := by
  rw [Bool.eq_iff_iff]
  show (s.toArray == t.toArray) = true ↔ _
  simp

theorem zeroLike (w : World) : (zeroValue 158).run Tryd.prog w = .ok (.agg #[.int .i64 0, .int .i64 0]) w := by kernel_rfl

def likeV (s : List UInt8) : Int × Int := (callLike s).getD (0, 0)

theorem find_like (s : List UInt8) : Instr.findNow .string (.string ⟨s.toArray⟩) likeEs.toList 0 = some (if s == [108, 101, 110] then some (0, .agg #[.int .i64 8, .int .i64 1]) else if s == [97, 112, 112, 101, 110, 100] then some (1, .agg #[.int .i64 10, .int .i64 2])
    else if s == [115, 108, 105, 99, 101] then some (2, .agg #[.int .i64 11, .int .i64 (-1)]) else if s == [109, 97, 112] then some (3, .agg #[.int .i64 12, .int .i64 0]) else none) := by
  simp only [likeEs, Instr.findNow, Instr.sameNow, bytes_beq]
  rcases (s == [108, 101, 110]) with _ | _ <;> rcases (s == [97, 112, 112, 101, 110, 100]) with _ | _ <;> rcases (s == [115, 108, 105, 99, 101]) with _ | _ <;> rcases (s == [109, 97, 112]) with _ | _ <;> rfl

theorem look_like (W : World) (B : Nat) (s : List UInt8) (hb : W.heap[B]? = some (.map likeEs 4)) :
    (Instr.lookup 160 (.map (some B)) (.string ⟨s.toArray⟩) true).run Tryd.prog W = .ok (.tuple #[.agg #[.int .i64 (likeV s).1, .int .i64 (likeV s).2], .bool (callLike s).isSome]) W := by
  have hc : ∀ e, (Instr.checkKey e 10000 9 (.string ⟨s.toArray⟩)).run Tryd.prog W = .ok () W := fun e => MapKept.run_checkKey (k := .string ⟨s.toArray⟩) Tryd.underlying9 (by simp [MapKept.IsKey]) e 9999
  have hf := MapKept.run_findKey (P := Tryd.prog) (w := W) Tryd.underlying9 (find_like s)
  unfold likeV callLike
  rcases h1 : (s == [108, 101, 110]) with _ | _ <;> rcases h2 : (s == [97, 112, 112, 101, 110, 100]) with _ | _ <;> rcases h3 : (s == [115, 108, 105, 99, 101]) with _ | _ <;> rcases h4 : (s == [109, 97, 112]) with _ | _ <;>
    simp only [h1, h2, h3, h4, Bool.false_eq_true, if_true, if_false] at hf ⊢ <;>
    simp [Instr.lookup, run_underlying Tryd.underlying160, MapKept.run_getObj_map hb, hc, hf, zeroLike, Result.andThen]

end Go.Proofs.YtgifghcaeoinoaaDoor
