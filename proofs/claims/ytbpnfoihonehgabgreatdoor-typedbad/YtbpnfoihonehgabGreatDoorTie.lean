/-
  DERIVED. GIVEN WITH THE SEED: THE PROGRAM's TIES (one call each: nine closed facts by the kernel) AND EACH ROW's TIE, after the 31st guide's Derived/Test/Toyas{Tie, Card}.lean. No idea stands in it: it is a product of the set-up. Laid BY PROGRAM, IN A SANDBOX (cutbox-door.mjs). By AI agents, Wed Nov 11 2026. No macro, syntax, notation, axiom, sorry.
-/
import Derived.Test.YtbpnfoihonehgabGreatDoorRows
import Derived.LaidByTextLater
import Derived.SevenTiedAt
import Derived.LaidSub
import Derived.LaidOnce
namespace Go.Proofs.YtbpnfoihonehgabGreatDoor
open Go
set_option maxRecDepth 100000
theorem seatTie1 : Tryz.prog.laidByTextLater [("math/bits.deBruijn32tab", Rows.laid_math_bits_deBruijn32tab), ("math/bits.deBruijn64tab", Rows.laid_math_bits_deBruijn64tab), ("internal/strconv.uint64pow10", Rows.laid_internal_strconv_uint64pow10), ("postern/word.keywords", Rows.laid_postern_word_keywords), ("postern/typed.argCounts", Rows.laid_postern_typed_argCounts), ("postern/typed.exprCounts", Rows.laid_postern_typed_exprCounts), ("postern/read.levels", Rows.laid_postern_read_levels), ("postern/read.typeWords", Rows.laid_postern_read_typeWords), ("postern/read.marks", Rows.laid_postern_read_marks)] [.data, .data, .data, .data, .data, .data, .data, .data, .data] true :=
  Program.laidByTextLater_by_one 72 8 65 (by kernel_rfl) (by kernel_rfl) (by kernel_rfl) (by kernel_rfl) (by kernel_rfl) (by kernel_rfl) (fun _ _ => by kernel_rfl)
theorem noOwnUnsafe : Tryz.pinned.checked.prog.headLifts.contains "ownunsafe" = false := by kernel_rfl
theorem tie : Tryz.prog.laidByTextLater [("math/bits.deBruijn32tab", Rows.laid_math_bits_deBruijn32tab), ("math/bits.deBruijn64tab", Rows.laid_math_bits_deBruijn64tab), ("internal/strconv.uint64pow10", Rows.laid_internal_strconv_uint64pow10), ("postern/word.keywords", Rows.laid_postern_word_keywords), ("postern/typed.argCounts", Rows.laid_postern_typed_argCounts), ("postern/typed.exprCounts", Rows.laid_postern_typed_exprCounts), ("postern/read.levels", Rows.laid_postern_read_levels), ("postern/read.typeWords", Rows.laid_postern_read_typeWords), ("postern/read.marks", Rows.laid_postern_read_marks)] [.data, .data, .data, .data, .data, .data, .data, .data, .data] true :=
  Program.laidByTextLater.sub seatTie1 ["math/bits.deBruijn32tab", "math/bits.deBruijn64tab", "internal/strconv.uint64pow10", "postern/word.keywords", "postern/typed.argCounts", "postern/typed.exprCounts", "postern/read.levels", "postern/read.typeWords", "postern/read.marks"] (by kernel_rfl) (by kernel_rfl)
theorem readGood_row_tie : Rows.readGoodRow.laidByTextAt .later Tryz.pinned [.data, .data, .data, .data, .data, .data, .data, .data, .data] true :=
  OpenClaim.laidByTextAt_later rfl rfl tie noOwnUnsafe
theorem tie2 : Tryz.prog.laidByTextLater [("postern/word.keywords", Rows.laid_postern_word_keywords), ("postern/typed.argCounts", Rows.laid_postern_typed_argCounts), ("postern/typed.exprCounts", Rows.laid_postern_typed_exprCounts), ("postern/read.levels", Rows.laid_postern_read_levels), ("postern/read.typeWords", Rows.laid_postern_read_typeWords), ("postern/read.marks", Rows.laid_postern_read_marks)] [.data, .data, .data, .data, .data, .data] true :=
  Program.laidByTextLater.sub seatTie1 ["postern/word.keywords", "postern/typed.argCounts", "postern/typed.exprCounts", "postern/read.levels", "postern/read.typeWords", "postern/read.marks"] (by kernel_rfl) (by kernel_rfl)
theorem typedBad_row_tie : Rows.typedBadRow.laidByTextAt .later Tryz.pinned [.data, .data, .data, .data, .data, .data] true :=
  OpenClaim.laidByTextAt_later rfl rfl tie2 noOwnUnsafe
theorem typedFalls_row_tie : Rows.typedFallsRow.laidByTextAt .later Tryz.pinned [.data, .data, .data, .data, .data, .data] true :=
  OpenClaim.laidByTextAt_later rfl rfl tie2 noOwnUnsafe
theorem readGoodUpto_row_tie : Rows.readGoodUptoRow.laidByTextAt .later Tryz.pinned [.data, .data, .data, .data, .data, .data, .data, .data, .data] true :=
  OpenClaim.laidByTextAt_later rfl rfl tie noOwnUnsafe
theorem typedBadUpto_row_tie : Rows.typedBadUptoRow.laidByTextAt .later Tryz.pinned [.data, .data, .data, .data, .data, .data] true :=
  OpenClaim.laidByTextAt_later rfl rfl tie2 noOwnUnsafe
theorem typedFallsUpto_row_tie : Rows.typedFallsUptoRow.laidByTextAt .later Tryz.pinned [.data, .data, .data, .data, .data, .data] true :=
  OpenClaim.laidByTextAt_later rfl rfl tie2 noOwnUnsafe
end Go.Proofs.YtbpnfoihonehgabGreatDoor
